/-
  GROWN: whatever the acts, the numbers and the paths, 'cairnkeep.Grown' returns true: a store's own paths are accepted, and with whatever path no other root is accepted at a place, or two things that are put together have one digest.
  Conditions: none beyond the form's own (each text and list that is read takes at most 2^47 - 4096 bytes).
-/
import Derived.Test.YtekegfbjbainhaaKJoin25
set_option linter.unusedVariables false
set_option linter.unusedSimpArgs false
namespace Go.Proofs.Ytekegfbjbainhaa
open Go.ChangeShapes Go.WideShapes Go.ChangeAt Go.RowKit Go.Deep
theorem Try.cellsDigR : Try.prog.cellsOf 45 = 8 := by kernel_rfl
theorem Try.cellsDgsR : Try.prog.cellsOf 73 = 1 := by kernel_rfl
theorem Try.cellsU8R : Try.prog.cellsOf 5 = 1 := by kernel_rfl
theorem digsC_get (l : List (List UInt8)) (h : ∀ d ∈ l, d.length = 8) (q j : Nat) (hq : q < l.length) (hj : j < 8) : (digsC l)[q * 8 + j]? = (l[q].map u8c)[j]? := by
 have hd := digsC_drop l h q (by omega)
 rw [List.drop_eq_getElem_cons hq] at hd
 rw [← List.getElem?_drop, hd]
 simp only [digsC, List.flatMap_cons]
 rw [List.getElem?_append_left (by simp [h _ (List.getElem_mem hq)]; exact hj)]
section
variable {H : Type} {enc : TypeId × Value → H}
theorem open_dig {W : World} {fuel : Nat} {cs : List Value} {x : DataW H × List MemPlace} (h : DataW.trod enc Try.prog W 0 (fun _ => true) true fuel 45 cs = some x) :
  ∃ d : List UInt8, d.length = 8 ∧ cs = d.map u8c := by
 obtain ⟨xs, m, rfl, rfl, hl, hx, hf⟩ := DataW.trod_array Try.underlying45 h
 rw [Try.cellsDigR] at hl
 rw [Try.cellsU8R] at hf
 refine ⟨cs.map (fun v => UInt8.ofNat (intOf v).toNat), by simp [hl], ?_⟩
 rw [List.map_map]
 conv => lhs; rw [← List.map_id cs]
 apply List.map_congr_left
 intro v hv
 obtain ⟨i, hi, rfl⟩ := List.getElem_of_mem hv
 have h1 := hf i (by omega)
 rw [List.getElem?_eq_getElem (by omega)] at h1
 rw [Nat.mul_one] at h1
 have e1 : (cs.drop i).take 1 = [cs[i]] := by
  rw [List.drop_eq_getElem_cons hi]; rfl
 rw [e1] at h1
 obtain ⟨n, hn, _, hwf⟩ := DataW.trod_int Try.underlying5 h1
 have hn' : cs[i] = .int .u8 n := by simpa using hn
 rw [hn']
 obtain ⟨z, rfl⟩ := wf_u8 hwf
 simp [u8c, intOf]
set_option maxRecDepth 100000 in
theorem open_digs {W : World} {fuel : Nat} {v : Value} {d0 : DataW H} {p0 : List MemPlace} (ht : DataW.trod enc Try.prog W 0 (fun _ => true) true fuel 73 [v] = some (d0, p0)) : ∃ (s : SlR) (L : List (List UInt8)), v = .slice s.a s.n s.cap ∧ DgL W s L := by
 rcases open_slice Try.underlying73 ht with ⟨hcs, _⟩ | ⟨a, len, cap, m, n, D, Pl, hcs, _, hl, hmx, hm, hx, hel⟩
 ·simp only [List.cons.injEq, and_true] at hcs
  exact ⟨⟨none, 0, 0⟩, [], hcs, ⟨fun i hi => absurd hi (Nat.not_lt_zero _), by simp⟩, rfl, Nat.le_refl _, by simp⟩
 simp only [List.cons.injEq, and_true] at hcs
 rw [Try.cellsDigR] at hel
 have hone : ∀ i, i < len → ∃ d : List UInt8, d.length = 8 ∧ ∀ j v, (d.map u8c)[j]? = some v → W.cell? ((a.add (i * 8)).add j) = some v := by
  intro i hi
  obtain ⟨cs', hc, ht'⟩ := hel i (by rw [hm]; simp; omega)
  obtain ⟨d, hd, rfl⟩ := open_dig ht'
  refine ⟨d, hd, fun j v hv => ?_⟩
  unfold World.cells? at hc
  rw [if_pos (Nat.zero_le _)] at hc
  have hj : j < 8 := by have := (List.getElem?_eq_some_iff.1 hv).1; simp [hd] at this; exact this
  have := mapM_some_get hc j j (by simp [hj])
  rw [this]; exact hv
 obtain ⟨f, hf⟩ := @choose_lt (List UInt8) ⟨[]⟩ len _ hone
 have hlen : ((List.range len).map f).length = len := by simp
 have h8 : ∀ d ∈ (List.range len).map f, d.length = 8 := fun d hd => by
  obtain ⟨i, hi, rfl⟩ := List.mem_map.1 hd
  exact (hf i (List.mem_range.1 hi)).1
 refine ⟨⟨some a, len, cap⟩, (List.range len).map f, hcs, ⟨fun i hi => ?_, h8⟩, hlen.symm, hl, by unfold maxLen at hmx; simp only; omega⟩
 have hdl := digsC_length _ h8
 rw [hlen] at hdl
 have hq : i / 8 < len := by omega
 have hj : i % 8 < 8 := Nat.mod_lt _ (by omega)
 obtain ⟨b, k, sp⟩ := a
 have hs : sp = none := by
  obtain ⟨hd0, h00⟩ := hf 0 (by omega)
  obtain ⟨x, hx⟩ : ∃ x, ((f 0).map u8c)[0]? = some x := ⟨_, List.getElem?_eq_getElem (by simp [hd0])⟩
  have := h00 0 x hx
  simpa [Addr.add] using World.cell?_spot this
 subst hs
 have hv : (digsC ((List.range len).map f))[i]? = ((f (i / 8)).map u8c)[i % 8]? := by
  have := digsC_get _ h8 (i / 8) (i % 8) (by rw [hlen]; exact hq) hj
  rw [show i / 8 * 8 + i % 8 = i by omega] at this
  rw [this]
  simp
 rw [List.getElem?_eq_getElem hi] at hv
 have hcell := (hf (i / 8) hq).2 (i % 8) _ hv.symm
 rw [addr_add, addr_add, show k + i / 8 * 8 + i % 8 = k + i by omega] at hcell
 exact ⟨b, k, rfl, cell_lt hcell, hcell⟩
set_option maxRecDepth 100000 in
theorem open_paths {W : World} {fuel : Nat} {a0 : Option Addr} {len cap : Nat} {d0 : DataW H} {p : List MemPlace} (h : DataW.trod enc Try.prog W 0 (fun _ => true) true fuel 72 [.slice a0 len cap] = some (d0, p)) : PathsAt W a0 len ∧ len ≤ maxLen := by
 rcases open_slice1 Try.underlying72 Try.cellsDgsR h with ⟨hcs, _⟩ | ⟨a, len', cap', m, n, V, D, Pl, hcs, _, hl, hmx, hm, hx, hel⟩
 ·simp only [List.cons.injEq, Value.slice.injEq, and_true] at hcs
  obtain ⟨rfl, rfl, rfl⟩ := hcs
  exact ⟨fun i hi => absurd hi (Nat.not_lt_zero _), Nat.zero_le _⟩
 simp only [List.cons.injEq, Value.slice.injEq, and_true] at hcs
 obtain ⟨rfl, rfl, rfl⟩ := hcs
 refine ⟨fun k hk => ?_, by omega⟩
 obtain ⟨h1, h2⟩ := hel k (by rw [hm]; simp; omega)
 obtain ⟨s, L, hv, hd⟩ := open_digs h2
 obtain ⟨b, o, sp⟩ := a
 have hs : sp = none := by
  obtain ⟨h00, _⟩ := hel 0 (by rw [hm]; simp; omega)
  simpa [Addr.add] using World.cell?_spot h00
 subst hs
 rw [addr_add, hv] at h1
 exact ⟨b, o, s, L, rfl, cell_lt h1, h1, hd⟩
end
set_option maxRecDepth 100000 in
theorem grown_lifted (os : Os) (started : os.Started) (H : Type) (enc : TypeId × Value → H) :
  ReturnsInHanded {} Try.checked os 7 .any (Rows.grownSpec.pre6 enc Try.prog Try.f7 Rows.grownRow.domain false) (Rows.grownSpec.post enc Try.prog Try.f7 false true false false) := by
 refine returnsInHanded_of_change_sized (C := Try.checked) Try.ownS started (by kernel_rfl) Try.func7
  (ChangeSpec.witness6 (enc := enc) (C := Try.checked) false ⟨#[], #[.slice none 0 0, .int .i64 0, .int .i64 0, .int .i64 0, .slice none 0 0, .int .i64 0, .int .i64 0], []⟩ 8 (by kernel_rfl) (by kernel_rfl) (by kernel_rfl) (by kernel_rfl)) ?_
 intro W base args ds gs before hval0 hW _ hsz0 _
 have hsz : (DataW.weightsEach Try.prog (Try.f7.params.toList ++ Rows.grownSpec.plain.varTypes Try.prog) (ds ++ gs)).all (· ≤ reachBytes) = true := hsz0
 have hval : ∀ (j : Nat) t v, Try.f7.params[j]? = some t → args[j]? = some v → Value.okWide Try.prog W .any base t v := hval0
 have hW' := hW
 obtain ⟨p, q, hA0, hV, rfl, _, _⟩ := hW
 have hA : DataW.TrodAll enc Try.prog W 0 (fun _ => true) true Try.f7.params.toList args.toList ds p := hA0
 rw [Try.params7] at hA hval hsz
 obtain ⟨v0, v1, v2, v3, v4, v5, v6, d0, d1, d2, d3, d4, d5, d6, p0, p1, p2, p3, p4, p5, p6, rfl, rfl, rfl, h0, h1, h2, h3, h4, h5, h6⟩ := trodAll_7 hA
 obtain ⟨rfl, rfl⟩ := trodVars_none hV
 obtain ⟨a0, len, cap, rfl⟩ := okWide_slice Try.underlying22 (hval 0 22 v0 rfl rfl)
 obtain ⟨a4, len4, cap4, rfl⟩ := okWide_slice Try.underlying72 (hval 4 72 v4 rfl rfl)
 have k0 := h0
 have k1 := h1
 have k2 := h2
 have k3 := h3
 have k4 := h4
 have k5 := h5
 have k6 := h6
 have lt0 : ∀ x ∈ p0, x.block < W.heap.size := by obtain ⟨m, hm⟩ := k0; exact DataW.trod_lt m _ _ _ hm
 have lt1 : ∀ x ∈ p1, x.block < W.heap.size := by obtain ⟨m, hm⟩ := k1; exact DataW.trod_lt m _ _ _ hm
 have lt2 : ∀ x ∈ p2, x.block < W.heap.size := by obtain ⟨m, hm⟩ := k2; exact DataW.trod_lt m _ _ _ hm
 have lt3 : ∀ x ∈ p3, x.block < W.heap.size := by obtain ⟨m, hm⟩ := k3; exact DataW.trod_lt m _ _ _ hm
 have lt4 : ∀ x ∈ p4, x.block < W.heap.size := by obtain ⟨m, hm⟩ := k4; exact DataW.trod_lt m _ _ _ hm
 have lt5 : ∀ x ∈ p5, x.block < W.heap.size := by obtain ⟨m, hm⟩ := k5; exact DataW.trod_lt m _ _ _ hm
 have lt6 : ∀ x ∈ p6, x.block < W.heap.size := by obtain ⟨m, hm⟩ := k6; exact DataW.trod_lt m _ _ _ hm
 obtain ⟨fuel, hf⟩ := h0
 obtain ⟨fuel1, hf1⟩ := h1
 obtain ⟨fuel2, hf2⟩ := h2
 obtain ⟨fuel3, hf3⟩ := h3
 obtain ⟨fuel4, hf4⟩ := h4
 obtain ⟨fuel5, hf5⟩ := h5
 obtain ⟨fuel6, hf6⟩ := h6
 obtain ⟨n1, rfl⟩ := okWide_int Try.underlying3 (hval 1 3 v1 rfl rfl)
 obtain ⟨n2, rfl⟩ := okWide_int Try.underlying3 (hval 2 3 v2 rfl rfl)
 obtain ⟨n3, rfl⟩ := okWide_int Try.underlying3 (hval 3 3 v3 rfl rfl)
 obtain ⟨n5, rfl⟩ := okWide_int Try.underlying3 (hval 5 3 v5 rfl rfl)
 obtain ⟨n6, rfl⟩ := okWide_int Try.underlying3 (hval 6 3 v6 rfl rfl)
 obtain ⟨c1, e1, _, w1⟩ := DataW.trod_int Try.underlying3 hf1
 cases e1
 obtain ⟨c2, e2, _, w2⟩ := DataW.trod_int Try.underlying3 hf2
 cases e2
 obtain ⟨c3, e3, _, w3⟩ := DataW.trod_int Try.underlying3 hf3
 cases e3
 obtain ⟨c5, e5, _, w5⟩ := DataW.trod_int Try.underlying3 hf5
 cases e5
 obtain ⟨c6, e6, _, w6⟩ := DataW.trod_int Try.underlying3 hf6
 cases e6
 have hw := fun (j : Nat) (t : TypeId) (d : DataW H) (e1 : _) (e2 : _) (n : Nat) (hn : n ∈ d.weights Try.prog t) => of_decide_eq_true (List.all_eq_true.1 hsz n (DataW.weights_mem_each (j := j) (t := t) e1 e2 n hn))
 obtain ⟨f, hs, hl⟩ := open_acts hf (hw 0 22 d0 rfl rfl)
 obtain ⟨hpt, hpl⟩ := open_paths hf4
 clear hA0 hval0 hsz0
 have hmain := grown_any a0 len cap f n1 n2 n3 a4 len4 cap4 n5 n6 W hs (by unfold maxLen at hl; omega) (wf_i64 w1) (wf_i64 w2) (wf_i64 w3) (wf_i64 w5) (wf_i64 w6) hpt (by unfold maxLen at hpl; omega)
 refine hmain.mono fun e W' ⟨he, bel⟩ => ?_
 subst he
 exact ⟨_, rfl, _, _, _, [], _, [], hW', trodAll_mk1 (shut_bool Try.underlying4 _), trodAll_c (Below.trod Try.laidOutS (by kernel_rfl) (of_decide_eq_true (by kernel_rfl)) k0 bel lt0) (trodAll_c (Below.trod Try.laidOutS (by kernel_rfl) (of_decide_eq_true (by kernel_rfl)) k1 bel lt1) (trodAll_c (Below.trod Try.laidOutS (by kernel_rfl) (of_decide_eq_true (by kernel_rfl)) k2 bel lt2) (trodAll_c (Below.trod Try.laidOutS (by kernel_rfl) (of_decide_eq_true (by kernel_rfl)) k3 bel lt3) (trodAll_mk3 (Below.trod Try.laidOutS (by kernel_rfl) (of_decide_eq_true (by kernel_rfl)) k4 bel lt4) (Below.trod Try.laidOutS (by kernel_rfl) (of_decide_eq_true (by kernel_rfl)) k5 bel lt5) (Below.trod Try.laidOutS (by kernel_rfl) (of_decide_eq_true (by kernel_rfl)) k6 bel lt6))))), rfl, bel.frame _, fun h => by cases h⟩
theorem grown_holds : Rows.GrownSaid :=
 OpenClaim.holds_of_wide 7 Try.f7 rfl rfl rfl rfl rfl rfl rfl ⟨rfl, rfl, rfl, rfl, rfl⟩ rfl rfl rfl rfl rfl (by kernel_rfl) Try.func7 (by kernel_rfl)
  (of_decide_eq_true (by kernel_rfl)) (by unfold Func.isWrapper; first | (rw [if_pos (by decide +kernel)]; kernel_rfl) | (rw [if_neg (by decide +kernel)]; exact ⟨rfl, rfl⟩))
  (fun os started H enc _ => grown_lifted os started H enc)
#print axioms grown_holds
end Go.Proofs.Ytekegfbjbainhaa
