/-
  COMPLETE: for every list of acts and every three texts, 'cairnkeep.Complete' returns true: what a store proves of each of its commits, of a key and of a range, is accepted with that commit's root, and tells what stood there.
  Conditions: none beyond the form's own (each text and list that is read takes at most 2^47 - 4096 bytes).
-/
import Derived.Test.YtekegfbjbainhaaKKA4
import Derived.Test.YtekegfbjbainhaaKJoin12
import Derived.ProofKit
import Derived.SizedLaws
import Derived.OpenShut
import Derived.Carry
import Derived.ChangeMaps5
import Derived.Deep.Slices
set_option linter.unusedVariables false
set_option linter.unusedSimpArgs false
namespace Go.Proofs.Ytekegfbjbainhaa
open Go.ChangeShapes Go.WideShapes Go.ChangeAt Go.RowKit Go.Deep
theorem Try.ownS : ownKnob Try.prog.godebug = none := by kernel_rfl
theorem Try.laidOutS : laidOutB Try.prog = true := by kernel_rfl
theorem Try.cellsAct : Try.prog.cellsOf 82 = 3 := by kernel_rfl
theorem Try.cellsInt : Try.prog.cellsOf 3 = 1 := by kernel_rfl
theorem Try.cellsStr : Try.prog.cellsOf 9 = 1 := by kernel_rfl
theorem list3 {α : Type} (l : List α) (h : l.length = 3) : ∃ c0 c1 c2, l = [c0, c1, c2] := by
 match l, h with
 | [c0, c1, c2], _ => exact ⟨c0, c1, c2, rfl⟩
theorem wf_i64 {x : Int} (h : (Lit.int .i64 x).wf = true) : -9223372036854775808 ≤ x ∧ x ≤ 9223372036854775807 := by
 simp only [Lit.wf, Bool.and_eq_true, decide_eq_true_eq] at h
 have e1 : IntKind.i64.min = -9223372036854775808 := by decide
 have e2 : IntKind.i64.max = 9223372036854775807 := by decide
 rw [e1, e2] at h
 exact h
theorem bytes_list (s : ByteArray) : s = ⟨s.data.toList.toArray⟩ := by simp
section
variable {H : Type} {enc : TypeId × Value → H} {w : World} {base : Nat} {sp : Nat → Bool} {held : Bool} {fuel : Nat}
theorem open_act {cs : List Value} {x : DataW H × List MemPlace} (h : DataW.trod enc Try.prog w base sp held fuel 82 cs = some x) :
  ∃ o : ActR, cs = o.cells ∧ x.1 = .agg [.lit (.int .i64 o.kind), .lit (.string o.key), .lit (.string o.val)] ∧ (Lit.int .i64 o.kind).wf = true := by
 obtain ⟨xs, m, rfl, rfl, hl, hx, hf⟩ := DataW.trod_struct Try.underlying82 h
 rw [Try.cellsAct] at hl
 obtain ⟨c0, c1, c2, rfl⟩ := list3 cs hl
 obtain ⟨y0, y1, y2, rfl⟩ := list3 xs hx
 have f0 : DataW.trod enc Try.prog w base sp held m 3 (List.take (Try.prog.cellsOf 3) (List.drop 0 [c0, c1, c2])) = some y0 := hf 0 _ rfl
 have f1 : DataW.trod enc Try.prog w base sp held m 9 (List.take (Try.prog.cellsOf 9) (List.drop 1 [c0, c1, c2])) = some y1 := hf 1 _ rfl
 have f2 : DataW.trod enc Try.prog w base sp held m 9 (List.take (Try.prog.cellsOf 9) (List.drop 2 [c0, c1, c2])) = some y2 := hf 2 _ rfl
 clear hf
 rw [Try.cellsInt] at f0
 rw [Try.cellsStr] at f1 f2
 obtain ⟨n0, e0, g0, w0⟩ := DataW.trod_int Try.underlying3 f0
 obtain ⟨s1, e1, g1, w1⟩ := DataW.trod_string Try.underlying9 f1
 obtain ⟨s2, e2, g2, w2⟩ := DataW.trod_string Try.underlying9 f2
 simp only [List.drop_zero, List.drop_succ_cons, List.take_succ_cons, List.take_zero, List.cons.injEq, and_true] at e0 e1 e2
 subst e0 e1 e2 g0 g1 g2
 refine ⟨⟨n0, s1.data.toList, s2.data.toList⟩, ?_, rfl, w0⟩
 unfold ActR.cells
 simp only [← bytes_list]
theorem weightsAll_in {P : Program} {e : TypeId} : ∀ {l : List (DataW H)} {d : DataW H}, d ∈ l → ∀ n ∈ d.weights P e, n ∈ DataW.weightsAll P e l
 | d' :: r, d, hd, n, hn => by
  simp only [DataW.weightsAll, List.mem_append]
  rcases List.mem_cons.1 hd with rfl | h
  ·exact Or.inl hn
  ·exact Or.inr (weightsAll_in h n hn)
theorem cell_lt {W : World} {b o : Nat} {v : Value} (h : W.cell? ⟨b, o, none⟩ = some v) : b < W.heap.size := by
 unfold World.cell? at h
 cases hx : W.heap[b]? with
 | none => simp [hx] at h
 | some c => exact (Array.getElem?_eq_some_iff.1 hx).1
set_option maxRecDepth 100000 in
theorem open_acts {W : World} {a0 : Option Addr} {len cap : Nat} {d0 : DataW H} {p : List MemPlace} (h : DataW.trod enc Try.prog W 0 (fun _ => true) true fuel 22 [.slice a0 len cap] = some (d0, p))
  (hsz : ∀ n ∈ d0.weights Try.prog 22, n ≤ reachBytes) :
  ∃ f : Nat → ActR, ActsAt W a0 len f ∧ len ≤ maxLen := by
 rcases open_slice Try.underlying22 h with ⟨hcs, _⟩ | ⟨a, len', cap', m, n, D, Pl, hcs, _, hl, hmx, hm, hx, hel⟩
 ·simp only [List.cons.injEq, Value.slice.injEq, and_true] at hcs
  obtain ⟨rfl, rfl, rfl⟩ := hcs
  exact ⟨fun _ => ⟨0, [], []⟩, fun i hi => absurd hi (Nat.not_lt_zero _), Nat.zero_le _⟩
 simp only [List.cons.injEq, Value.slice.injEq, and_true] at hcs
 obtain ⟨rfl, rfl, rfl⟩ := hcs
 simp only [Prod.mk.injEq] at hx
 obtain ⟨rfl, rfl⟩ := hx
 rw [Try.cellsAct] at hel
 have hone : ∀ i, i < len → ∃ o : ActR, (∃ b k, a = ⟨b, k, none⟩ ∧ b < W.heap.size ∧ W.rangeAt b (k + i * 3) o.cells) ∧ o.key.length ≤ 140737488351232 ∧ o.val.length ≤ 140737488351232 ∧ (Lit.int .i64 o.kind).wf = true := by
  intro i hi
  obtain ⟨cs', hc, ht⟩ := hel i (by rw [hm]; simp; omega)
  obtain ⟨o, rfl, hd, wk⟩ := open_act ht
  have hin : ∀ x ∈ (D i).weights Try.prog 82, x ≤ reachBytes := fun x hx => by
   refine hsz x ?_
   simp only [DataW.weights, Try.underlying22, List.mem_cons, List.mem_append]
   exact Or.inr (Or.inl (weightsAll_in (List.mem_map.2 ⟨i, List.mem_range.2 hi, rfl⟩) x hx))
  simp only at hd
  rw [hd] at hin
  simp only [DataW.weights, Try.underlying82, List.map_cons, List.map_nil, DataW.weightsEach, List.nil_append, List.append_nil, List.mem_append, List.mem_singleton] at hin
  have hr : reachBytes = 140737488351232 := rfl
  have z4 := hin o.key.length (by simp)
  have z5 := hin o.val.length (by simp)
  rw [hr] at z4 z5
  have hcell : ∀ j v, o.cells[j]? = some v → W.cell? ((a.add (i * 3)).add j) = some v := fun j v hv => by
   unfold World.cells? at hc
   rw [if_pos (Nat.zero_le _)] at hc
   have hj : j < 3 := (List.getElem?_eq_some_iff.1 hv).1
   have := mapM_some_get hc j j (by simp [hj])
   rw [this]; exact hv
  obtain ⟨b, k, sp⟩ := a
  have hs : sp = none := by
   by_cases hi0 : i = 0
   ·subst hi0
    have h00 := hcell 0 (.int .i64 o.kind) rfl
    simpa [Addr.add] using World.cell?_spot h00
   ·obtain ⟨cs0, hc0, _⟩ := hel 0 (by rw [hm]; simp; omega)
    unfold World.cells? at hc0
    rw [if_pos (Nat.zero_le _)] at hc0
    have h00 := mapM_some_get hc0 0 0 (by simp)
    have hlen := mapM_some_length hc0
    simp at hlen
    rw [List.getElem?_eq_getElem (by omega)] at h00
    simpa [Addr.add] using World.cell?_spot h00
  subst hs
  have hra : W.rangeAt b (k + i * 3) o.cells := fun j v hv => by
   have := hcell j v hv
   rw [addr_add, addr_add] at this
   exact this
  exact ⟨o, ⟨b, k, rfl, cell_lt (hra 0 (.int .i64 o.kind) rfl), hra⟩, z4, z5, wk⟩
 obtain ⟨f, hf⟩ := @choose_lt ActR ⟨⟨0, [], []⟩⟩ len _ hone
 refine ⟨f, fun i hi => ?_, by omega⟩
 obtain ⟨⟨b, k, rfl, hb, hra⟩, h4, h5, h6⟩ := hf i hi
 exact ⟨b, k, rfl, hb, hra, h4, h5, wf_i64 h6⟩
end
set_option maxRecDepth 100000 in
theorem complete_lifted (os : Os) (started : os.Started) (H : Type) (enc : TypeId × Value → H) :
  ReturnsInHanded {} Try.checked os 4 .any (Rows.completeSpec.pre6 enc Try.prog Try.f4 Rows.completeRow.domain false) (Rows.completeSpec.post enc Try.prog Try.f4 false true false false) := by
 refine returnsInHanded_of_change_sized (C := Try.checked) Try.ownS started (by kernel_rfl) Try.func4
  (ChangeSpec.witness6 (enc := enc) (C := Try.checked) false ⟨#[], #[.slice none 0 0, .string ⟨#[]⟩, .string ⟨#[]⟩, .string ⟨#[]⟩], []⟩ 8 (by kernel_rfl) (by kernel_rfl) (by kernel_rfl) (by kernel_rfl)) ?_
 intro W base args ds gs before hval0 hW _ hsz0 _
 have hsz : (DataW.weightsEach Try.prog (Try.f4.params.toList ++ Rows.completeSpec.plain.varTypes Try.prog) (ds ++ gs)).all (· ≤ reachBytes) = true := hsz0
 have hval : ∀ (j : Nat) t v, Try.f4.params[j]? = some t → args[j]? = some v → Value.okWide Try.prog W .any base t v := hval0
 have hW' := hW
 obtain ⟨p, q, hA0, hV, rfl, _, _⟩ := hW
 have hA : DataW.TrodAll enc Try.prog W 0 (fun _ => true) true Try.f4.params.toList args.toList ds p := hA0
 rw [Try.params4] at hA hval hsz
 obtain ⟨v0, v1, v2, v3, d0, d1, d2, d3, p0, p1, p2, p3, rfl, rfl, rfl, h0, h1, h2, h3⟩ := trodAll_four hA
 obtain ⟨rfl, rfl⟩ := trodVars_none hV
 obtain ⟨a0, len, cap, rfl⟩ := okWide_slice Try.underlying22 (hval 0 22 v0 rfl rfl)
 obtain ⟨s1, rfl, rfl, rfl, m1⟩ := Go.ChangeMaps.open_string Try.underlying9 (hval 1 9 v1 rfl rfl) h1
 obtain ⟨s2, rfl, rfl, rfl, m2⟩ := Go.ChangeMaps.open_string Try.underlying9 (hval 2 9 v2 rfl rfl) h2
 obtain ⟨s3, rfl, rfl, rfl, m3⟩ := Go.ChangeMaps.open_string Try.underlying9 (hval 3 9 v3 rfl rfl) h3
 have k0 := h0
 have lt0 : ∀ x ∈ p0, x.block < W.heap.size := by obtain ⟨m, hm⟩ := k0; exact DataW.trod_lt m _ _ _ hm
 obtain ⟨fuel, hf⟩ := h0
 have hw := fun (j : Nat) (t : TypeId) (d : DataW H) (e1 : _) (e2 : _) (n : Nat) (hn : n ∈ d.weights Try.prog t) => of_decide_eq_true (List.all_eq_true.1 hsz n (DataW.weights_mem_each (j := j) (t := t) e1 e2 n hn))
 obtain ⟨f, hs, hl⟩ := open_acts hf (hw 0 22 d0 rfl rfl)
 have hr : reachBytes = 140737488351232 := rfl
 have w1 := hw 1 9 _ rfl rfl s1.data.toList.length (by simp [DataW.weights])
 have w2 := hw 2 9 _ rfl rfl s2.data.toList.length (by simp [DataW.weights])
 have w3 := hw 3 9 _ rfl rfl s3.data.toList.length (by simp [DataW.weights])
 rw [hr] at w1 w2 w3
 clear hA0 hval0 hsz0
 have hmain := complete_any a0 len cap f s1.data.toList s2.data.toList s3.data.toList W hs (by unfold maxLen at hl; omega) w1 w2 w3
 rw [← bytes_list, ← bytes_list, ← bytes_list] at hmain
 refine hmain.mono fun e W' ⟨he, bel⟩ => ?_
 subst he
 exact ⟨_, rfl, _, _, _, [], _, [], hW', trodAll_mk1 (shut_bool Try.underlying4 _), trodAll_mk4 (Below.trod Try.laidOutS (by kernel_rfl) (of_decide_eq_true (by kernel_rfl)) k0 bel lt0) (Go.ChangeMaps.shut_string Try.underlying9 m1) (Go.ChangeMaps.shut_string Try.underlying9 m2) (Go.ChangeMaps.shut_string Try.underlying9 m3), rfl, bel.frame _, fun h => by cases h⟩
theorem complete_holds : Rows.CompleteSaid :=
 OpenClaim.holds_of_wide 4 Try.f4 rfl rfl rfl rfl rfl rfl rfl ⟨rfl, rfl, rfl, rfl, rfl⟩ rfl rfl rfl rfl rfl (by kernel_rfl) Try.func4 (by kernel_rfl)
  (of_decide_eq_true (by kernel_rfl)) (by unfold Func.isWrapper; first | (rw [if_pos (by decide +kernel)]; kernel_rfl) | (rw [if_neg (by decide +kernel)]; exact ⟨rfl, rfl⟩))
  (fun os started H enc _ => complete_lifted os started H enc)
#print axioms complete_holds
end Go.Proofs.Ytekegfbjbainhaa
