/-
  ALL, where what it reads is of bulk at most 1048576: for every such script 'cairnlaw.All' returns true (whatever stores the script makes, whatever it puts, deletes, commits, asks proofs and paths of, and whatever bytes, heads and paths it has checked, its own or the document's, turned or not: Digest, New, Put, Delete, Commit, Prove, ProveRange, Included, Extended, Check, CheckRange, CheckIncluded and CheckExtended of the program answer as the document's do, in every order; what was lent comes back as it was; what came out stays its owner's), and what was handed in reads as it did.
  Conditions: none beyond the form's own.
-/
import Derived.Test.YtekegfbjbainhaaGreatKJoin14
import Derived.Test.YtekegfbjbainhaaGreatKJoin37
import Derived.Test.YtekegfbjbainhaaGreatKJoin40
import Derived.Test.YtekegfbjbainhaaGreatKLog29
import Derived.Test.YtekegfbjbainhaaGreatKJoin13
import Derived.Test.YtekegfbjbainhaaGreatKJoin41
import Derived.JoinedCond
import Derived.Deep.CondSized
set_option linter.unusedVariables false
set_option linter.unusedSimpArgs false
namespace Go.Proofs.YtekegfbjbainhaaGreat
open Go.ChangeShapes Go.WideShapes Go.ChangeAt Go.RowKit Go.Deep
theorem Tryz.ownS : ownKnob Tryz.prog.godebug = none := by kernel_rfl
theorem Tryz.laidOutS : laidOutB Tryz.prog = true := by kernel_rfl
theorem wf_i64 {x : Int} (h : (Lit.int .i64 x).wf = true) : -9223372036854775808 ≤ x ∧ x ≤ 9223372036854775807 := by
 simp only [Lit.wf, Bool.and_eq_true, decide_eq_true_eq] at h
 have e1 : IntKind.i64.min = -9223372036854775808 := by decide
 have e2 : IntKind.i64.max = 9223372036854775807 := by decide
 rw [e1, e2] at h
 exact h
section
variable {H : Type} {enc : TypeId × Value → H} {fuel : Nat}
theorem bulk_part {d : DataW H} {l : List (DataW H)} (h : d ∈ l) : Rows.uptoBulk d ≤ Rows.uptoBulkAll l := by
 induction l with
 | nil => cases h
 | cons x r ih =>
  simp only [Rows.uptoBulkAll]
  cases List.mem_cons.1 h with
  | inl e => subst e; omega
  | inr e => have := ih e; omega
theorem bulk_two : ∀ (l : List (DataW H)), (∀ d ∈ l, 2 ≤ Rows.uptoBulk d) → l.length * 2 ≤ Rows.uptoBulkAll l
 | [], _ => by simp
 | d :: l, h => by
  have h1 := h d (by simp)
  have h2 := bulk_two l (fun x hx => h x (by simp [hx]))
  simp only [Rows.uptoBulkAll, List.length_cons]
  omega
set_option maxRecDepth 100000 in
theorem script_bulk {W : World} {a0 : Option Addr} {len cap : Nat} {d0 : DataW H} {p : List MemPlace} (h : DataW.trod enc Tryz.prog W 0 (fun _ => true) true fuel 22 [.slice a0 len cap] = some (d0, p))
  (hb : Rows.uptoBulk d0 ≤ 1048576) {f : Nat → OpR} (hs : ScriptAt W a0 len f) : len ≤ 524288 ∧ ∀ i, i < len → (f i).u.size ≤ 1048576 := by
 rcases open_slice Tryz.underlying22 h with ⟨hcs, _⟩ | ⟨a, len', cap', m, n, D, Pl, hcs, _, hl, hmx, hm, hx, hel⟩
 ·simp only [List.cons.injEq, Value.slice.injEq, and_true] at hcs
  obtain ⟨rfl, rfl, rfl⟩ := hcs
  exact ⟨Nat.zero_le _, fun i hi => absurd hi (Nat.not_lt_zero _)⟩
 simp only [List.cons.injEq, Value.slice.injEq, and_true] at hcs
 obtain ⟨rfl, rfl, rfl⟩ := hcs
 simp only [Prod.mk.injEq] at hx
 obtain ⟨rfl, rfl⟩ := hx
 simp only [Rows.uptoBulk] at hb
 rw [Tryz.cells40] at hel
 have hone : ∀ i, i < len → 2 ≤ Rows.uptoBulk (D i) ∧ (f i).u.size ≤ Rows.uptoBulk (D i) := by
  intro i hi
  obtain ⟨cs', hc, ht⟩ := hel i (by rw [hm]; simp; omega)
  obtain ⟨o, dD, dE, dP, m', pP, rfl, hd, wk, wa, wb, wc, hld, hle, hp⟩ := open_op ht
  have hcell : ∀ j v, o.cells[j]? = some v → W.cell? ((a.add (i * 24)).add j) = some v := fun j v hv => by
   unfold World.cells? at hc
   rw [if_pos (Nat.zero_le _)] at hc
   have hj : j < 24 := (List.getElem?_eq_some_iff.1 hv).1
   have := mapM_some_get hc j j (by simp [hj])
   rw [this]; exact hv
  obtain ⟨b, k, ha, _, hra, _⟩ := hs i hi
  simp only [Option.some.injEq] at ha
  subst ha
  have h6 := hcell 6 (.string o.u) rfl
  rw [addr_add, addr_add] at h6
  have h6' := hra 6 (.string (f i).u) rfl
  have he : o.u = (f i).u := by
   have := h6.symm.trans h6'
   simpa using this
  simp only at hd
  rw [hd]
  simp only [Rows.uptoBulk, Rows.uptoBulkAll]
  have e : o.u.data.toList.length = (f i).u.size := by rw [Array.length_toList, he]; rfl
  omega
 have hmem : ∀ i, i < len → D i ∈ (List.range len).map D := fun i hi => List.mem_map.2 ⟨i, List.mem_range.2 hi, rfl⟩
 have h2 := bulk_two ((List.range len).map D) (fun d hd => by
  obtain ⟨i, hi, rfl⟩ := List.mem_map.1 hd
  exact (hone i (List.mem_range.1 hi)).1)
 rw [List.length_map, List.length_range] at h2
 refine ⟨by omega, fun i hi => ?_⟩
 have h3 := (hone i hi).2
 have h4 := bulk_part (hmem i hi)
 omega
end
theorem stored_kinds (o : OpR) (hk : o.kind = 3 ∨ o.kind = 4 ∨ o.kind = 5) (h1 : o.s.size ≤ 140737488351232) (h2 : o.t.size ≤ 140737488351232) : StoredOk o.cells := by
 intro p W d hd
 rcases hk with hk | hk | hk
 ·exact stored_put d o.cells o.b o.s o.t p W hd (by rw [← hk]; rfl) rfl rfl rfl h1 h2
 ·exact stored_del d o.cells o.b o.s p W hd (by rw [← hk]; rfl) rfl rfl h1
 ·by_cases h40 : d.tds.length < 40
  ·exact stored_com_ok d o.cells p W hd (by rw [← hk]; rfl) h40
  ·exact stored_com_full d o.cells p W hd (by rw [← hk]; rfl) (by have := hd.t40; omega)
theorem lies_ok : LiesOk := fun o wb ps ds B d W h hd h0 hk ha hb hc hp => by
 obtain ⟨a, cap, l, hv, g1, g2, _, _, _⟩ := hp
 by_cases hz : 0 < l.length
 ·exact asked_lies1 o.cells o.a o.b o.c l a cap wb ps ds B d W h hd h0 (by rw [← hk]; rfl) rfl rfl rfl (by rw [← hv]; rfl) ha.1 ha.2 hb.1 hb.2 hc.1 hc.2 g1 g2 hz
 ·exact asked_lies0 o.cells o.a o.b o.c l a cap wb ps ds B d W h hd h0 (by rw [← hk]; rfl) rfl rfl rfl (by rw [← hv]; rfl) ha.1 ha.2 hb.1 hb.2 hc.1 hc.2 g1 g2 hz
set_option maxRecDepth 100000 in
theorem all_lifted (os : Os) (started : os.Started) (H : Type) (enc : TypeId × Value → H) (F : Stop.Interp) :
  ReturnsInHanded {} Tryz.checked os 8 .any ((Rows.OpenSpec.upto Rows.allSpec).pre6 enc Tryz.prog Tryz.f8 Rows.allUptoRow.domain false) (((Rows.OpenSpec.upto Rows.allSpec).at F).post enc Tryz.prog Tryz.f8 false true false false) := by
 refine returnsInHanded_of_cond_sized (C := Tryz.checked) (s := Rows.OpenSpec.upto Rows.allSpec) (k := Rows.uptoSmall) rfl Tryz.ownS started (by kernel_rfl) Tryz.func8
  (OpenSpec.witness (enc := enc) (C := Tryz.checked) (s := Rows.OpenSpec.upto Rows.allSpec) (k := Rows.uptoSmall) rfl false ⟨#[], #[.slice none 0 0], []⟩ 8 (by kernel_rfl) (by kernel_rfl) (by kernel_rfl) (x := ([.nil], [], [])) (by kernel_rfl) rfl (by kernel_rfl)) ?_
 intro W base args ds gs before hval0 hW _ hk hsz0 _
 have hsz : (DataW.weightsEach Tryz.prog (Tryz.f8.params.toList ++ Rows.allSpec.plain.varTypes Tryz.prog) (ds ++ gs)).all (· ≤ reachBytes) = true := hsz0
 have hval : ∀ (j : Nat) t v, Tryz.f8.params[j]? = some t → args[j]? = some v → Value.okWide Tryz.prog W .any base t v := hval0
 have hW' := hW
 obtain ⟨p, q, hA0, hV, rfl, _, _⟩ := hW
 have hA : DataW.TrodAll enc Tryz.prog W 0 (fun _ => true) true Tryz.f8.params.toList args.toList ds p := hA0
 rw [Tryz.params8] at hA hval hsz
 obtain ⟨v0, d0, rfl, rfl, h0⟩ := trodAll_one hA
 obtain ⟨rfl, rfl⟩ := trodVars_none hV
 obtain ⟨a0, len, cap, rfl⟩ := okWide_slice Tryz.underlying22 (hval 0 22 v0 rfl rfl)
 have k0 := h0
 have lt0 : ∀ x ∈ p, x.block < W.heap.size := by obtain ⟨m, hm⟩ := k0; exact DataW.trod_lt m _ _ _ hm
 obtain ⟨fuel, hf⟩ := h0
 have hbulk : Rows.uptoBulk d0 ≤ 1048576 := by
  have hq : Rows.uptoBulkAll ([d0] ++ []) ≤ 1048576 := of_decide_eq_true hk
  simp only [List.append_nil, Rows.uptoBulkAll] at hq
  omega
 obtain ⟨f, hs, hl, hok⟩ := open_script hf (fun n hn => of_decide_eq_true (List.all_eq_true.1 hsz n (DataW.weights_mem_each (j := 0) (t := 22) rfl rfl n hn)))
 obtain ⟨hlen, hu⟩ := script_bulk hf hbulk hs
 clear hA0 hval0 hsz0
 refine (all_law lies_ok a0 len cap f W hlen hs (fun i hi => ⟨wf_i64 (hok i hi).2.1, wf_i64 (hok i hi).2.2.1, wf_i64 (hok i hi).2.2.2.1, hu i hi, open_path (hok i hi)⟩) stored_kinds).mono fun e W' ⟨he, bel⟩ => ?_
 subst he
 exact ⟨_, rfl, _, _, _, [], _, [], hW', trodAll_mk1 (shut_bool Tryz.underlying4 _), trodAll_mk1 (Below.trod Tryz.laidOutS (by kernel_rfl) (of_decide_eq_true (by kernel_rfl)) k0 bel lt0), rfl, bel.frame _, fun h => by cases h⟩
theorem all_holds : Rows.AllUptoSaid :=
 OpenClaim.holds_of_cond 8 Tryz.f8 rfl rfl rfl rfl rfl rfl rfl ⟨rfl, rfl, rfl, rfl, rfl⟩ rfl rfl rfl rfl rfl (by kernel_rfl) Tryz.func8 (by kernel_rfl)
  (of_decide_eq_true (by kernel_rfl)) (by unfold Func.isWrapper; first | (rw [if_pos (by decide +kernel)]; kernel_rfl) | (rw [if_neg (by decide +kernel)]; exact ⟨rfl, rfl⟩))
  (fun os started H enc _ F => all_lifted os started H enc F)
#print axioms all_holds
end Go.Proofs.YtekegfbjbainhaaGreat
