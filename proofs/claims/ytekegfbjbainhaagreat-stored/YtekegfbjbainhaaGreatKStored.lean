/-
  PROVED: for every script, 'cairnlaw.Stored' returns true (whatever stores the script makes, and whatever it puts, deletes and commits, in whatever order: each Put, Delete and Commit of the program's stores answers as the document's store does, error, root and head, and what was lent, spare room too, is as it was), and the script reads afterwards as it read before.
  Conditions: none beyond the form's own (each text and list that is read takes at most 2^47 - 4096 bytes).
-/
import Derived.Test.YtekegfbjbainhaaGreatKJoin3
import Derived.Test.YtekegfbjbainhaaGreatKJoin18
import Derived.Test.YtekegfbjbainhaaGreatKLaw8
import Derived.Test.YtekegfbjbainhaaGreatKLaw9
namespace Go.Proofs.YtekegfbjbainhaaGreat
set_option linter.unusedVariables false
set_option linter.unusedSimpArgs false
open Go.ChangeShapes Go.WideShapes Go.ChangeAt Go.RowKit Go.Deep

theorem Tryz.ownS : ownKnob Tryz.prog.godebug = none := by kernel_rfl
theorem Tryz.laidOutS : laidOutB Tryz.prog = true := by kernel_rfl

theorem wf_i64 {x : Int} (h : (Lit.int .i64 x).wf = true) : -9223372036854775808 ≤ x ∧ x ≤ 9223372036854775807 := by
  simp only [Lit.wf, Bool.and_eq_true, decide_eq_true_eq] at h
  have e1 : IntKind.i64.min = -9223372036854775808 := by decide
  have e2 : IntKind.i64.max = 9223372036854775807 := by decide
  rw [e1, e2] at h
  exact h

section
variable {H : Type} {enc : TypeId × Value → H} {fuel : Nat}
set_option maxRecDepth 100000 in
/-- How long a script can be. -/
theorem script_len {W : World} {a0 : Option Addr} {len cap : Nat} {d0 : DataW H} {p : List MemPlace} (h : DataW.trod enc Tryz.prog W 0 (fun _ => true) true fuel 22 [.slice a0 len cap] = some (d0, p))
    (hsz : ∀ n ∈ d0.weights Tryz.prog 22, n ≤ reachBytes) : len ≤ 17592186044415 := by
  rcases open_slice Tryz.underlying22 h with ⟨hcs, _⟩ | ⟨a, len', cap', m, n, D, Pl, hcs, _, hl, hmx, hm, hx, hel⟩
  · simp only [List.cons.injEq, Value.slice.injEq, and_true] at hcs
    obtain ⟨rfl, rfl, rfl⟩ := hcs
    exact Nat.zero_le _
  simp only [List.cons.injEq, Value.slice.injEq, and_true] at hcs
  obtain ⟨rfl, rfl, rfl⟩ := hcs
  simp only [Prod.mk.injEq] at hx
  obtain ⟨rfl, rfl⟩ := hx
  have h1 := hsz _ (by
    simp only [DataW.weights, Tryz.underlying22, List.mem_cons]
    exact Or.inl rfl)
  have hb : Tryz.prog.bytesOf 43 = 120 := by kernel_rfl
  rw [hb] at h1
  have hr : reachBytes = 140737488351232 := rfl
  simp at h1
  omega
end

theorem stored_kinds (o : OpR) (hk : o.kind = 3 ∨ o.kind = 4 ∨ o.kind = 5) (h1 : o.s.size ≤ 140737488351232) (h2 : o.t.size ≤ 140737488351232) : StoredOk o.cells := by
  intro p W d hd
  rcases hk with hk | hk | hk
  · exact stored_put d o.cells o.b o.s o.t p W hd (by rw [← hk]; rfl) rfl rfl rfl h1 h2
  · exact stored_del d o.cells o.b o.s p W hd (by rw [← hk]; rfl) rfl rfl h1
  · by_cases h40 : d.tds.length < 40
    · exact stored_com_ok d o.cells p W hd (by rw [← hk]; rfl) h40
    · exact stored_com_full d o.cells p W hd (by rw [← hk]; rfl) (by have := hd.t40; omega)

set_option maxRecDepth 100000 in
theorem stored_lifted (os : Os) (started : os.Started) (H : Type) (enc : TypeId × Value → H) :
    ReturnsInHanded {} Tryz.checked os 4 .any (Rows.storedSpec.pre6 enc Tryz.prog Tryz.f4 Rows.storedRow.domain false) (Rows.storedSpec.post enc Tryz.prog Tryz.f4 false true false false) := by
  refine returnsInHanded_of_change_sized (C := Tryz.checked) Tryz.ownS started (by kernel_rfl) Tryz.func4
    (ChangeSpec.witness6 (enc := enc) (C := Tryz.checked) false ⟨#[], #[.slice none 0 0], []⟩ 8 (by kernel_rfl) (by kernel_rfl) (by kernel_rfl) (by kernel_rfl)) ?_
  intro W base args ds gs before hval0 hW _ hsz0 _
  have hsz : (DataW.weightsEach Tryz.prog (Tryz.f4.params.toList ++ Rows.storedSpec.plain.varTypes Tryz.prog) (ds ++ gs)).all (· ≤ reachBytes) = true := hsz0
  have hval : ∀ (j : Nat) t v, Tryz.f4.params[j]? = some t → args[j]? = some v → Value.okWide Tryz.prog W .any base t v := hval0
  have hW' := hW
  obtain ⟨p, q, hA0, hV, rfl, _, _⟩ := hW
  have hA : DataW.TrodAll enc Tryz.prog W 0 (fun _ => true) true Tryz.f4.params.toList args.toList ds p := hA0
  rw [Tryz.params4] at hA hval hsz
  obtain ⟨v0, d0, rfl, rfl, h0⟩ := trodAll_one hA
  obtain ⟨rfl, rfl⟩ := trodVars_none hV
  obtain ⟨a0, len, cap, rfl⟩ := okWide_slice Tryz.underlying22 (hval 0 22 v0 rfl rfl)
  have k0 := h0
  have lt0 : ∀ x ∈ p, x.block < W.heap.size := by obtain ⟨m, hm⟩ := k0; exact DataW.trod_lt m _ _ _ hm
  obtain ⟨fuel, hf⟩ := h0
  have hlen := script_len hf (fun n hn => of_decide_eq_true (List.all_eq_true.1 hsz n (DataW.weights_mem_each (j := 0) (t := 22) rfl rfl n hn)))
  obtain ⟨f, hs, hl, hok⟩ := open_script hf (fun n hn => of_decide_eq_true (List.all_eq_true.1 hsz n (DataW.weights_mem_each (j := 0) (t := 22) rfl rfl n hn)))
  clear hA0 hval0 hsz0
  refine (stored_law a0 len cap f W hlen hs (fun i hi => wf_i64 (hok i hi).2.1) stored_kinds).mono fun e W' ⟨he, bel⟩ => ?_
  subst he
  exact ⟨_, rfl, _, _, _, [], _, [], hW', trodAll_mk1 (shut_bool Tryz.underlying4 _), trodAll_mk1 (Below.trod Tryz.laidOutS (by kernel_rfl) (of_decide_eq_true (by kernel_rfl)) k0 bel lt0), rfl, bel.frame _, fun h => by cases h⟩

theorem stored_holds : Rows.StoredSaid :=
  OpenClaim.holds_of_wide 4 Tryz.f4 rfl rfl rfl rfl rfl rfl rfl ⟨rfl, rfl, rfl, rfl, rfl⟩ rfl rfl rfl rfl rfl (by kernel_rfl) Tryz.func4 (by kernel_rfl)
    (of_decide_eq_true (by kernel_rfl)) (by unfold Func.isWrapper; first | (rw [if_pos (by decide +kernel)]; kernel_rfl) | (rw [if_neg (by decide +kernel)]; exact ⟨rfl, rfl⟩))
    (fun os started H enc _ => stored_lifted os started H enc)
#print axioms stored_holds

end Go.Proofs.YtekegfbjbainhaaGreat
