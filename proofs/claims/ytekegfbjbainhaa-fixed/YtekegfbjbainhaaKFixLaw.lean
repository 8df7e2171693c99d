/-
  FIXED: for every list of acts and every list of numbers, 'cairnkeep.Fixed' returns true: a root hangs on what is there alone; of one key less the proof tells that it is gone.
  Conditions: none beyond the form's own (each text and list that is read takes at most 2^47 - 4096 bytes).
-/
import Derived.Test.YtekegfbjbainhaaKKF4
import Derived.Test.YtekegfbjbainhaaKKO
set_option linter.unusedVariables false
set_option linter.unusedSimpArgs false
namespace Go.Proofs.Ytekegfbjbainhaa
open Go.ChangeShapes Go.WideShapes Go.ChangeAt Go.RowKit Go.Deep
section
variable {H : Type} {enc : TypeId × Value → H} {w : World} {base : Nat} {sp : Nat → Bool} {held : Bool} {fuel : Nat}
set_option maxRecDepth 100000 in
theorem open_ints {W : World} {a0 : Option Addr} {len cap : Nat} {d0 : DataW H} {p : List MemPlace} (h : DataW.trod enc Try.prog W 0 (fun _ => true) true fuel 23 [.slice a0 len cap] = some (d0, p)) : IntsAt W a0 len ∧ len ≤ maxLen := by
 rcases open_slice Try.underlying23 h with ⟨hcs, _⟩ | ⟨a, len', cap', m, n, D, Pl, hcs, _, hl, hmx, hm, hx, hel⟩
 ·simp only [List.cons.injEq, Value.slice.injEq, and_true] at hcs
  obtain ⟨rfl, rfl, rfl⟩ := hcs
  exact ⟨fun i hi => absurd hi (Nat.not_lt_zero _), Nat.zero_le _⟩
 simp only [List.cons.injEq, Value.slice.injEq, and_true] at hcs
 obtain ⟨rfl, rfl, rfl⟩ := hcs
 rw [Try.cellsInt] at hel
 refine ⟨fun i hi => ?_, by omega⟩
 obtain ⟨cs', hc, ht⟩ := hel i (by rw [hm]; simp; omega)
 obtain ⟨c, e0, g0, w0⟩ := DataW.trod_int Try.underlying3 ht
 subst e0
 unfold World.cells? at hc
 rw [if_pos (Nat.zero_le _)] at hc
 have hcell := mapM_some_get hc 0 0 (by simp)
 simp only [List.getElem?_cons_zero] at hcell
 obtain ⟨b, k, sp⟩ := a
 have hs : sp = none := by
  by_cases hi0 : i = 0
  ·subst hi0
   simpa [Addr.add] using World.cell?_spot hcell
  ·obtain ⟨cs0, hc0, _⟩ := hel 0 (by rw [hm]; simp; omega)
   unfold World.cells? at hc0
   rw [if_pos (Nat.zero_le _)] at hc0
   have h00 := mapM_some_get hc0 0 0 (by simp)
   have hlen := mapM_some_length hc0
   simp at hlen
   rw [List.getElem?_eq_getElem (by omega)] at h00
   simpa [Addr.add] using World.cell?_spot h00
 subst hs
 rw [addr_add, addr_add] at hcell
 have hcell' : W.cell? ⟨b, k + i, none⟩ = some (.int .i64 c) := by simpa using hcell
 exact ⟨b, k, c, rfl, cell_lt hcell', hcell', wf_i64 w0⟩
end
set_option maxRecDepth 100000 in
theorem fixed_lifted (os : Os) (started : os.Started) (H : Type) (enc : TypeId × Value → H) :
  ReturnsInHanded {} Try.checked os 3 .any (Rows.fixedSpec.pre6 enc Try.prog Try.f3 Rows.fixedRow.domain false) (Rows.fixedSpec.post enc Try.prog Try.f3 false true false false) := by
 refine returnsInHanded_of_change_sized (C := Try.checked) Try.ownS started (by kernel_rfl) Try.func3
  (ChangeSpec.witness6 (enc := enc) (C := Try.checked) false ⟨#[], #[.slice none 0 0, .slice none 0 0], []⟩ 8 (by kernel_rfl) (by kernel_rfl) (by kernel_rfl) (by kernel_rfl)) ?_
 intro W base args ds gs before hval0 hW _ hsz0 _
 have hsz : (DataW.weightsEach Try.prog (Try.f3.params.toList ++ Rows.fixedSpec.plain.varTypes Try.prog) (ds ++ gs)).all (· ≤ reachBytes) = true := hsz0
 have hval : ∀ (j : Nat) t v, Try.f3.params[j]? = some t → args[j]? = some v → Value.okWide Try.prog W .any base t v := hval0
 have hW' := hW
 obtain ⟨p, q, hA0, hV, rfl, _, _⟩ := hW
 have hA : DataW.TrodAll enc Try.prog W 0 (fun _ => true) true Try.f3.params.toList args.toList ds p := hA0
 rw [Try.params3] at hA hval hsz
 obtain ⟨v0, v1, d0, d1, p0, p1, rfl, rfl, rfl, h0, h1⟩ := trodAll_two hA
 obtain ⟨rfl, rfl⟩ := trodVars_none hV
 obtain ⟨a0, len, cap, rfl⟩ := okWide_slice Try.underlying22 (hval 0 22 v0 rfl rfl)
 obtain ⟨a1, len1, cap1, rfl⟩ := okWide_slice Try.underlying23 (hval 1 23 v1 rfl rfl)
 have k0 := h0
 have k1 := h1
 have lt0 : ∀ x ∈ p0, x.block < W.heap.size := by obtain ⟨m, hm⟩ := k0; exact DataW.trod_lt m _ _ _ hm
 have lt1 : ∀ x ∈ p1, x.block < W.heap.size := by obtain ⟨m, hm⟩ := k1; exact DataW.trod_lt m _ _ _ hm
 obtain ⟨fuel, hf⟩ := h0
 obtain ⟨fuel1, hf1⟩ := h1
 have hw := fun (j : Nat) (t : TypeId) (d : DataW H) (e1 : _) (e2 : _) (n : Nat) (hn : n ∈ d.weights Try.prog t) => of_decide_eq_true (List.all_eq_true.1 hsz n (DataW.weights_mem_each (j := j) (t := t) e1 e2 n hn))
 obtain ⟨f, hs, hl⟩ := open_acts hf (hw 0 22 d0 rfl rfl)
 obtain ⟨hs1, hl1⟩ := open_ints hf1
 clear hA0 hval0 hsz0
 have hmain := fixed_any a0 len cap f a1 len1 cap1 W hs (by unfold maxLen at hl; omega) hs1 (by unfold maxLen at hl1; omega)
 refine hmain.mono fun e W' ⟨he, bel⟩ => ?_
 subst he
 exact ⟨_, rfl, _, _, _, [], _, [], hW', trodAll_mk1 (shut_bool Try.underlying4 _), trodAll_mk2 (Below.trod Try.laidOutS (by kernel_rfl) (of_decide_eq_true (by kernel_rfl)) k0 bel lt0) (Below.trod Try.laidOutS (by kernel_rfl) (of_decide_eq_true (by kernel_rfl)) k1 bel lt1), rfl, bel.frame _, fun h => by cases h⟩
theorem fixed_holds : Rows.FixedSaid :=
 OpenClaim.holds_of_wide 3 Try.f3 rfl rfl rfl rfl rfl rfl rfl ⟨rfl, rfl, rfl, rfl, rfl⟩ rfl rfl rfl rfl rfl (by kernel_rfl) Try.func3 (by kernel_rfl)
  (of_decide_eq_true (by kernel_rfl)) (by unfold Func.isWrapper; first | (rw [if_pos (by decide +kernel)]; kernel_rfl) | (rw [if_neg (by decide +kernel)]; exact ⟨rfl, rfl⟩))
  (fun os started H enc _ => fixed_lifted os started H enc)
#print axioms fixed_holds
end Go.Proofs.Ytekegfbjbainhaa
