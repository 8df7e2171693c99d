/-
  RANGED: whatever the acts, the texts, the bytes, the turns and the number, 'cairnkeep.Ranged' returns true: what bytes are accepted with a commit's root tell of a range all that stood there, or among the pages are two with one digest.
  Conditions: none beyond the form's own (each text and list that is read takes at most 2^47 - 4096 bytes).
-/
import Derived.Test.YtekegfbjbainhaaKKR2
import Derived.Test.YtekegfbjbainhaaKJoin28
set_option linter.unusedVariables false
set_option linter.unusedSimpArgs false
namespace Go.Proofs.Ytekegfbjbainhaa
open Go.ChangeShapes Go.WideShapes Go.ChangeAt Go.RowKit Go.Deep
section
variable {H : Type} {enc : TypeId × Value → H} {fuel : Nat}
set_option maxRecDepth 100000 in
theorem bytes_reach {W : World} {a0 : Option Addr} {len cap : Nat} {d0 : DataW H} {p : List MemPlace} (h : DataW.trod enc Try.prog W 0 (fun _ => true) true fuel 35 [.slice a0 len cap] = some (d0, p)) (hsz : ∀ n ∈ d0.weights Try.prog 35, n ≤ reachBytes) {l : List UInt8} (hb : BS W ⟨a0, len, cap⟩ l) : l.length ≤ 140737488351232 := by
 have hn : len = l.length := hb.n
 rcases open_slice1 Try.underlying35 Try.cellsU8 h with ⟨hcs, _⟩ | ⟨a, len', cap', m, n, V, D, Pl, hcs, _, hl, hmx, hm, hx, hel⟩
 ·simp only [List.cons.injEq, Value.slice.injEq, and_true] at hcs
  omega
 simp only [List.cons.injEq, Value.slice.injEq, and_true] at hcs
 obtain ⟨rfl, rfl, rfl⟩ := hcs
 simp only [Prod.mk.injEq] at hx
 obtain ⟨rfl, rfl⟩ := hx
 have h1 := hsz _ (by
  simp only [DataW.weights, Try.underlying35, List.mem_cons]
  exact Or.inl rfl)
 have hb : Try.prog.bytesOf 5 = 1 := by kernel_rfl
 rw [hb] at h1
 have hr : reachBytes = 140737488351232 := rfl
 simp at h1
 omega
end
set_option maxRecDepth 100000 in
theorem ranged_lifted (os : Os) (started : os.Started) (H : Type) (enc : TypeId × Value → H) :
  ReturnsInHanded {} Try.checked os 6 .any (Rows.rangedSpec.pre6 enc Try.prog Try.f6 Rows.rangedRow.domain false) (Rows.rangedSpec.post enc Try.prog Try.f6 false true false false) := by
 refine returnsInHanded_of_change_sized (C := Try.checked) Try.ownS started (by kernel_rfl) Try.func6
  (ChangeSpec.witness6 (enc := enc) (C := Try.checked) false ⟨#[], #[.slice none 0 0, .string ⟨#[]⟩, .string ⟨#[]⟩, .string ⟨#[]⟩, .slice none 0 0, .slice none 0 0, .int .i64 0], []⟩ 8 (by kernel_rfl) (by kernel_rfl) (by kernel_rfl) (by kernel_rfl)) ?_
 intro W base args ds gs before hval0 hW _ hsz0 _
 have hsz : (DataW.weightsEach Try.prog (Try.f6.params.toList ++ Rows.rangedSpec.plain.varTypes Try.prog) (ds ++ gs)).all (· ≤ reachBytes) = true := hsz0
 have hval : ∀ (j : Nat) t v, Try.f6.params[j]? = some t → args[j]? = some v → Value.okWide Try.prog W .any base t v := hval0
 have hW' := hW
 obtain ⟨p, q, hA0, hV, rfl, _, _⟩ := hW
 have hA : DataW.TrodAll enc Try.prog W 0 (fun _ => true) true Try.f6.params.toList args.toList ds p := hA0
 rw [Try.params6] at hA hval hsz
 obtain ⟨v0, v1, v2, v2b, v3, v4, v5, d0, d1, d2, d2b, d3, d4, d5, p0, p1, p2, p2b, p3, p4, p5, rfl, rfl, rfl, h0, h1, h2, h2b, h3, h4, h5⟩ := trodAll_7 hA
 obtain ⟨rfl, rfl⟩ := trodVars_none hV
 obtain ⟨a0, len, cap, rfl⟩ := okWide_slice Try.underlying22 (hval 0 22 v0 rfl rfl)
 obtain ⟨s1, rfl, rfl, rfl, m1⟩ := Go.ChangeMaps.open_string Try.underlying9 (hval 1 9 v1 rfl rfl) h1
 obtain ⟨s2, rfl, rfl, rfl, m2⟩ := Go.ChangeMaps.open_string Try.underlying9 (hval 2 9 v2 rfl rfl) h2
 obtain ⟨s3, rfl, rfl, rfl, m3⟩ := Go.ChangeMaps.open_string Try.underlying9 (hval 3 9 v2b rfl rfl) h2b
 obtain ⟨a3, len3, cap3, rfl⟩ := okWide_slice Try.underlying35 (hval 4 35 v3 rfl rfl)
 obtain ⟨a4, len4, cap4, rfl⟩ := okWide_slice Try.underlying65 (hval 5 65 v4 rfl rfl)
 have ok3 := hval 4 35 (.slice a3 len3 cap3) rfl rfl
 have k0 := h0
 have k3 := h3
 have k4 := h4
 have k5 := h5
 have lt0 : ∀ x ∈ p0, x.block < W.heap.size := by obtain ⟨m, hm⟩ := k0; exact DataW.trod_lt m _ _ _ hm
 have lt3 : ∀ x ∈ p3, x.block < W.heap.size := by obtain ⟨m, hm⟩ := k3; exact DataW.trod_lt m _ _ _ hm
 have lt4 : ∀ x ∈ p4, x.block < W.heap.size := by obtain ⟨m, hm⟩ := k4; exact DataW.trod_lt m _ _ _ hm
 have lt5 : ∀ x ∈ p5, x.block < W.heap.size := by obtain ⟨m, hm⟩ := k5; exact DataW.trod_lt m _ _ _ hm
 obtain ⟨fuel, hf⟩ := h0
 obtain ⟨fuel3, hf3⟩ := h3
 obtain ⟨fuel4, hf4⟩ := h4
 obtain ⟨fuel5, hf5⟩ := h5
 obtain ⟨n5, e5⟩ := okWide_int Try.underlying3 (hval 6 3 v5 rfl rfl)
 subst e5
 obtain ⟨c5, e5, _, w5⟩ := DataW.trod_int Try.underlying3 hf5
 cases e5
 have hw := fun (j : Nat) (t : TypeId) (d : DataW H) (e1 : _) (e2 : _) (n : Nat) (hn : n ∈ d.weights Try.prog t) => of_decide_eq_true (List.all_eq_true.1 hsz n (DataW.weights_mem_each (j := j) (t := t) e1 e2 n hn))
 obtain ⟨f, hs, hl⟩ := open_acts hf (hw 0 22 d0 rfl rfl)
 obtain ⟨raw, hraw, hrc⟩ := open_bytes ok3 hf3
 have hrl := bytes_reach hf3 (hw 4 35 d3 rfl rfl) hraw
 obtain ⟨tf, hts, htl⟩ := open_turns hf4
 have hr : reachBytes = 140737488351232 := rfl
 have w1 := hw 1 9 _ rfl rfl s1.data.toList.length (by simp [DataW.weights])
 have w2 := hw 2 9 _ rfl rfl s2.data.toList.length (by simp [DataW.weights])
 have w3 := hw 3 9 _ rfl rfl s3.data.toList.length (by simp [DataW.weights])
 rw [hr] at w1 w2 w3
 clear hA0 hval0 hsz0
 have hmain := ranged_any a0 len cap f s1.data.toList s2.data.toList s3.data.toList ⟨a3, len3, cap3⟩ raw a4 len4 cap4 tf n5 W hs (by unfold maxLen at hl; omega) w1 w2 w3 hraw hrc hrl hts (by unfold maxLen at htl; omega) (wf_i64 w5)
 rw [← bytes_list, ← bytes_list, ← bytes_list] at hmain
 refine hmain.mono fun e W' ⟨he, bel⟩ => ?_
 subst he
 exact ⟨_, rfl, _, _, _, [], _, [], hW', trodAll_mk1 (shut_bool Try.underlying4 _), trodAll_c (Below.trod Try.laidOutS (by kernel_rfl) (of_decide_eq_true (by kernel_rfl)) k0 bel lt0) (trodAll_c (Go.ChangeMaps.shut_string Try.underlying9 m1) (trodAll_c (Go.ChangeMaps.shut_string Try.underlying9 m2) (trodAll_c (Go.ChangeMaps.shut_string Try.underlying9 m3) (trodAll_mk3 (Below.trod Try.laidOutS (by kernel_rfl) (of_decide_eq_true (by kernel_rfl)) k3 bel lt3) (Below.trod Try.laidOutS (by kernel_rfl) (of_decide_eq_true (by kernel_rfl)) k4 bel lt4) (Below.trod Try.laidOutS (by kernel_rfl) (of_decide_eq_true (by kernel_rfl)) k5 bel lt5))))), rfl, bel.frame _, fun h => by cases h⟩
theorem ranged_said : Rows.RangedSaid :=
 OpenClaim.holds_of_wide 6 Try.f6 rfl rfl rfl rfl rfl rfl rfl ⟨rfl, rfl, rfl, rfl, rfl⟩ rfl rfl rfl rfl rfl (by kernel_rfl) Try.func6 (by kernel_rfl)
  (of_decide_eq_true (by kernel_rfl)) (by unfold Func.isWrapper; first | (rw [if_pos (by decide +kernel)]; kernel_rfl) | (rw [if_neg (by decide +kernel)]; exact ⟨rfl, rfl⟩))
  (fun os started H enc _ => ranged_lifted os started H enc)
#print axioms ranged_said
end Go.Proofs.Ytekegfbjbainhaa
