/-
  LOGGED: for every script, 'cairnlaw.Logged' returns true (whatever stores the script makes, whatever it puts, deletes, commits, asks paths of, and whatever paths it has checked, its own, or the document's stores' with a digest put into the place of one: Included, Extended, CheckIncluded and CheckExtended of the program answer as the document's do, error, path and verdict, digest for digest; what was lent comes back as it was; what came out stays its owner's), and what was handed in reads as it did.
  Conditions: none beyond the form's own (each text and list that is read takes at most 2^47 - 4096 bytes).
-/
import Derived.Test.YtekegfbjbainhaaGreatKJoin16
import Derived.Test.YtekegfbjbainhaaGreatKJoin26
import Derived.Test.YtekegfbjbainhaaGreatKJoin30
import Derived.Test.YtekegfbjbainhaaGreatKLog28
import Derived.Test.YtekegfbjbainhaaGreatKLog29
import Derived.Test.YtekegfbjbainhaaGreatKJoin15
set_option linter.unusedVariables false
set_option linter.unusedSimpArgs false
namespace Go.Proofs.YtekegfbjbainhaaGreat
open Go.ChangeShapes Go.WideShapes Go.ChangeAt Go.RowKit Go.Deep
theorem Tryz.ownS : ownKnob Tryz.prog.godebug = none := by kernel_rfl
theorem Tryz.laidOutS : laidOutB Tryz.prog = true := by kernel_rfl
theorem wf_i64 {x : Int} (h : (Lit.int .i64 x).wf = true) : -9223372036854775808 ≤ x ∧ x ≤ 9223372036854775807 := by
 simp only [Lit.wf, Bool.and_eq_true, decide_eq_true_eq] at h
 have e1 : IntKind.i64.min = -9223372036854775808 := by decide
 have e2 : IntKind.i64.max = 9223372036854775807 := by decide
 rw [e1, e2] at h
 exact h
section
variable {H : Type} {enc : TypeId × Value → H} {fuel : Nat}
set_option maxRecDepth 100000 in
theorem script_len {W : World} {a0 : Option Addr} {len cap : Nat} {d0 : DataW H} {p : List MemPlace} (h : DataW.trod enc Tryz.prog W 0 (fun _ => true) true fuel 22 [.slice a0 len cap] = some (d0, p))
  (hsz : ∀ n ∈ d0.weights Tryz.prog 22, n ≤ reachBytes) : len ≤ 1172812402926 := by
 rcases open_slice Tryz.underlying22 h with ⟨hcs, _⟩ | ⟨a, len', cap', m, n, D, Pl, hcs, _, hl, hmx, hm, hx, hel⟩
 ·simp only [List.cons.injEq, Value.slice.injEq, and_true] at hcs
  obtain ⟨rfl, rfl, rfl⟩ := hcs
  exact Nat.zero_le _
 simp only [List.cons.injEq, Value.slice.injEq, and_true] at hcs
 obtain ⟨rfl, rfl, rfl⟩ := hcs
 simp only [Prod.mk.injEq] at hx
 obtain ⟨rfl, rfl⟩ := hx
 have h1 := hsz _ (by
  simp only [DataW.weights, Tryz.underlying22, List.mem_cons]
  exact Or.inl rfl)
 have hb : Tryz.prog.bytesOf 43 = 120 := by kernel_rfl
 rw [hb] at h1
 have hr : reachBytes = 140737488351232 := rfl
 simp at h1
 omega
end
theorem stored_kinds (o : OpR) (hk : o.kind = 3 ∨ o.kind = 4 ∨ o.kind = 5) (h1 : o.s.size ≤ 140737488351232) (h2 : o.t.size ≤ 140737488351232) : StoredOk o.cells := by
 intro p W d hd
 rcases hk with hk | hk | hk
 ·exact stored_put d o.cells o.b o.s o.t p W hd (by rw [← hk]; rfl) rfl rfl rfl h1 h2
 ·exact stored_del d o.cells o.b o.s p W hd (by rw [← hk]; rfl) rfl rfl h1
 ·by_cases h40 : d.tds.length < 40
  ·exact stored_com_ok d o.cells p W hd (by rw [← hk]; rfl) h40
  ·exact stored_com_full d o.cells p W hd (by rw [← hk]; rfl) (by have := hd.t40; omega)
set_option maxRecDepth 100000 in
theorem logged_lifted (hli : LiesOk) (os : Os) (started : os.Started) (H : Type) (enc : TypeId × Value → H) :
  ReturnsInHanded {} Tryz.checked os 7 .any (Rows.loggedSpec.pre6 enc Tryz.prog Tryz.f7 Rows.loggedRow.domain false) (Rows.loggedSpec.post enc Tryz.prog Tryz.f7 false true false false) := by
 refine returnsInHanded_of_change_sized (C := Tryz.checked) Tryz.ownS started (by kernel_rfl) Tryz.func7
  (ChangeSpec.witness6 (enc := enc) (C := Tryz.checked) false ⟨#[], #[.slice none 0 0], []⟩ 8 (by kernel_rfl) (by kernel_rfl) (by kernel_rfl) (by kernel_rfl)) ?_
 intro W base args ds gs before hval0 hW _ hsz0 _
 have hsz : (DataW.weightsEach Tryz.prog (Tryz.f7.params.toList ++ Rows.loggedSpec.plain.varTypes Tryz.prog) (ds ++ gs)).all (· ≤ reachBytes) = true := hsz0
 have hval : ∀ (j : Nat) t v, Tryz.f7.params[j]? = some t → args[j]? = some v → Value.okWide Tryz.prog W .any base t v := hval0
 have hW' := hW
 obtain ⟨p, q, hA0, hV, rfl, _, _⟩ := hW
 have hA : DataW.TrodAll enc Tryz.prog W 0 (fun _ => true) true Tryz.f7.params.toList args.toList ds p := hA0
 rw [Tryz.params7] at hA hval hsz
 obtain ⟨v0, d0, rfl, rfl, h0⟩ := trodAll_one hA
 obtain ⟨rfl, rfl⟩ := trodVars_none hV
 obtain ⟨a0, len, cap, rfl⟩ := okWide_slice Tryz.underlying22 (hval 0 22 v0 rfl rfl)
 have k0 := h0
 have lt0 : ∀ x ∈ p, x.block < W.heap.size := by obtain ⟨m, hm⟩ := k0; exact DataW.trod_lt m _ _ _ hm
 obtain ⟨fuel, hf⟩ := h0
 have hlen := script_len hf (fun n hn => of_decide_eq_true (List.all_eq_true.1 hsz n (DataW.weights_mem_each (j := 0) (t := 22) rfl rfl n hn)))
 obtain ⟨f, hs, hl, hok⟩ := open_script hf (fun n hn => of_decide_eq_true (List.all_eq_true.1 hsz n (DataW.weights_mem_each (j := 0) (t := 22) rfl rfl n hn)))
 clear hA0 hval0 hsz0
 refine (logged_law hli a0 len cap f W hlen hs (fun i hi => ⟨wf_i64 (hok i hi).2.1, wf_i64 (hok i hi).2.2.1, wf_i64 (hok i hi).2.2.2.1, open_path (hok i hi)⟩) stored_kinds).mono fun e W' ⟨he, bel⟩ => ?_
 subst he
 exact ⟨_, rfl, _, _, _, [], _, [], hW', trodAll_mk1 (shut_bool Tryz.underlying4 _), trodAll_mk1 (Below.trod Tryz.laidOutS (by kernel_rfl) (of_decide_eq_true (by kernel_rfl)) k0 bel lt0), rfl, bel.frame _, fun h => by cases h⟩
theorem logged_holds_of (hli : LiesOk) : Rows.LoggedSaid :=
 OpenClaim.holds_of_wide 7 Tryz.f7 rfl rfl rfl rfl rfl rfl rfl ⟨rfl, rfl, rfl, rfl, rfl⟩ rfl rfl rfl rfl rfl (by kernel_rfl) Tryz.func7 (by kernel_rfl)
  (of_decide_eq_true (by kernel_rfl)) (by unfold Func.isWrapper; first | (rw [if_pos (by decide +kernel)]; kernel_rfl) | (rw [if_neg (by decide +kernel)]; exact ⟨rfl, rfl⟩))
  (fun os started H enc _ => logged_lifted hli os started H enc)
theorem lies_ok : LiesOk := fun o wb ps ds B d W h hd h0 hk ha hb hc hp => by
 obtain ⟨a, cap, l, hv, g1, g2, _, _, _⟩ := hp
 by_cases hz : 0 < l.length
 ·exact asked_lies1 o.cells o.a o.b o.c l a cap wb ps ds B d W h hd h0 (by rw [← hk]; rfl) rfl rfl rfl (by rw [← hv]; rfl) ha.1 ha.2 hb.1 hb.2 hc.1 hc.2 g1 g2 hz
 ·exact asked_lies0 o.cells o.a o.b o.c l a cap wb ps ds B d W h hd h0 (by rw [← hk]; rfl) rfl rfl rfl (by rw [← hv]; rfl) ha.1 ha.2 hb.1 hb.2 hc.1 hc.2 g1 g2 hz
theorem logged_holds : Rows.LoggedSaid := logged_holds_of lies_ok
#print axioms logged_holds
end Go.Proofs.YtekegfbjbainhaaGreat
