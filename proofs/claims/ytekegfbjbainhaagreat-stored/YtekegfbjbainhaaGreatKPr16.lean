/- What is in a page can be told from its bytes; what is known, when the world grows. -/
import Derived.Test.YtekegfbjbainhaaGreatKPr15
namespace Go.Proofs.YtekegfbjbainhaaGreat
set_option linter.unusedVariables false
set_option linter.unusedSimpArgs false
open Go.RowKit

theorem bt_inj {a b : Nat} (h : bt a = bt b) (ha : a < 256) (hb : b < 256) : a = b := by
  have := congrArg UInt8.toNat h
  unfold bt at this
  rw [UInt8.toNat_ofNat_of_lt' ha, UInt8.toNat_ofNat_of_lt' hb] at this
  exact this
theorem itB_inj {level : Nat} {x y : ItR} {r r' : List UInt8} (hx : ItOk x) (hy : ItOk y) (h8 : level ≠ 0 → x.more.length = 8 ∧ y.more.length = 8) (h : itB level x ++ r = itB level y ++ r') : x.key = y.key ∧ x.more = y.more ∧ r = r' := by
  unfold itB at h
  simp only [List.cons_append, List.append_assoc, List.cons.injEq] at h
  obtain ⟨h1, h2⟩ := h
  have hkl := bt_inj h1 (by have := hx.1; omega) (by have := hy.1; omega)
  obtain ⟨h3, h4⟩ := List.append_inj h2 hkl
  refine ⟨h3, ?_⟩
  by_cases h0 : level = 0
  · simp only [h0, if_true, List.cons_append, List.nil_append, List.cons.injEq] at h4
    have hml := bt_inj h4.1 (by have := hx.2; omega) (by have := hy.2; omega)
    exact List.append_inj h4.2 hml
  · simp only [h0, if_false, List.nil_append] at h4
    exact List.append_inj h4 (by rw [(h8 h0).1, (h8 h0).2])
theorem flat_inj {level : Nat} : ∀ {l m : List ItR}, l.length = m.length → (∀ x ∈ l, ItOk x) → (∀ x ∈ m, ItOk x) → (level ≠ 0 → ∀ x ∈ l, x.more.length = 8) → (level ≠ 0 → ∀ x ∈ m, x.more.length = 8) → (∀ x ∈ l, x.below = 0) → (∀ x ∈ m, x.below = 0) → l.flatMap (itB level) = m.flatMap (itB level) → l = m
  | [], [], _, _, _, _, _, _, _, _ => rfl
  | [], _ :: _, h, _, _, _, _, _, _, _ => by simp at h
  | _ :: _, [], h, _, _, _, _, _, _, _ => by simp at h
  | x :: l, y :: m, h, hx, hy, h8, h8', hb, hb', he => by
    rw [List.flatMap_cons, List.flatMap_cons] at he
    obtain ⟨h1, h2, h3⟩ := itB_inj (hx x (by simp)) (hy y (by simp)) (fun h0 => ⟨h8 h0 x (by simp), h8' h0 y (by simp)⟩) he
    have ih := flat_inj (by simpa using h) (fun z hz => hx z (by simp [hz])) (fun z hz => hy z (by simp [hz])) (fun h0 z hz => h8 h0 z (by simp [hz])) (fun h0 z hz => h8' h0 z (by simp [hz])) (fun z hz => hb z (by simp [hz])) (fun z hz => hb' z (by simp [hz])) h3
    have hxy : x = y := by
      obtain ⟨k, mo, be⟩ := x
      obtain ⟨k', mo', be'⟩ := y
      have e1 : be = 0 := hb ⟨k, mo, be⟩ (List.mem_cons_self ..)
      have e2 : be' = 0 := hb' ⟨k', mo', be'⟩ (List.mem_cons_self ..)
      simp only at h1 h2
      rw [h1, h2, e1, e2]
    rw [hxy, ih]
theorem code_inj {level level' : Nat} {l m : List ItR} (hl : PgL level l) (hm : PgL level' m) (h : codeB level l = codeB level' m) : level = level' ∧ l = m := by
  unfold codeB at h
  simp only [List.cons.injEq] at h
  obtain ⟨h1, h2, h3⟩ := h
  have e1 := bt_inj h1 (by have := hl.lv; omega) (by have := hm.lv; omega)
  have e2 := bt_inj h2 (by have := hl.len; omega) (by have := hm.len; omega)
  subst e1
  exact ⟨rfl, flat_inj e2 hl.ok hm.ok hl.more8 hm.more8 hl.norm hm.norm h3⟩

theorem KnownAt.below {w W : World} {sb N : Nat} {mp : Option Nat} {es : List MEn} (K : KnownAt w sb mp es N) (hb : Below w.heap.size w W) : KnownAt W sb mp es N := by
  refine ⟨?_, K.d8, fun e he => owns_below (K.own e he) hb, fun e he x hx => (K.nodes e he x hx).below hb, K.apart, K.foot, K.msb, K.cnt, K.kd⟩
  have h := K.map
  cases mp with
  | none => exact h
  | some m =>
    obtain ⟨arr, clock, hh, h1, h2, h3⟩ := h
    exact ⟨arr, clock, by rw [hb.block m (Array.getElem?_eq_some_iff.1 hh).1]; exact hh, h1, h2, h3⟩
theorem KnownAt.more {w : World} {sb N N' : Nat} {mp : Option Nat} {es : List MEn} (K : KnownAt w sb mp es N) (h : N ≤ N') : KnownAt w sb mp es N' :=
  ⟨K.map, K.d8, K.own, K.nodes, K.apart, K.foot, K.msb, fun e he => Nat.le_trans (K.cnt e he) h, K.kd⟩
theorem KMut.lt {w : World} {sb N : Nat} {mp : Option Nat} {es : List MEn} (K : KnownAt w sb mp es N) (hsb : sb < w.heap.size) : ∀ k, KMut sb mp es k → k < w.heap.size := fun k hk => by
  rcases hk with rfl | h | ⟨e, he, h⟩
  · exact hsb
  · subst h
    obtain ⟨arr, clock, hh, _⟩ := K.map
    exact (Array.getElem?_eq_some_iff.1 hh).1
  · exact ((K.own e he).lt k h).2
end Go.Proofs.YtekegfbjbainhaaGreat
