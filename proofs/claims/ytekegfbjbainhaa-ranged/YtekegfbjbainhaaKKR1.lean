
import Derived.Test.YtekegfbjbainhaaKJoin26
set_option linter.unusedVariables false
set_option linter.unusedSimpArgs false
namespace Go.Proofs.Ytekegfbjbainhaa
open Go.RowKit
attribute [local go_sem ↓] Go.wp_at_zero Go.wp_at_succ
set_option maxRecDepth 100000 in
set_option maxHeartbeats 1600000 in
theorem same_any (sa sb : SlR) (ea eb : List (SlR × SlR)) (l r : List ItR) (w : World) (ha : EntV w sa ea l) (hb : EntV w sb eb r) (hl : l.length ≤ 2799360000000) (hr : r.length ≤ 2799360000000) :
  Calls Try.prog 21 #[sa.val, sb.val] w fun e w' => (e = .returned (.bool true) ∨ e = .returned (.bool false) ∧ l ≠ r) ∧ Below w.heap.size w w' := by
 have hna : sa.n = l.length := by rw [ha.n, ha.bs.1]
 have hnb : sb.n = r.length := by rw [hb.n, hb.bs.1]
 have HA : Hid (EntV w sa ea l) := ha
 have HB : Hid (EntV w sb eb r) := hb
 have HLA : Hid (ea.length = l.length ∧ eb.length = r.length) := ⟨ha.bs.1, hb.bs.1⟩
 have hlI : (l.length : Int) ≤ 2799360000000 := by omega
 have hrI : (r.length : Int) ≤ 2799360000000 := by omega
 clear ha hb
 obtain ⟨aa, an, ac⟩ := sa
 obtain ⟨ba, bn, bc⟩ := sb
 unfold SlR.val
 simp only at hna hnb ⊢
 subst hna hnb
 by_cases hlr : l.length = r.length
 ·have hlrI : ((l.length : Int) == (r.length : Int)) = true := by simp only [beq_iff_eq]; omega
  have HLR : Hid (l.length = r.length) := hlr
  have hlrE : (r.length : Int) = (l.length : Int) := by omega
  clear hlr
  go_enter Try.func21, Try.ntmps21
  go_wp2_with fail
  go_loopw [5] (fun i wr => ∃ k m : Nat, k ≤ l.length ∧ i = .int .i64 k ∧ wr = w.drewN m) (fun i _ => l.length - (intOf i).toNat)
  case atStart => exact ⟨0, 0, by omega, rfl, rfl⟩
  case round =>
   obtain ⟨k, m, hk, rfl, rfl⟩ := hrel
   by_cases hlt : k < l.length
   ·have hltI : (k : Int) < l.length := by omega
    have hltR : k < r.length := by have := HLR.out; omega
    have hka : k < ea.length := by have := HLA.out; omega
    have hkb : k < eb.length := by have := HLA.out; omega
    obtain ⟨b, o, hca, hbb, c0, c1⟩ := entsC_cells HA.out.sl k hka
    obtain ⟨b', o', hca', hbb', c0', c1'⟩ := entsC_cells HB.out.sl k hkb
    obtain ⟨p1, p2⟩ := HA.out.bs.2 k hka hlt
    obtain ⟨p3, p4⟩ := HB.out.bs.2 k hkb hltR
    have r1 := fun q => bs_string p1 q
    have r2 := fun q => bs_string p2 q
    have r3 := fun q => bs_string p3 q
    have r4 := fun q => bs_string p4 q
    subst hca hca'
    have d0 : w.cell? ⟨b, o + k * 2, none⟩ = some (.slice ea[k].1.a ea[k].1.n ea[k].1.cap) := c0
    have d1 : w.cell? ⟨b, o + k * 2 + 1, none⟩ = some (.slice ea[k].2.a ea[k].2.n ea[k].2.cap) := c1
    have d2 : w.cell? ⟨b', o' + k * 2, none⟩ = some (.slice eb[k].1.a eb[k].1.n eb[k].1.cap) := c0'
    have d3 : w.cell? ⟨b', o' + k * 2 + 1, none⟩ = some (.slice eb[k].2.a eb[k].2.n eb[k].2.cap) := c1'
    have HNE : Hid (l[k].key ≠ r[k].key ∨ l[k].more ≠ r[k].more → l ≠ r) := fun h e => by
     subst e
     rcases h with h | h <;> exact h rfl
    clear c0 c1 c0' c1' p1 p2 p3 p4
    generalize ea[k].1 = s1 at *
    generalize ea[k].2 = s2 at *
    generalize eb[k].1 = s3 at *
    generalize eb[k].2 = s4 at *
    generalize l[k].key = x1 at *
    generalize l[k].more = x2 at *
    generalize r[k].key = y1 at *
    generalize r[k].more = y2 at *
    by_cases e1 : x1 = y1
    ·have b1 : (x1 == y1) = true := by simpa using e1
     clear e1
     by_cases e2 : x2 = y2
     ·have b2 : (x2 == y2) = true := by simpa using e2
      clear e2
      go_wp2_with fail
      go_quiet (fail)
      go_wp2
      refine ⟨⟨k + 1, m + nq, by omega, by go_num, rfl⟩, by simp [intOf]; omega⟩
     ·have b2 : (x2 == y2) = false := by simpa using e2
      have HN2 : Hid (l ≠ r) := HNE.out (Or.inr e2)
      clear e2
      go_wp2_with fail
      go_quiet (fail)
      go_wp2
      go_ret
      exact ⟨Or.inr ⟨rfl, HN2.out⟩, (bel_drewN w m).trans ((bel_drewN (w.drewN m) nq).mono (bel_drewN w m).size)⟩
    ·have b1 : (x1 == y1) = false := by simpa using e1
     have HN2 : Hid (l ≠ r) := HNE.out (Or.inl e1)
     clear e1
     go_wp2_with fail
     go_quiet (fail)
     go_wp2
     go_ret
     exact ⟨Or.inr ⟨rfl, HN2.out⟩, (bel_drewN w m).trans ((bel_drewN (w.drewN m) nq).mono (bel_drewN w m).size)⟩
   ·have hltI : ¬ (k : Int) < l.length := by omega
    go_wp2
    go_ret
    exact ⟨Or.inl rfl, bel_drewN w m⟩
 ·have hlrI : ((l.length : Int) == (r.length : Int)) = false := by rw [Bool.eq_false_iff]; simp only [ne_eq, beq_iff_eq]; omega
  have HLR : Hid (l ≠ r) := fun e => hlr (by rw [e])
  clear hlr
  go_enter Try.func21, Try.ntmps21
  go_wp2
  go_ret
  exact ⟨Or.inr ⟨rfl, HLR.out⟩, Below.refl _ _⟩
end Go.Proofs.Ytekegfbjbainhaa
