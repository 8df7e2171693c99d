import Derived.Test.YtekegfbjbainhaaGreatKJoin19
import Derived.Test.YtekegfbjbainhaaGreatKJoin18
import Derived.Test.YtekegfbjbainhaaGreatKJoin11
import Derived.Deep.RegionHeld3
import Derived.Deep.DrawnRows
import Derived.Test.YtekegfbjbainhaaGreatKJoin14
import Derived.Test.YtekegfbjbainhaaGreatKJoin1
import Derived.Test.YtekegfbjbainhaaGreatKRef10
import Derived.Test.YtekegfbjbainhaaGreatKJoin6
set_option linter.unusedVariables false
set_option linter.unusedSimpArgs false

namespace Go.Proofs.YtekegfbjbainhaaGreat
open Go.RowKit
set_option maxRecDepth 100000 in
set_option maxHeartbeats 1000000 in
theorem refRangeP_epoch (rb : Nat) (now past roots : SlR) (nowL : List ItR) (pastL : List (SlR × List ItR)) (rootsL : List (List UInt8)) (e : Int) (kv kv2 : Value) (w : World) (h : RefAt w rb 0 now past roots nowL pastL rootsL) (hp : pastL.length ≤ 40) (he : epochBad pastL.length e = true) :
  Calls Tryz.prog 49 #[.pointer (some ⟨rb, 0, none⟩), .int .i64 e, kv, kv2] w fun r w' => r = .returned (.tuple #[.slice none 0 0, .int .i64 4]) ∧ Below w.heap.size w w' := by
 have hn := (owns_cap (a := past.a) (n' := past.n) (cap := past.cap) h.hpast).1
 have c1 : w.cell? ⟨rb, 1, none⟩ = some (.slice past.a past.n past.cap) := RowV.cell h.row 1 (by simp)
 have hpI : (past.n : Int) ≤ 40 := by omega
 by_cases h0 : e < 0
 ·clear hn h he
  go_enter Tryz.func49, Tryz.ntmps49
  go_wp2
  go_ret2
  exact ⟨rfl, Below.refl _ _⟩
 ·have h1 : (past.n : Int) ≤ e := by
   unfold epochBad at he
   simp [h0] at he
   omega
  clear hn h he
  go_enter Tryz.func49, Tryz.ntmps49
  go_wp2
  go_ret2
  exact ⟨rfl, Below.refl _ _⟩
set_option maxRecDepth 100000 in
set_option maxHeartbeats 1000000 in
theorem refRangeP_arg (rb : Nat) (now past roots : SlR) (nowL : List ItR) (pastL : List (SlR × List ItR)) (rootsL : List (List UInt8)) (k : Nat) (sf st : SlR) (fr tu : List UInt8) (w : World) (h : RefAt w rb 0 now past roots nowL pastL rootsL) (hp : pastL.length ≤ 40) (hk : k < pastL.length) (hF : BS w sf fr) (hT : BS w st tu) (hfm : fr.length ≤ maxLen) (htm : tu.length ≤ maxLen) (ha : rngOk fr tu = false) :
  Calls Tryz.prog 49 #[.pointer (some ⟨rb, 0, none⟩), .int .i64 (k : Int), sf.val, st.val] w fun r w' => r = .returned (.tuple #[.slice none 0 0, .int .i64 1]) ∧ Below w.heap.size w w' := by
 have hn := (owns_cap (a := past.a) (n' := past.n) (cap := past.cap) h.hpast).1
 have c1 : w.cell? ⟨rb, 1, none⟩ = some (.slice past.a past.n past.cap) := RowV.cell h.row 1 (by simp)
 have hpI : (past.n : Int) ≤ 40 := by omega
 have hkI : (k : Int) < past.n := by omega
 have HKF : Hid (Calls _ _ _ _ _) := keyFits_any sf.a sf.n sf.cap w (by rw [hF.n]; exact hfm)
 have HKT : Hid (Calls _ _ _ _ _) := keyFits_any st.a st.n st.cap w (by rw [hT.n]; exact htm)
 have hfb : (decide (1 ≤ sf.n) && decide (sf.n ≤ 12)) = keyOk fr := by rw [hF.n]; rfl
 have htb : (decide (1 ≤ st.n) && decide (st.n ≤ 12)) = keyOk tu := by rw [hT.n]; rfl
 rw [hfb] at HKF
 rw [htb] at HKT
 have hcf := run_string_SlB (P := Tryz.prog) w 38 9 5 sf.a sf.n sf.cap fr Tryz.underlying38 Tryz.underlying5 Tryz.underlying9 hF.n hF.sl hF.nil
 have hct := run_string_SlB (P := Tryz.prog) w 38 9 5 st.a st.n st.cap tu Tryz.underlying38 Tryz.underlying5 Tryz.underlying9 hT.n hT.sl hT.nil
 have hless : keyOk fr = true → keyOk tu = true → Op.bytesLess fr tu = false := fun h1 h2 => by simpa [rngOk, h1, h2] using ha
 clear hn h hfb htb hF hT ha hfm htm
 unfold SlR.val
 cases hkf : keyOk fr with
 | false =>
  rw [hkf] at HKF
  cases hkt : keyOk tu
  all_goals
   rw [hkt] at HKT
   clear hless
   go_enter Tryz.func49, Tryz.ntmps49
   go_wp2_with fail
   refine HKF.out.mono ?_
   rintro e w1 ⟨rfl, hw1⟩
   obtain rfl : w = w1 := hw1.symm
   clear hw1
   go_wp2_with fail
   refine HKT.out.mono ?_
   rintro e w1 ⟨rfl, hw1⟩
   obtain rfl : w = w1 := hw1.symm
   clear hw1
   go_wp2
   go_ret2
   exact ⟨rfl, Below.refl _ _⟩
 | true =>
  rw [hkf] at HKF
  cases hkt : keyOk tu with
  | false =>
   rw [hkt] at HKT
   clear hless
   go_enter Tryz.func49, Tryz.ntmps49
   go_wp2_with fail
   refine HKF.out.mono ?_
   rintro e w1 ⟨rfl, hw1⟩
   obtain rfl : w = w1 := hw1.symm
   clear hw1
   go_wp2_with fail
   refine HKT.out.mono ?_
   rintro e w1 ⟨rfl, hw1⟩
   obtain rfl : w = w1 := hw1.symm
   clear hw1
   go_wp2
   go_ret2
   exact ⟨rfl, Below.refl _ _⟩
  | true =>
   rw [hkt] at HKT
   have hl := hless hkf hkt
   clear hless hkf hkt
   go_enter Tryz.func49, Tryz.ntmps49
   go_wp2_with fail
   refine HKF.out.mono ?_
   rintro e w1 ⟨rfl, hw1⟩
   obtain rfl : w = w1 := hw1.symm
   clear hw1
   go_wp2_with fail
   refine HKT.out.mono ?_
   rintro e w1 ⟨rfl, hw1⟩
   obtain rfl : w = w1 := hw1.symm
   clear hw1
   go_wp2
   go_ret2
   exact ⟨rfl, Below.refl _ _⟩
attribute [local go_sem ↓] Go.wp_at_zero Go.wp_at_succ
set_option maxRecDepth 100000 in
set_option maxHeartbeats 2000000 in
theorem refRangeP_ok (rb : Nat) (now past roots : SlR) (nowL : List ItR) (pastL : List (SlR × List ItR)) (rootsL : List (List UInt8)) (k : Nat) (sf st : SlR) (fr tu : List UInt8) (w : World) (h : RefAt w rb 0 now past roots nowL pastL rootsL) (hp : pastL.length ≤ 40) (hk : k < pastL.length) (hP : PastR pastL[k].2) (hF : BS w sf fr) (hT : BS w st tu) (ha : rngOk fr tu = true) :
  Calls Tryz.prog 49 #[.pointer (some ⟨rb, 0, none⟩), .int .i64 (k : Int), sf.val, st.val] w fun r w' => ∃ a' n' c', r = .returned (.tuple #[.slice a' n' c', .int .i64 0]) ∧ OwnB w' w.heap.size (.slice a' n' c') (prfB pastL[k].2 fr tu) ∧ Below w.heap.size w w' := by
 obtain ⟨hps, hn⟩ := SlV.ofOwn (s := past) h.hpast
 have c1 : w.cell? ⟨rb, 1, none⟩ = some (.slice past.a past.n past.cap) := RowV.cell h.row 1 (by simp)
 obtain ⟨b, o, hpa, hb, hcell⟩ := hps k (by simpa using hk)
 have c2 : w.cell? ⟨b, o + k, none⟩ = some (.slice pastL[k].1.a pastL[k].1.n pastL[k].1.cap) := by rw [hcell]; simp [SlR.val]
 have hpI : (past.n : Int) ≤ 40 := by omega
 have hkI : (k : Int) < past.n := by omega
 obtain ⟨⟨hkf, hkt⟩, hless⟩ : (keyOk fr = true ∧ keyOk tu = true) ∧ Op.bytesLess fr tu = true := by unfold rngOk at ha; simpa using ha
 have hf12 : 1 ≤ fr.length ∧ fr.length ≤ 12 := by unfold keyOk at hkf; simpa using hkf
 have ht12 : 1 ≤ tu.length ∧ tu.length ≤ 12 := by unfold keyOk at hkt; simpa using hkt
 have HKF : Hid (Calls _ _ _ _ _) := keyFits_any sf.a sf.n sf.cap w (by rw [hF.n]; unfold maxLen; omega)
 have HKT : Hid (Calls _ _ _ _ _) := keyFits_any st.a st.n st.cap w (by rw [hT.n]; unfold maxLen; omega)
 have hfb : (decide (1 ≤ sf.n) && decide (sf.n ≤ 12)) = true := by rw [hF.n]; exact hkf
 have htb : (decide (1 ≤ st.n) && decide (st.n ≤ 12)) = true := by rw [hT.n]; exact hkt
 rw [hfb] at HKF
 rw [htb] at HKT
 obtain ⟨hits, hitn⟩ := SlV.ofOwn (s := pastL[k].1) (h.hpok pastL[k] (List.getElem_mem hk))
 have HGR : Hid (Calls _ _ _ _ _) := grown_any pastL[k].1 pastL[k].2 w hitn (by have := hP.2.2; omega) hP.2.1 hits
 have hcf := run_string_SlB (P := Tryz.prog) w 38 9 5 sf.a sf.n sf.cap fr Tryz.underlying38 Tryz.underlying5 Tryz.underlying9 hF.n hF.sl hF.nil
 have hct := run_string_SlB (P := Tryz.prog) w 38 9 5 st.a st.n st.cap tu Tryz.underlying38 Tryz.underlying5 Tryz.underlying9 hT.n hT.sl hT.nil
 have HCF : Hid (∀ W, Below w.heap.size w W → (convert 38 9 (.slice sf.a sf.n sf.cap)).run Tryz.prog W = .ok (.string ⟨fr.toArray⟩) W) := fun W hW => run_string_SlB (P := Tryz.prog) W 38 9 5 sf.a sf.n sf.cap fr Tryz.underlying38 Tryz.underlying5 Tryz.underlying9 hF.n (hF.below hW).sl hF.nil
 have HCT : Hid (∀ W, Below w.heap.size w W → (convert 38 9 (.slice st.a st.n st.cap)).run Tryz.prog W = .ok (.string ⟨tu.toArray⟩) W) := fun W hW => run_string_SlB (P := Tryz.prog) W 38 9 5 st.a st.n st.cap tu Tryz.underlying38 Tryz.underlying5 Tryz.underlying9 hT.n (hT.below hW).sl hT.nil
 have HPP : Hid (PastR pastL[k].2) := hP
 generalize pastL[k] = pk at *
 obtain ⟨pa, pn, pc⟩ := past
 simp only at hpa hpI hkI c1
 subst hpa
 clear hn h hfb htb hF hT hps hcell hits hitn hP ha hf12 ht12 hkf hkt
 unfold SlR.val
 go_enter Tryz.func49, Tryz.ntmps49
 go_wp2_with fail
 refine HKF.out.mono ?_
 rintro e w1 ⟨rfl, hw1⟩
 obtain rfl : w = w1 := hw1.symm
 clear hw1
 go_wp2_with fail
 refine HKT.out.mono ?_
 rintro e w1 ⟨rfl, hw1⟩
 obtain rfl : w = w1 := hw1.symm
 clear hw1
 go_wp2_with fail
 refine HGR.out.mono ?_
 rintro e w1 ⟨lv, rfl, lvls, ho1, hok1, hN1, hb1⟩
 obtain ⟨m, s, q, ql, rest, hm1, hm2, hm3, hm4, hm5, _, _⟩ := lvls_last hN1 HPP.out.2.1 (by have := HPP.out.2.2; omega)
 have hbA : Below w1.heap.size w1 (w1.alloc (.cells #[.slice lv.a lv.n lv.cap] 146)).drew := ⟨rfl, rfl, rfl, by show _ ≤ (w1.alloc _).heap.size; simp, fun k hk => by show (w1.alloc _).heap[k]? = _; exact Below.heap_alloc w1 _ k hk⟩
 have hRT := RTree.below (lv := lv) (lvls := lvls) ⟨ho1, hok1⟩ hbA
 have HB1 : Hid (Below w.heap.size w (w1.alloc (.cells #[.slice lv.a lv.n lv.cap] 146)).drew) := hb1.trans (hbA.mono hb1.size)
 have HRT : Hid (Calls _ _ _ _ _) := root_any lv lvls m s q ql rest w.heap.size (w1.alloc (.cells #[.slice lv.a lv.n lv.cap] 146)).drew hRT.own hm1 (by omega) hm3 (by
  have h1 := hRT.ok m (by omega)
  rw [(List.getElem?_eq_some_iff.1 hm3).2] at h1
  exact h1)
 have HRG : Hid (∀ W, Below (w1.alloc (.cells #[.slice lv.a lv.n lv.cap] 146)).drew.heap.size (w1.alloc (.cells #[.slice lv.a lv.n lv.cap] 146)).drew W → Calls Tryz.prog 93 #[.agg #[.slice lv.a lv.n lv.cap], .agg #[.int .i64 (m : Int), .slice q.a q.n q.cap], .string ⟨fr.toArray⟩, .string ⟨tu.toArray⟩] W fun e w' => ∃ a' n' c', e = .returned (.slice a' n' c') ∧ OwnB w' W.heap.size (.slice a' n' c') (prfB pk.2 fr tu) ∧ Below W.heap.size W w') := fun W hb => by
  have := refRange_any lv lvls w.heap.size fr tu (by rw [hN1]; exact grown_lv _ HPP.out.1 HPP.out.2.1 HPP.out.2.2) m 0 s _ (q, ql) W hm2 (hRT.below hb) ⟨hm3, rfl⟩
  rw [hN1] at this
  unfold prfB
  rw [hm4, hm5]
  exact this
 have t0 : (w1.alloc (.cells #[.slice lv.a lv.n lv.cap] 146)).cell? ⟨w1.heap.size, 0, none⟩ = some (.slice lv.a lv.n lv.cap) := (RowV.new w1 146 [.slice lv.a lv.n lv.cap]).cell 0 (by simp)
 have hcf1 := HCF.out _ HB1.out
 have hct1 := HCT.out _ HB1.out
 clear ho1 hok1 hN1 hb1 hm1 hm2 hm3 hm4 hm5 hbA hRT hcf hct
 go_wp2
 go_region_held3 (fun W => W.cell? ⟨w1.heap.size, 0, none⟩ = some (.slice lv.a lv.n lv.cap) ∧ (convert 38 9 (.slice sf.a sf.n sf.cap)).run Tryz.prog W = .ok (.string ⟨fr.toArray⟩) W ∧ (convert 38 9 (.slice st.a st.n st.cap)).run Tryz.prog W = .ok (.string ⟨tu.toArray⟩) W) (go_keep)
  (first
   | (go_at_call 85; refine HRT.out.mono ?_; rintro e w3 ⟨rfl, hb3⟩; have hB3 := Below.trans HB1.out (Below.mono hb3 HB1.out.size); have u1 := HCF.out w3 hB3; have u2 := HCT.out w3 hB3; have u0 : w3.cell? ⟨w1.heap.size, 0, none⟩ = some (.slice lv.a lv.n lv.cap) := by (rw [hb3.cell (p := ⟨w1.heap.size, 0, none⟩) (by show w1.heap.size < (w1.alloc _).heap.size; simp)]; exact t0))
   | (go_at_call 93; refine (HRG.out _ hb3).mono ?_; rintro e w4 ⟨a4, n4, c4, rfl, ho4, hb4⟩; have hB4 := Below.trans hB3 (Below.mono hb4 hB3.size); have v1 := HCF.out w4 hB4; have v2 := HCT.out w4 hB4; have v0 : w4.cell? ⟨w1.heap.size, 0, none⟩ = some (.slice lv.a lv.n lv.cap) := by (rw [hb4.cell (p := ⟨w1.heap.size, 0, none⟩) (by have := hb3.size; simp at this; show w1.heap.size < _; omega)]; exact u0)))
 all_goals
  go_wp2
  go_ret2
  exact ⟨a4, n4, c4, rfl, owns_base ho4 (fun k hk => by have := (ho4.lt k hk).1; have := hB3.size; omega), hB4⟩
end Go.Proofs.YtekegfbjbainhaaGreat


namespace Go.Proofs.YtekegfbjbainhaaGreat
open Go.RowKit
end Go.Proofs.YtekegfbjbainhaaGreat


namespace Go.Proofs.YtekegfbjbainhaaGreat
open Go.RowKit
end Go.Proofs.YtekegfbjbainhaaGreat


namespace Go.Proofs.YtekegfbjbainhaaGreat
open Go.RowKit
attribute [local go_sem ↓] Go.wp_at_zero Go.wp_at_succ
end Go.Proofs.YtekegfbjbainhaaGreat


namespace Go.Proofs.YtekegfbjbainhaaGreat
open Go.RowKit
end Go.Proofs.YtekegfbjbainhaaGreat


namespace Go.Proofs.YtekegfbjbainhaaGreat
open Go.RowKit
set_option maxRecDepth 100000 in
set_option maxHeartbeats 400000 in
theorem has_any (sb n : Nat) (tr : SlR) (e : Int) (w : World) (c2 : w.cell? ⟨sb, 2, none⟩ = some (.slice tr.a tr.n tr.cap)) (hn : tr.n = n) (h40 : n ≤ 40) :
  Calls Tryz.prog 88 #[.pointer (some ⟨sb, 0, none⟩), .int .i64 e] w fun r w' => r = .returned (.bool (!epochBad n e)) ∧ w' = w := by
 subst hn
 have hnI : (tr.n : Int) ≤ 40 := by omega
 have HCM : Hid (Calls _ _ _ _ _) := commits_any sb tr w c2 h40
 by_cases h0 : e < 0
 ·have HE : Hid ((!epochBad tr.n e) = false) := by unfold Hid epochBad; simp [h0]
  have h0' : ¬ 0 ≤ e := by omega
  go_enter Tryz.func88, Tryz.ntmps88
  go_wp2
  go_ret
  exact ⟨by rw [HE.out]; rfl, rfl⟩
 ·have h0' : 0 ≤ e := by omega
  by_cases h1 : e < tr.n
  ·have HE : Hid ((!epochBad tr.n e) = true) := by unfold Hid epochBad; simp [h0]; omega
   go_enter Tryz.func88, Tryz.ntmps88
   go_wp2_with (go_at_call 94; refine HCM.out.mono ?_; rintro r w1 ⟨rfl, hw1⟩; obtain rfl : w = w1 := hw1.symm; clear hw1)
   go_ret
   have hd : decide (e < (tr.n : Int)) = true := by simp; omega
   exact ⟨by rw [HE.out, ← hd]; rfl, rfl⟩
  ·have HE : Hid ((!epochBad tr.n e) = false) := by unfold Hid epochBad; simp [h0]; omega
   go_enter Tryz.func88, Tryz.ntmps88
   go_wp2_with (go_at_call 94; refine HCM.out.mono ?_; rintro r w1 ⟨rfl, hw1⟩; obtain rfl : w = w1 := hw1.symm; clear hw1)
   go_ret
   have hd : decide (e < (tr.n : Int)) = false := by simp; omega
   exact ⟨by rw [HE.out, ← hd]; rfl, rfl⟩
set_option maxRecDepth 100000 in
set_option maxHeartbeats 400000 in
theorem isRange_any (sf st : SlR) (fr tu : List UInt8) (w : World) (hF : BS w sf fr) (hT : BS w st tu) (hfm : fr.length ≤ maxLen) (htm : tu.length ≤ maxLen) :
  Calls Tryz.prog 91 #[sf.val, st.val] w fun r w' => r = .returned (.bool (rngOk fr tu)) ∧ w' = w := by
 have HKF : Hid (Calls _ _ _ _ _) := isKey_any sf.a sf.n sf.cap w (by rw [hF.n]; exact hfm)
 have HKT : Hid (Calls _ _ _ _ _) := isKey_any st.a st.n st.cap w (by rw [hT.n]; exact htm)
 have hfb : (decide (1 ≤ sf.n) && decide (sf.n ≤ 12)) = keyOk fr := by rw [hF.n]; rfl
 have htb : (decide (1 ≤ st.n) && decide (st.n ≤ 12)) = keyOk tu := by rw [hT.n]; rfl
 rw [hfb] at HKF
 rw [htb] at HKT
 have HCM : Hid (Calls _ _ _ _ _) := compare_any sf st fr tu w hF hT
 have HLE := cmp_neg fr tu
 have HBD := cmp_bd fr tu
 generalize Lib.compareBytes fr tu = c at *
 have HR : Hid (rngOk fr tu = (keyOk fr && keyOk tu && Op.bytesLess fr tu)) := rfl
 clear hfb htb hF hT hfm htm
 unfold SlR.val at HCM ⊢
 cases hkf : keyOk fr with
 | false =>
  rw [hkf] at HKF HR
  clear HLE
  go_enter Tryz.func91, Tryz.ntmps91
  go_wp2_with fail
  refine HKF.out.mono ?_
  rintro e w1 ⟨rfl, hw1⟩
  obtain rfl : w = w1 := hw1.symm
  clear hw1
  go_wp2
  go_ret
  exact ⟨by rw [HR.out]; rfl, rfl⟩
 | true =>
  rw [hkf] at HKF HR
  cases hkt : keyOk tu with
  | false =>
   rw [hkt] at HKT HR
   clear HLE
   go_enter Tryz.func91, Tryz.ntmps91
   go_wp2_with fail
   refine HKF.out.mono ?_
   rintro e w1 ⟨rfl, hw1⟩
   obtain rfl : w = w1 := hw1.symm
   clear hw1
   go_wp2_with fail
   refine HKT.out.mono ?_
   rintro e w1 ⟨rfl, hw1⟩
   obtain rfl : w = w1 := hw1.symm
   clear hw1
   go_wp2
   go_ret
   exact ⟨by rw [HR.out]; rfl, rfl⟩
  | true =>
   rw [hkt] at HKT HR
   have HV : Hid (rngOk fr tu = decide (c < 0)) := by
    unfold Hid
    rw [HR.out, Bool.eq_iff_iff]
    simp [HLE]
   clear HLE HR hkf hkt
   by_cases hc : c < 0
   ·have HV2 : Hid (rngOk fr tu = true) := by unfold Hid; rw [HV.out]; simp [hc]
    clear HV
    go_enter Tryz.func91, Tryz.ntmps91
    go_wp2_with fail
    refine HKF.out.mono ?_
    rintro e w1 ⟨rfl, hw1⟩
    obtain rfl : w = w1 := hw1.symm
    clear hw1
    go_wp2_with fail
    refine HKT.out.mono ?_
    rintro e w1 ⟨rfl, hw1⟩
    obtain rfl : w = w1 := hw1.symm
    clear hw1
    go_wp2_with fail
    refine HCM.out.mono ?_
    rintro e w1 ⟨rfl, hw1⟩
    obtain rfl : w = w1 := hw1.symm
    clear hw1
    go_wp2
    go_ret
    exact ⟨by rw [HV2.out]; rfl, rfl⟩
   ·have HV2 : Hid (rngOk fr tu = false) := by unfold Hid; rw [HV.out]; simp [hc]
    clear HV
    go_enter Tryz.func91, Tryz.ntmps91
    go_wp2_with fail
    refine HKF.out.mono ?_
    rintro e w1 ⟨rfl, hw1⟩
    obtain rfl : w = w1 := hw1.symm
    clear hw1
    go_wp2_with fail
    refine HKT.out.mono ?_
    rintro e w1 ⟨rfl, hw1⟩
    obtain rfl : w = w1 := hw1.symm
    clear hw1
    go_wp2_with fail
    refine HCM.out.mono ?_
    rintro e w1 ⟨rfl, hw1⟩
    obtain rfl : w = w1 := hw1.symm
    clear hw1
    go_wp2
    go_ret
    exact ⟨by rw [HV2.out, ← show decide (c < 0) = false by simpa using hc]; rfl, rfl⟩
end Go.Proofs.YtekegfbjbainhaaGreat


namespace Go.Proofs.YtekegfbjbainhaaGreat
open Go.RowKit
def patL (pat : Nat → Value) (k : Nat) : List Value := (List.range k).map pat
theorem patL_length (pat : Nat → Value) (k : Nat) : (patL pat k).length = k := by simp [patL]
theorem patL_get (pat : Nat → Value) (k j : Nat) (h : j < k) : (patL pat k)[j]? = some (pat j) := by simp [patL, h]
theorem patL_add (pat : Nat → Value) (a b : Nat) : patL pat (a + b) = patL pat a ++ patL (fun j => pat (a + j)) b := by
 unfold patL
 rw [List.range_add, List.map_append, List.map_map]; rfl
def PatKeep (pat : Nat → Value) (w w' : World) : Prop := ∀ b j, b < w.heap.size → w.cell? ⟨b, j, none⟩ = some (pat j) → w'.cell? ⟨b, j, none⟩ = some (pat j)
theorem PatKeep.trans {pat : Nat → Value} {a b c : World} (h : PatKeep pat a b) (k : PatKeep pat b c) (hs : a.heap.size ≤ b.heap.size) : PatKeep pat a c := fun g j hg hc => k g j (by omega) (h g j hg hc)
theorem PatKeep.below {pat : Nat → Value} {w w' : World} (h : Below w.heap.size w w') : PatKeep pat w w' := fun b j hb hc => by rw [h.cell (p := ⟨b, j, none⟩) hb]; exact hc
theorem run_appendP {P : Program} (w : World) (base : Nat) (t ty e : TypeId) (i : TypeInfo) (z : Value) (size bytes : Nat) (ht : P.underlying t = some (.slice e)) (hi : P.info? e = some i) (hz : i.zero = some z)
  (hsize : i.size = size) (hby : i.bytes = bytes) (hzs : z.cells.size = size) (hsz : 0 < size) (pat : Nat → Value) (v : Value) (n : Nat) (hown : w.ownsRow base e size v n (patL pat (n * size)))
  (a : Addr) (m c : Nat) (hnews : ∀ j u, (patL (fun j => pat (n * size + j)) (m * size))[j]? = some u → w.cell? (a.add j) = some u) (h1 : ∀ j, (pat j).oneCell' = true) (hm : 0 < m)
  (h63 : n + m ≤ maxLen) (hbytes : (n + m) * bytes ≤ 140737488355328) (hbase : base ≤ w.heap.size) :
  ∃ v' w', (Builtin.append_ #[t, t] ty #[v, .slice (some a) m c]).run P w = .ok v' w' ∧ w'.ownsRow base e size v' (n + m) (patL pat ((n + m) * size)) ∧ Frame (fun k => v.ownBlock = some k) w w' ∧ (v'.ownBlock = v.ownBlock ∨ v'.ownBlock = some w.heap.size) ∧ PatKeep pat w w' ∧ w'.ownsRow base e size v n (patL pat (n * size)) := by
 subst hsize
 subst hby
 have hsmall : n + m ≤ 9223372036854775807 := by simp only [maxLen] at h63; omega
 have hadd : patL pat ((n + m) * i.size) = patL pat (n * i.size) ++ patL (fun j => pat (n * i.size + j)) (m * i.size) := by rw [Nat.add_mul, patL_add]
 generalize hnw : patL (fun j => pat (n * i.size + j)) (m * i.size) = news at *
 have hl : news.length = m * i.size := by rw [← hnw, patL_length]
 have h1n : ∀ u ∈ news, u.oneCell' = true := fun u hu => by
  rw [← hnw] at hu
  obtain ⟨j, _, rfl⟩ := List.mem_map.1 hu
  exact h1 _
 have hlen : (patL pat (n * i.size) ++ news).length = (n + m) * i.size := by rw [List.length_append, patL_length, hl, Nat.add_mul]
 have grown : ∀ (old : Nat), old < n + m → ∀ (row : Option Nat),
   (w.drew.alloc (.cells ((patL pat (n * i.size)).toArray ++ news.toArray ++ Builtin.zeroCells z.cells (grownCap w (n + m) old e - (n + m))) e)).ownsRow base e i.size
    (.slice (some ⟨w.heap.size, 0, none⟩) (n + m) (grownCap w (n + m) old e)) (n + m) (patL pat (n * i.size) ++ news) ∧
   Below w.heap.size w (w.drew.alloc (.cells ((patL pat (n * i.size)).toArray ++ news.toArray ++ Builtin.zeroCells z.cells (grownCap w (n + m) old e - (n + m))) e)) := by
  intro old ho row
  have hge := grownCap_ge w (n + m) old e
  have hcm : grownCap w (n + m) old e ≤ maxLen := grownCap_le_maxLen w (n + m) old e h63
  refine ⟨⟨hlen, .inr ⟨w.heap.size, _, _, rfl, hbase, heap_alloc_new w.drew _, hge, hcm, ?_, ?_⟩⟩, ⟨rfl, rfl, rfl, by simp, fun k hk => Below.heap_alloc w.drew _ k hk⟩⟩
  ·simp only [Array.size_append, List.size_toArray, size_zeroCells, hzs, patL_length, hl, ← Nat.add_mul]
   congr 1
   omega
  ·simp only [Array.toList_append, List.append_assoc]
   rw [← List.append_assoc, ← hlen]
   exact List.take_left
 rw [hadd]
 rcases hown.2 with ⟨rfl, rfl⟩ | ⟨g, cap, cur, rfl, hbg, hg, hnc, hcm, hcs, htake⟩
 ·have hr := run_append_nil (P := P) w t ty e i z ht hi hz a m c news hl hnews (by omega) (by omega) (by have hb := hbytes; simp only [Nat.zero_add] at hb; omega)
  have hgr := grown 0 (by omega) none
  have e0 : patL pat (0 * i.size) = [] := by simp [patL]
  rw [e0] at hgr hown ⊢
  simp only [Nat.zero_add, List.nil_append, Array.empty_append] at hgr ⊢
  exact ⟨_, _, hr, hgr.1, Frame.of_below_all hgr.2, Or.inr rfl, PatKeep.below hgr.2, World.ownsRow_nil _ _ _ _⟩
 ·by_cases hroom : n + m ≤ cap
  ·have hfit : n * i.size + news.length ≤ cur.size := by rw [hl, hcs, ← Nat.add_mul]; exact Nat.mul_le_mul_right _ hroom
   have hr := run_append_room (P := P) w t ty e i ht hi g n cap cur hg a m c news hl hnews h1n hroom hfit
   have hh := setRow_heap w g cur (cur.toList.take (n * i.size) ++ news ++ cur.toList.drop (n * i.size + news.length)).toArray e _ hg
   have hcl : (cur.toList.take (n * i.size) ++ news ++ cur.toList.drop (n * i.size + news.length)).length = cap * i.size := by
    simp only [List.length_append, List.length_take, List.length_drop, Array.length_toList]
    omega
   refine ⟨_, _, hr, ⟨hlen, .inr ⟨g, cap, _, rfl, hbg, hh, hroom, hcm, ?_, ?_⟩⟩, ⟨rfl, rfl, rfl, by simp, fun k _ hk => setRow_other w g k _ (fun e => hk (by simp [Value.ownBlock, e]))⟩, Or.inl rfl, ?_, ⟨hown.1, .inr ⟨g, cap, _, rfl, hbg, hh, hnc, hcm, ?_, ?_⟩⟩⟩
   ·rw [List.size_toArray]; exact hcl
   ·rw [htake, ← hlen]
    exact List.take_left
   ·intro b j hb hc
    by_cases hbg' : b = g
    ·subst hbg'
     rw [cell_setRow_same w b j cur _ e _ hg]
     have hc2 : cur[j]? = some (pat j) := by
      rw [← hc]
      simp [World.cell?, hg]
     rw [List.getElem?_toArray]
     have hjc : j < cur.size := (Array.getElem?_eq_some_iff.1 hc2).1
     rw [htake]
     by_cases hj1 : j < n * i.size
     ·rw [List.append_assoc, List.getElem?_append_left (by rw [patL_length]; exact hj1)]
      exact patL_get pat _ j hj1
     ·by_cases hj2 : j < n * i.size + news.length
      ·rw [List.getElem?_append_left (by rw [List.length_append, patL_length]; exact hj2), List.getElem?_append_right (by rw [patL_length]; omega), patL_length, ← hnw, patL_get _ _ _ (by rw [hl] at hj2; omega)]
       rw [show n * i.size + (j - n * i.size) = j by omega]
      ·rw [List.getElem?_append_right (by rw [List.length_append, patL_length]; omega), List.length_append, patL_length, List.getElem?_drop, show n * i.size + news.length + (j - (n * i.size + news.length)) = j by omega]
       rw [Array.getElem?_toList]; exact hc2
    ·rw [cell_setRow_other w g _ ⟨b, j, none⟩ hbg']; exact hc
   ·rw [List.size_toArray]; exact hcl
   ·rw [htake, List.append_assoc]
    have := List.take_left (l₁ := patL pat (n * i.size)) (l₂ := news ++ cur.toList.drop (n * i.size + news.length))
    rw [patL_length] at this
    exact this
  ·have holds : ∀ j u, (patL pat (n * i.size))[j]? = some u → w.cell? ((⟨g, 0, none⟩ : Addr).add j) = some u := hown.cells (g := g) rfl
   have hr := run_append_grow (P := P) w t ty e i z ht hi hz ⟨g, 0, none⟩ n cap (patL pat (n * i.size)) hown.1 holds a m c news hl hnews (by omega) (by omega) (growslice_fits (by omega) hbytes)
   have hgr := grown cap (by omega) none
   exact ⟨_, _, hr, hgr.1, Frame.of_below_all hgr.2, Or.inr rfl, PatKeep.below hgr.2, owns_below hown hgr.2⟩
theorem wp_appendPat {P : Program} {w : World} {ops : Array Oper} {rest : List Oper} {o : Oper} {a : Act} {Q : Exit → Act → World → Prop} (hgd : o.guard = none) (s x : Operand) (t : TypeId)
  (ho : o.op = .call { callee := .builtin .append, args := #[s, x], argTypes := #[t, t] })
  (base : Nat) (e : TypeId) (z : Value) (size bytes : Nat) (ht : P.underlying t = some (.slice e)) (hi : (P.info? e).map (fun i => (i.zero, i.size, i.bytes)) = some (some z, size, bytes)) (hzs : z.cells.size = size) (hsz : 0 < size)
  (pat : Nat → Value) (v : Value) (n : Nat) (hs : a.eval s = v) (hown : w.ownsRow base e size v n (patL pat (n * size)))
  (ad : Addr) (m c : Nat) (hx : a.eval x = .slice (some ad) m c) (hnews : SlV w (some ad) (patL (fun j => pat (n * size + j)) (m * size))) (h1 : ∀ j, (pat j).oneCell' = true) (hm : 0 < m)
  (h63 : n + m ≤ maxLen) (hbytes : (n + m) * bytes ≤ 140737488355328) (hbase : base ≤ w.heap.size)
  (h : ∀ a' c' w', w'.ownsRow base e size (.slice a' (n + m) c') (n + m) (patL pat ((n + m) * size)) → Frame (fun k => v.ownBlock = some k) w w' → ((Value.slice a' (n + m) c').ownBlock = v.ownBlock ∨ (Value.slice a' (n + m) c').ownBlock = some w.heap.size) → PatKeep pat w w' → w'.ownsRow base e size v n (patL pat (n * size)) → wpList P ops Q rest (a.put o.dst (.slice a' (n + m) c')) w') :
  wpList P ops Q (o :: rest) a w := by
 obtain ⟨i, hi0, hz, hsize, hby⟩ := info_parts hi
 obtain ⟨v', w', hr, h2, h3, h4, h5, h6⟩ := run_appendP (P := P) w base t o.type e i z size bytes ht hi0 hz hsize hby hzs hsz pat v n hown ad m c (fun j u hj => by
  obtain ⟨hj1, hj2⟩ := List.getElem?_eq_some_iff.1 hj
  obtain ⟨b, k, ha, _, hc⟩ := hnews j hj1
  cases ha
  rw [addr_add, hc, hj2]) h1 hm h63 hbytes hbase
 obtain ⟨a', c', rfl, _⟩ := owns_form h2
 refine wpList_plain hgd fun K hK => ?_
 unfold Oper.wp execOp
 simp only [ho, resolve, invoke, builtin, Sem.run_bind, Sem.run_pure, Result.andThen_ok, List.map_toArray, List.map_cons, List.map_nil, hs, hx, hr]
 exact hK _ _ (h a' c' w' h2 h3 h4 h5 h6)
end Go.Proofs.YtekegfbjbainhaaGreat


namespace Go.Proofs.YtekegfbjbainhaaGreat
open Go.RowKit
def PatSl (w : World) (pat : Nat → Value) (size : Nat) (s : SlR) : Prop := ∀ j, j < s.n * size → ∃ g, s.a = some ⟨g, 0, none⟩ ∧ g < w.heap.size ∧ w.cell? ⟨g, j, none⟩ = some (pat j)
theorem PatSl.keep {w w' : World} {pat : Nat → Value} {size : Nat} {s : SlR} (h : PatSl w pat size s) (hk : PatKeep pat w w') (hz : w.heap.size ≤ w'.heap.size) : PatSl w' pat size s := fun j hj => by
 obtain ⟨g, h1, h2, h3⟩ := h j hj
 exact ⟨g, h1, by omega, hk g j h2 h3⟩
theorem PatSl.frame {w w' : World} {S : Nat → Prop} {pat : Nat → Value} {size : Nat} {s : SlR} (h : PatSl w pat size s) (hf : Frame S w w') (hS : ∀ k, s.val.ownBlock = some k → ¬ S k) : PatSl w' pat size s := fun j hj => by
 obtain ⟨g, h1, h2, h3⟩ := h j hj
 refine ⟨g, h1, Nat.lt_of_lt_of_le h2 hf.size, ?_⟩
 rw [World.cell?_of_block (w := w) (w' := w') (a := ⟨g, j, none⟩) (hf.block g h2 (hS g (by unfold SlR.val; rw [h1]; rfl)))]
 exact h3
theorem PatSl.own {w : World} {pat : Nat → Value} {base e size n : Nat} {s : SlR} (h : w.ownsRow base e size s.val n (patL pat (n * size))) : PatSl w pat size s := fun j hj => by
 have hn := (owns_cap (a := s.a) (n' := s.n) (cap := s.cap) h).1
 obtain ⟨hs, _⟩ := SlV.ofOwn (s := s) h
 obtain ⟨b, o, ha, hb, hc⟩ := hs j (by rw [patL_length, ← hn]; exact hj)
 rcases (owns_cap (a := s.a) (n' := s.n) (cap := s.cap) h).2.2.2 with ⟨e1, _⟩ | ⟨g, e1, _, _⟩
 ·rw [ha] at e1; cases e1
 ·rw [ha] at e1
  cases e1
  refine ⟨b, ha, hb, ?_⟩
  rw [Nat.zero_add] at hc
  rw [hc]
  simp [patL]
def patB (m : Nat) : Nat → Value := fun _ => .int .u8 ((m : Int) % 251)
set_option maxRecDepth 100000 in
set_option maxHeartbeats 400000 in
theorem allBytes_any (s : SlR) (m : Nat) (w : World) (h : PatSl w (patB m) 1 s) (hn : s.n ≤ 140737488355328) (hm : m ≤ 140737488355328) :
  Calls Tryz.prog 57 #[s.val, .int .i64 (m : Int)] w fun e w' => e = .returned (.bool true) ∧ w' = w := by
 have hmI : (m : Int) ≤ 140737488355328 := by omega
 have hnI : (s.n : Int) ≤ 140737488355328 := by omega
 have HP : Hid (PatSl w (patB m) 1 s) := h
 clear h
 unfold SlR.val
 go_enter Tryz.func57, Tryz.ntmps57
 go_wp2
 go_loop [5] (fun i => ∃ k : Nat, k ≤ s.n ∧ i = .int .i64 k) (fun i => s.n - (intOf i).toNat)
 case atStart => exact ⟨0, by omega, rfl⟩
 case round =>
  obtain ⟨k, hk, rfl⟩ := hrel
  by_cases hlt : k < s.n
  ·have hltI : (k : Int) < s.n := by omega
   obtain ⟨g, ha, hg, hc⟩ := HP.out k (by omega)
   have hc' : w.cell? ⟨g, k, none⟩ = some (.int .u8 ((m : Int) % 251)) := hc
   rw [ha]
   clear hc
   go_wp2
   go_round
   case rel => exact ⟨k + 1, by omega, by go_num⟩
   case measure => simp [intOf]; omega
  ·have hltI : ¬ (k : Int) < s.n := by omega
   go_wp2
   go_ret
   exact ⟨rfl, rfl⟩
structure BkR where
 l : SlR
 one : SlR
 two : SlR
 three : SlR
def bkC (r : BkR) (m : Nat) : List Value := [r.l.val, r.one.val, r.two.val, r.three.val, .int .i64 (m : Int)]
def bkF (r : BkR) (k : Nat) : Prop := r.l.val.ownBlock = some k ∨ r.one.val.ownBlock = some k ∨ r.two.val.ownBlock = some k ∨ r.three.val.ownBlock = some k
structure BkOk (w : World) (pat : Nat → Value) (size : Nat) (r : BkR) : Prop where
 l : PatSl w pat size r.l
 one : PatSl w pat size r.one
 two : PatSl w pat size r.two
 three : PatSl w pat size r.three
 nl : r.l.n ≤ 100000000000010
 n1 : r.one.n ≤ 100000000000010
 n2 : r.two.n ≤ 100000000000010
 n3 : r.three.n ≤ 100000000000010
 lt : ∀ k, bkF r k → k < w.heap.size
theorem BkOk.frame {w w' : World} {S : Nat → Prop} {pat : Nat → Value} {size : Nat} {r : BkR} (h : BkOk w pat size r) (hf : Frame S w w') (hS : ∀ k, bkF r k → ¬ S k) : BkOk w' pat size r :=
 ⟨h.l.frame hf (fun k hk => hS k (Or.inl hk)), h.one.frame hf (fun k hk => hS k (Or.inr (Or.inl hk))), h.two.frame hf (fun k hk => hS k (Or.inr (Or.inr (Or.inl hk)))), h.three.frame hf (fun k hk => hS k (Or.inr (Or.inr (Or.inr hk)))), h.nl, h.n1, h.n2, h.n3, fun k hk => Nat.lt_of_lt_of_le (h.lt k hk) hf.size⟩
theorem BkOk.below {w w' : World} {pat : Nat → Value} {size : Nat} {r : BkR} (h : BkOk w pat size r) (hb : Below w.heap.size w w') : BkOk w' pat size r := h.frame (Frame.of_below_all (S := fun _ => False) hb) (fun _ _ e => e)
set_option maxRecDepth 100000 in
set_option maxHeartbeats 1000000 in
theorem still_any (r : BkR) (m : Nat) (w : World) (h : BkOk w (patB m) 1 r) (hm : m ≤ 140737488355328) :
  Calls Tryz.prog 24 #[.agg (bkC r m).toArray] w fun e w' => e = .returned (.bool true) ∧ Below w.heap.size w w' := by
 have hb : Below w.heap.size w (w.alloc (.cells #[.slice r.l.a r.l.n r.l.cap, .slice r.one.a r.one.n r.one.cap, .slice r.two.a r.two.n r.two.cap, .slice r.three.a r.three.n r.three.cap, .int .i64 (m : Int)] 60)) := (Below.refl _ _).alloc (Nat.le_refl _) _
 have h' := h.below hb
 have H1 : Hid (Calls _ _ _ _ _) := allBytes_any r.l m _ h'.l (by have := h.nl; omega) hm
 have H2 : Hid (Calls _ _ _ _ _) := allBytes_any r.one m _ h'.one (by have := h.n1; omega) hm
 have H3 : Hid (Calls _ _ _ _ _) := allBytes_any r.two m _ h'.two (by have := h.n2; omega) hm
 have H4 : Hid (Calls _ _ _ _ _) := allBytes_any r.three m _ h'.three (by have := h.n3; omega) hm
 clear h h' hb
 unfold bkC
 unfold SlR.val at H1 H2 H3 H4 ⊢
 go_enter Tryz.func24, Tryz.ntmps24
 go_wp2_with fail
 refine H1.out.mono ?_
 rintro e w1 ⟨rfl, rfl⟩
 go_wp2_with fail
 refine H2.out.mono ?_
 rintro e w1 ⟨rfl, rfl⟩
 go_wp2_with fail
 refine H3.out.mono ?_
 rintro e w1 ⟨rfl, rfl⟩
 go_wp2_with fail
 refine H4.out.mono ?_
 rintro e w1 ⟨rfl, rfl⟩
 go_wp2
 go_ret
 exact ⟨rfl, by go_grown⟩
end Go.Proofs.YtekegfbjbainhaaGreat


namespace Go.Proofs.YtekegfbjbainhaaGreat
open Go.RowKit
theorem Tryz.sizeBytes : (Tryz.prog.info? 60).map (·.size) = some 5 := by kernel_rfl
theorem pat_set (pat : Nat → Value) (xs : List Value) (k : Nat) (h : k < xs.length) : (patL pat k ++ xs.drop k).set k (pat k) = patL pat (k + 1) ++ xs.drop (k + 1) := by
 rw [List.set_append_right _ _ (by rw [patL_length]; exact Nat.le_refl _), patL_length, Nat.sub_self, List.drop_eq_getElem_cons h, List.set_cons_zero, patL_add]
 simp [patL]
theorem bk_one {a b c d : Option Addr} {n1 n2 n3 n4 c1 c2 c3 c4 : Nat} {x : Int} {u : Value} (hu : u ∈ [Value.slice a n1 c1, .slice b n2 c2, .slice c n3 c3, .slice d n4 c4, .int .i64 x]) : u.oneCell' = true := by
 simp only [List.mem_cons, List.not_mem_nil, or_false] at hu
 rcases hu with rfl | rfl | rfl | rfl | rfl <;> rfl
theorem mark_more {W : World} {base k m : Nat} {v : Value} (q : Nat) (h : W.ownsRow base 5 1 v k (patL (patB m) (k * 1))) : (W.alloc (.cells (List.replicate q (Value.int .u8 ((m : Int) % 251))).toArray 5)).ownsRow base 5 1 v k (patL (patB m) (k * 1)) ∧ SlV (W.alloc (.cells (List.replicate q (Value.int .u8 ((m : Int) % 251))).toArray 5)) (some ⟨W.heap.size, 0, none⟩) (patL (fun j => patB m (k * 1 + j)) (q * 1)) := by
 refine ⟨h.alloc _, ?_⟩
 have e : patL (fun j => patB m (k * 1 + j)) (q * 1) = List.replicate q (Value.int .u8 ((m : Int) % 251)) := by
  unfold patL patB
  apply List.ext_getElem
  ·simp
  ·intro i h1 h2; simp
 rw [e]
 exact SlV.alloc_new W _ _
set_option maxRecDepth 100000 in
set_option maxHeartbeats 2000000 in
theorem ownBytes_any (v : SlR) (L : List UInt8) (base m : Nat) (w : World) (ho : OwnB w base v.val L) (hL : L.length ≤ 100000000000000) (hm : m ≤ 140737488355328) (hb : base ≤ w.heap.size) :
  Calls Tryz.prog 34 #[v.val, .int .i64 (m : Int)] w fun e w' => ∃ r : BkR, e = .returned (.agg (bkC r m).toArray) ∧ BkOk w' (patB m) 1 r ∧ Frame (fun k => v.val.ownBlock = some k) w w' ∧ (∀ k, bkF r k → v.val.ownBlock = some k ∨ w.heap.size < k) := by
 have hcp := owns_cap (a := v.a) (n' := v.n) (cap := v.cap) ho
 obtain ⟨va, vn, vc⟩ := v
 unfold SlR.val at ho ⊢
 simp only at ho hcp ⊢
 obtain ⟨h1, h2, h3, h4⟩ := hcp
 subst h1
 have hmI : (m : Int) ≤ 140737488355328 := by omega
 have hA : Below w.heap.size w (w.alloc (.cells #[.slice none 0 0, .slice none 0 0, .slice none 0 0, .slice none 0 0, .int .i64 0] 60)) := (Below.refl _ _).alloc (Nat.le_refl _) _
 have HR0 : Hid (RowV (w.alloc (.cells #[.slice none 0 0, .slice none 0 0, .slice none 0 0, .slice none 0 0, .int .i64 0] 60)) w.heap.size 60 [.slice none 0 0, .slice none 0 0, .slice none 0 0, .slice none 0 0, .int .i64 0]) := RowV.new w _ _
 have HO0 : Hid ((w.alloc (.cells #[.slice none 0 0, .slice none 0 0, .slice none 0 0, .slice none 0 0, .int .i64 0] 60)).ownsRow base 5 1 (.slice va L.length vc) L.length (L.map u8c)) := owns_below ho hA
 have HFR0 : Hid (Frame (fun k => (Value.slice va L.length vc).ownBlock = some k) w (w.alloc (.cells #[.slice none 0 0, .slice none 0 0, .slice none 0 0, .slice none 0 0, .int .i64 0] 60))) := Frame.of_below_all hA
 have HVL : Hid (∀ k, (Value.slice va L.length vc).ownBlock = some k → base ≤ k ∧ k < w.heap.size) := ho.lt
 have hnI : (L.length : Int) ≤ 100000000000000 := by omega
 have HAD : Hid (va = none ∧ L.length = 0 ∧ vc = 0 ∨ ∃ g, va = some ⟨g, 0, none⟩ ∧ base ≤ g ∧ g < w.heap.size) := h4
 have HB : Hid (base ≤ w.heap.size) := hb
 have HL : Hid (L.length ≤ 100000000000000) := hL
 have HXL : Hid ((L.map u8c).length = L.length) := by unfold Hid; simp
 have HDR : Hid ((L.map u8c).drop L.length = []) := by unfold Hid; exact List.drop_eq_nil_of_le (by simp)
 generalize L.map u8c = xs at *
 generalize L.length = n at *
 clear hA ho h2 h3 h4 hb hL
 go_enter Tryz.func34, Tryz.ntmps34
 go_wp2
 go_loopw [6] (fun i wr => ∃ k : Nat, k ≤ n ∧ i = .int .i64 k ∧ Hid (wr.ownsRow base 5 1 (.slice va n vc) n (patL (patB m) k ++ xs.drop k)) ∧ Hid (Frame (fun k => (Value.slice va n vc).ownBlock = some k) w wr) ∧ Hid (RowV wr w.heap.size 60 [.slice none 0 0, .slice none 0 0, .slice none 0 0, .slice none 0 0, .int .i64 0])) (fun i _ => n - (intOf i).toNat)
 case atStart => exact ⟨0, by omega, by simp, by unfold Hid; simpa [patL] using HO0.out, HFR0, HR0⟩
 case round =>
  obtain ⟨k, hk, rfl, HO, HF, HR⟩ := hrel
  by_cases hlt : k < n
  ·have hltI : (k : Int) < n := by omega
   obtain ⟨g, hva, hbg, hgw⟩ : ∃ g, va = some ⟨g, 0, none⟩ ∧ base ≤ g ∧ g < w.heap.size := by
    rcases HAD.out with ⟨_, h0, _⟩ | h
    ·omega
    ·exact h
   subst hva
   have hc := World.ownsRow.cellAt HO.out k (by omega)
   have hkx : k < xs.length := by have := HXL.out; omega
   rw [List.getElem?_append_right (by rw [patL_length]; exact Nat.le_refl _), patL_length, Nat.sub_self, List.getElem?_drop, Nat.add_zero, List.getElem?_eq_getElem hkx] at hc
   have hf := World.ownsRow.frozenAt HO.out k
   have HO' : Hid ((wr.setCell ⟨g, k, none⟩ (patB m k)).ownsRow base 5 1 (.slice (some ⟨g, 0, none⟩) n vc) n (patL (patB m) (k + 1) ++ xs.drop (k + 1))) := by
    have := (World.ownsRow.stored HO.out k (patB m k)).1
    rw [pat_set _ _ _ hkx] at this
    exact this
   have HF' : Hid (Frame (fun k => (Value.slice (some ⟨g, 0, none⟩) n vc).ownBlock = some k) w (wr.setCell ⟨g, k, none⟩ (patB m k))) := HF.out.setCell (p := ⟨g, k, none⟩) rfl _
   have HR' : Hid (RowV (wr.setCell ⟨g, k, none⟩ (patB m k)) w.heap.size 60 [.slice none 0 0, .slice none 0 0, .slice none 0 0, .slice none 0 0, .int .i64 0]) := HR.out.other (by show w.heap.size ≠ g; omega) _
   unfold patB at HO' HF' HR'
   clear hbg hgw
   go_wp2
   refine ⟨⟨k + 1, by omega, by go_num, ?_, HF'.out, HR'.out⟩, by simp [intOf]; omega⟩
   exact HO'.out
  ·obtain rfl : k = n := by omega
   have hltI : ¬ (k : Int) < k := by omega
   have HO1 : Hid (wr.ownsRow base 5 1 (.slice va k vc) k (patL (patB m) (k * 1))) := by
    have := HO.out
    rw [HDR.out, List.append_nil] at this
    unfold Hid; rw [Nat.mul_one]; exact this
   have H1 : Hid (∀ j, (patB m j).oneCell' = true) := fun j => rfl
   clear HO
   have HKR : Hid (∀ W W', RowV W w.heap.size 60 [.slice none 0 0, .slice none 0 0, .slice none 0 0, .slice none 0 0, .int .i64 0] → Frame (fun k_1 => (Value.slice va k vc).ownBlock = some k_1) W W' → RowV W' w.heap.size 60 [.slice none 0 0, .slice none 0 0, .slice none 0 0, .slice none 0 0, .int .i64 0]) := fun W W' h hf => h.of_block (hf.block _ h.lt (fun e => by have := (HVL.out _ e).2; omega))
   have HBW : Hid (base ≤ wr.heap.size) := Nat.le_trans HB.out HF.out.size
   go_wp2_with (first
    | (at_builtin; obtain ⟨ox1, sx1⟩ := mark_more 1 HO1.out; refine wp_appendPat (by rfl) (.tmp 23) (.tmp 25) 38 (by rfl) base 5 _ 1 1 Tryz.underlying38 Tryz.infoU8 rfl (by decide) (patB m) (.slice va k vc) k (by rfl) ox1 ⟨wr.heap.size, 0, none⟩ 1 1 (by rfl) sx1 H1.out (by decide) (by have := HL.out; unfold maxLen; omega) (by have := HL.out; omega) (by have := HBW.out; simp; omega) ?_; intro a2 c2 w2 ho2 hf2 hat2 hk2 hv2)
    | (at_builtin; obtain ⟨ox2, sx2⟩ := mark_more 2 hv2; refine wp_appendPat (by rfl) (.tmp 27) (.tmp 30) 38 (by rfl) base 5 _ 1 1 Tryz.underlying38 Tryz.infoU8 rfl (by decide) (patB m) (.slice va k vc) k (by rfl) ox2 ⟨w2.heap.size, 0, none⟩ 2 2 (by rfl) sx2 H1.out (by decide) (by have := HL.out; unfold maxLen; omega) (by have := HL.out; omega) (by have := (Nat.le_trans HBW.out (Nat.le_trans (by simp) hf2.size) : base ≤ w2.heap.size); simp; omega) ?_; intro a3 c3 w3 ho3 hf3 hat3 hk3 hv3)
    | (at_builtin; obtain ⟨ox3, sx3⟩ := mark_more 3 hv3; refine wp_appendPat (by rfl) (.tmp 32) (.tmp 36) 38 (by rfl) base 5 _ 1 1 Tryz.underlying38 Tryz.infoU8 rfl (by decide) (patB m) (.slice va k vc) k (by rfl) ox3 ⟨w3.heap.size, 0, none⟩ 3 3 (by rfl) sx3 H1.out (by decide) (by have := HL.out; unfold maxLen; omega) (by have := HL.out; omega) (by have := (Nat.le_trans HBW.out (Nat.le_trans (Nat.le_trans (by simp) hf2.size) (Nat.le_trans (by simp) hf3.size)) : base ≤ w3.heap.size); simp; omega) ?_; intro a4 c4 w4 ho4 hf4 hat4 hk4 hv4; have hR4 := HKR.out _ _ (RowV.alloc (HKR.out _ _ (RowV.alloc (HKR.out _ _ (RowV.alloc HR.out _) hf2) _) hf3) _) hf4)
    | (refine wp_storeR (by rfl) 60 (.tmp 4) (.tmp 43) (by rfl) w.heap.size (by rfl) [.slice va k vc, .slice a2 (k + 1) c2, .slice a3 (k + 2) c3, .slice a4 (k + 3) c4, .int .i64 (m : Int)] (by rfl) hR4 rfl Tryz.sizeBytes (fun u hu => bk_one hu) ?_; intro w5 hR5 hf5 hz5))
   have hwr := HR.out.lt
   have z2 := hf2.size
   have z3 := hf3.size
   have z4 := hf4.size
   simp only [World.size_alloc] at z2 z3 z4
   have hb2 : Below w2.heap.size w2 (w2.alloc (.cells #[Value.int .u8 ((m : Int) % 251), Value.int .u8 ((m : Int) % 251)] 5)) := (Below.refl _ _).alloc (Nat.le_refl _) _
   have hb3 : Below w3.heap.size w3 (w3.alloc (.cells #[Value.int .u8 ((m : Int) % 251), Value.int .u8 ((m : Int) % 251), Value.int .u8 ((m : Int) % 251)] 5)) := (Below.refl _ _).alloc (Nat.le_refl _) _
   have hbw : Below wr.heap.size wr (wr.alloc (.cells #[Value.int .u8 ((m : Int) % 251)] 5)) := (Below.refl _ _).alloc (Nat.le_refl _) _
   have k23 : PatKeep (patB m) w2 w3 := (PatKeep.below hb2).trans hk3 hb2.size
   have k34 : PatKeep (patB m) w3 w4 := (PatKeep.below hb3).trans hk4 hb3.size
   have k24 : PatKeep (patB m) w2 w4 := k23.trans k34 (by omega)
   have g1 : ∀ k_1, (Value.slice a2 (k + 1) c2).ownBlock = some k_1 → (Value.slice va k vc).ownBlock = some k_1 ∨ w.heap.size < k_1 := fun q hq => by
    rcases hat2 with e | e
    ·exact Or.inl (by rw [← e]; exact hq)
    ·rw [e] at hq; have := Option.some.inj hq; simp at this; exact Or.inr (by omega)
   have g2 : ∀ k_1, (Value.slice a3 (k + 2) c3).ownBlock = some k_1 → (Value.slice va k vc).ownBlock = some k_1 ∨ w.heap.size < k_1 := fun q hq => by
    rcases hat3 with e | e
    ·exact Or.inl (by rw [← e]; exact hq)
    ·rw [e] at hq; have := Option.some.inj hq; simp at this; exact Or.inr (by omega)
   have g3 : ∀ k_1, (Value.slice a4 (k + 3) c4).ownBlock = some k_1 → (Value.slice va k vc).ownBlock = some k_1 ∨ w.heap.size < k_1 := fun q hq => by
    rcases hat4 with e | e
    ·exact Or.inl (by rw [← e]; exact hq)
    ·rw [e] at hq; have := Option.some.inj hq; simp at this; exact Or.inr (by omega)
   have hne : ∀ q, ((Value.slice va k vc).ownBlock = some q ∨ w.heap.size < q) → ¬ q = w.heap.size := fun q hq e => by
    rcases hq with h | h
    ·have := (HVL.out q h).2; omega
    ·omega
   have hfw : Frame (fun k_1 => (Value.slice va k vc).ownBlock = some k_1) w w4 := (((((HF.out.alloc _).trans hf2).alloc _).trans hf3).alloc _).trans hf4
   have hl60 := HL.out
   refine ret_agg (k := 4) (cs := bkC ⟨⟨va, k, vc⟩, ⟨a2, k + 1, c2⟩, ⟨a3, k + 2, c3⟩, ⟨a4, k + 3, c4⟩⟩ m) rfl rfl hR5 Tryz.underlying60 rfl Tryz.sizeBytes rfl ⟨⟨⟨va, k, vc⟩, ⟨a2, k + 1, c2⟩, ⟨a3, k + 2, c3⟩, ⟨a4, k + 3, c4⟩⟩, rfl, ⟨?_, ?_, ?_, ?_, by simp only; omega, by simp only; omega, by simp only; omega, by simp only; omega, ?_⟩, ?_, ?_⟩
   ·exact (PatSl.own (s := ⟨va, k, vc⟩) hv4).frame hf5 (fun q hq => hne q (Or.inl hq))
   ·exact ((PatSl.own (s := ⟨a2, k + 1, c2⟩) ho2).keep k24 (by omega)).frame hf5 (fun q hq => hne q (g1 q hq))
   ·exact ((PatSl.own (s := ⟨a3, k + 2, c3⟩) ho3).keep k34 (by omega)).frame hf5 (fun q hq => hne q (g2 q hq))
   ·exact (PatSl.own (s := ⟨a4, k + 3, c4⟩) ho4).frame hf5 (fun q hq => hne q (g3 q hq))
   ·intro q hq
    have z5 := hf5.size
    rcases hq with hq | hq | hq | hq
    ·have := (hv4.lt q hq).2; omega
    ·have := (ho2.lt q hq).2; omega
    ·have := (ho3.lt q hq).2; omega
    ·have := (ho4.lt q hq).2; omega
   ·exact Frame.inside hfw hf5 (fun q hlt' e => by omega)
   ·intro q hq
    rcases hq with hq | hq | hq | hq
    ·exact Or.inl hq
    ·exact g1 q hq
    ·exact g2 q hq
    ·exact g3 q hq
end Go.Proofs.YtekegfbjbainhaaGreat
