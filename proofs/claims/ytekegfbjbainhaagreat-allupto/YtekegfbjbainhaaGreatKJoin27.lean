import Derived.Test.YtekegfbjbainhaaGreatKJoin21
import Derived.Test.YtekegfbjbainhaaGreatKJoin26
set_option linter.unusedVariables false
set_option linter.unusedSimpArgs false

namespace Go.Proofs.YtekegfbjbainhaaGreat
open Go.RowKit
set_option maxRecDepth 100000 in
set_option maxHeartbeats 1000000 in
theorem refRangeP_epoch (rb : Nat) (now past roots : SlR) (nowL : List ItR) (pastL : List (SlR × List ItR)) (rootsL : List (List UInt8)) (e : Int) (kv kv2 : Value) (w : World) (h : RefAt w rb 0 now past roots nowL pastL rootsL) (hp : pastL.length ≤ 40) (he : epochBad pastL.length e = true) :
  Calls Tryz.prog 49 #[.pointer (some ⟨rb, 0, none⟩), .int .i64 e, kv, kv2] w fun r w' => r = .returned (.tuple #[.slice none 0 0, .int .i64 4]) ∧ Below w.heap.size w w' := by
 have hn := (owns_cap (a := past.a) (n' := past.n) (cap := past.cap) h.hpast).1
 have c1 : w.cell? ⟨rb, 1, none⟩ = some (.slice past.a past.n past.cap) := RowV.cell h.row 1 (by simp)
 have hpI : (past.n : Int) ≤ 40 := by omega
 by_cases h0 : e < 0
 ·clear hn h he
  go_enter Tryz.func49, Tryz.ntmps49
  go_wp2
  go_ret2
  exact ⟨rfl, Below.refl _ _⟩
 ·have h1 : (past.n : Int) ≤ e := by
   unfold epochBad at he
   simp [h0] at he
   omega
  clear hn h he
  go_enter Tryz.func49, Tryz.ntmps49
  go_wp2
  go_ret2
  exact ⟨rfl, Below.refl _ _⟩
set_option maxRecDepth 100000 in
set_option maxHeartbeats 1000000 in
theorem refRangeP_arg (rb : Nat) (now past roots : SlR) (nowL : List ItR) (pastL : List (SlR × List ItR)) (rootsL : List (List UInt8)) (k : Nat) (sf st : SlR) (fr tu : List UInt8) (w : World) (h : RefAt w rb 0 now past roots nowL pastL rootsL) (hp : pastL.length ≤ 40) (hk : k < pastL.length) (hF : BS w sf fr) (hT : BS w st tu) (hfm : fr.length ≤ maxLen) (htm : tu.length ≤ maxLen) (ha : rngOk fr tu = false) :
  Calls Tryz.prog 49 #[.pointer (some ⟨rb, 0, none⟩), .int .i64 (k : Int), sf.val, st.val] w fun r w' => r = .returned (.tuple #[.slice none 0 0, .int .i64 1]) ∧ Below w.heap.size w w' := by
 have hn := (owns_cap (a := past.a) (n' := past.n) (cap := past.cap) h.hpast).1
 have c1 : w.cell? ⟨rb, 1, none⟩ = some (.slice past.a past.n past.cap) := RowV.cell h.row 1 (by simp)
 have hpI : (past.n : Int) ≤ 40 := by omega
 have hkI : (k : Int) < past.n := by omega
 have HKF : Hid (Calls _ _ _ _ _) := keyFits_any sf.a sf.n sf.cap w (by rw [hF.n]; exact hfm)
 have HKT : Hid (Calls _ _ _ _ _) := keyFits_any st.a st.n st.cap w (by rw [hT.n]; exact htm)
 have hfb : (decide (1 ≤ sf.n) && decide (sf.n ≤ 12)) = keyOk fr := by rw [hF.n]; rfl
 have htb : (decide (1 ≤ st.n) && decide (st.n ≤ 12)) = keyOk tu := by rw [hT.n]; rfl
 rw [hfb] at HKF
 rw [htb] at HKT
 have hcf := run_string_SlB (P := Tryz.prog) w 38 9 5 sf.a sf.n sf.cap fr Tryz.underlying38 Tryz.underlying5 Tryz.underlying9 hF.n hF.sl hF.nil
 have hct := run_string_SlB (P := Tryz.prog) w 38 9 5 st.a st.n st.cap tu Tryz.underlying38 Tryz.underlying5 Tryz.underlying9 hT.n hT.sl hT.nil
 have hless : keyOk fr = true → keyOk tu = true → Op.bytesLess fr tu = false := fun h1 h2 => by simpa [rngOk, h1, h2] using ha
 clear hn h hfb htb hF hT ha hfm htm
 unfold SlR.val
 cases hkf : keyOk fr with
 | false =>
  rw [hkf] at HKF
  cases hkt : keyOk tu
  all_goals
   rw [hkt] at HKT
   clear hless
   go_enter Tryz.func49, Tryz.ntmps49
   go_wp2_with fail
   refine HKF.out.mono ?_
   rintro e w1 ⟨rfl, hw1⟩
   obtain rfl : w = w1 := hw1.symm
   clear hw1
   go_wp2_with fail
   refine HKT.out.mono ?_
   rintro e w1 ⟨rfl, hw1⟩
   obtain rfl : w = w1 := hw1.symm
   clear hw1
   go_wp2
   go_ret2
   exact ⟨rfl, Below.refl _ _⟩
 | true =>
  rw [hkf] at HKF
  cases hkt : keyOk tu with
  | false =>
   rw [hkt] at HKT
   clear hless
   go_enter Tryz.func49, Tryz.ntmps49
   go_wp2_with fail
   refine HKF.out.mono ?_
   rintro e w1 ⟨rfl, hw1⟩
   obtain rfl : w = w1 := hw1.symm
   clear hw1
   go_wp2_with fail
   refine HKT.out.mono ?_
   rintro e w1 ⟨rfl, hw1⟩
   obtain rfl : w = w1 := hw1.symm
   clear hw1
   go_wp2
   go_ret2
   exact ⟨rfl, Below.refl _ _⟩
  | true =>
   rw [hkt] at HKT
   have hl := hless hkf hkt
   clear hless hkf hkt
   go_enter Tryz.func49, Tryz.ntmps49
   go_wp2_with fail
   refine HKF.out.mono ?_
   rintro e w1 ⟨rfl, hw1⟩
   obtain rfl : w = w1 := hw1.symm
   clear hw1
   go_wp2_with fail
   refine HKT.out.mono ?_
   rintro e w1 ⟨rfl, hw1⟩
   obtain rfl : w = w1 := hw1.symm
   clear hw1
   go_wp2
   go_ret2
   exact ⟨rfl, Below.refl _ _⟩
attribute [local go_sem ↓] Go.wp_at_zero Go.wp_at_succ
set_option maxRecDepth 100000 in
set_option maxHeartbeats 2000000 in
theorem refRangeP_ok (rb : Nat) (now past roots : SlR) (nowL : List ItR) (pastL : List (SlR × List ItR)) (rootsL : List (List UInt8)) (k : Nat) (sf st : SlR) (fr tu : List UInt8) (w : World) (h : RefAt w rb 0 now past roots nowL pastL rootsL) (hp : pastL.length ≤ 40) (hk : k < pastL.length) (hP : PastR pastL[k].2) (hF : BS w sf fr) (hT : BS w st tu) (ha : rngOk fr tu = true) :
  Calls Tryz.prog 49 #[.pointer (some ⟨rb, 0, none⟩), .int .i64 (k : Int), sf.val, st.val] w fun r w' => ∃ a' n' c', r = .returned (.tuple #[.slice a' n' c', .int .i64 0]) ∧ OwnB w' w.heap.size (.slice a' n' c') (prfB pastL[k].2 fr tu) ∧ Below w.heap.size w w' := by
 obtain ⟨hps, hn⟩ := SlV.ofOwn (s := past) h.hpast
 have c1 : w.cell? ⟨rb, 1, none⟩ = some (.slice past.a past.n past.cap) := RowV.cell h.row 1 (by simp)
 obtain ⟨b, o, hpa, hb, hcell⟩ := hps k (by simpa using hk)
 have c2 : w.cell? ⟨b, o + k, none⟩ = some (.slice pastL[k].1.a pastL[k].1.n pastL[k].1.cap) := by rw [hcell]; simp [SlR.val]
 have hpI : (past.n : Int) ≤ 40 := by omega
 have hkI : (k : Int) < past.n := by omega
 obtain ⟨⟨hkf, hkt⟩, hless⟩ : (keyOk fr = true ∧ keyOk tu = true) ∧ Op.bytesLess fr tu = true := by unfold rngOk at ha; simpa using ha
 have hf12 : 1 ≤ fr.length ∧ fr.length ≤ 12 := by unfold keyOk at hkf; simpa using hkf
 have ht12 : 1 ≤ tu.length ∧ tu.length ≤ 12 := by unfold keyOk at hkt; simpa using hkt
 have HKF : Hid (Calls _ _ _ _ _) := keyFits_any sf.a sf.n sf.cap w (by rw [hF.n]; unfold maxLen; omega)
 have HKT : Hid (Calls _ _ _ _ _) := keyFits_any st.a st.n st.cap w (by rw [hT.n]; unfold maxLen; omega)
 have hfb : (decide (1 ≤ sf.n) && decide (sf.n ≤ 12)) = true := by rw [hF.n]; exact hkf
 have htb : (decide (1 ≤ st.n) && decide (st.n ≤ 12)) = true := by rw [hT.n]; exact hkt
 rw [hfb] at HKF
 rw [htb] at HKT
 obtain ⟨hits, hitn⟩ := SlV.ofOwn (s := pastL[k].1) (h.hpok pastL[k] (List.getElem_mem hk))
 have HGR : Hid (Calls _ _ _ _ _) := grown_any pastL[k].1 pastL[k].2 w hitn (by have := hP.2.2; omega) hP.2.1 hits
 have hcf := run_string_SlB (P := Tryz.prog) w 38 9 5 sf.a sf.n sf.cap fr Tryz.underlying38 Tryz.underlying5 Tryz.underlying9 hF.n hF.sl hF.nil
 have hct := run_string_SlB (P := Tryz.prog) w 38 9 5 st.a st.n st.cap tu Tryz.underlying38 Tryz.underlying5 Tryz.underlying9 hT.n hT.sl hT.nil
 have HCF : Hid (∀ W, Below w.heap.size w W → (convert 38 9 (.slice sf.a sf.n sf.cap)).run Tryz.prog W = .ok (.string ⟨fr.toArray⟩) W) := fun W hW => run_string_SlB (P := Tryz.prog) W 38 9 5 sf.a sf.n sf.cap fr Tryz.underlying38 Tryz.underlying5 Tryz.underlying9 hF.n (hF.below hW).sl hF.nil
 have HCT : Hid (∀ W, Below w.heap.size w W → (convert 38 9 (.slice st.a st.n st.cap)).run Tryz.prog W = .ok (.string ⟨tu.toArray⟩) W) := fun W hW => run_string_SlB (P := Tryz.prog) W 38 9 5 st.a st.n st.cap tu Tryz.underlying38 Tryz.underlying5 Tryz.underlying9 hT.n (hT.below hW).sl hT.nil
 have HPP : Hid (PastR pastL[k].2) := hP
 generalize pastL[k] = pk at *
 obtain ⟨pa, pn, pc⟩ := past
 simp only at hpa hpI hkI c1
 subst hpa
 clear hn h hfb htb hF hT hps hcell hits hitn hP ha hf12 ht12 hkf hkt
 unfold SlR.val
 go_enter Tryz.func49, Tryz.ntmps49
 go_wp2_with fail
 refine HKF.out.mono ?_
 rintro e w1 ⟨rfl, hw1⟩
 obtain rfl : w = w1 := hw1.symm
 clear hw1
 go_wp2_with fail
 refine HKT.out.mono ?_
 rintro e w1 ⟨rfl, hw1⟩
 obtain rfl : w = w1 := hw1.symm
 clear hw1
 go_wp2_with fail
 refine HGR.out.mono ?_
 rintro e w1 ⟨lv, rfl, lvls, ho1, hok1, hN1, hb1⟩
 obtain ⟨m, s, q, ql, rest, hm1, hm2, hm3, hm4, hm5, _, _⟩ := lvls_last hN1 HPP.out.2.1 (by have := HPP.out.2.2; omega)
 have hbA : Below w1.heap.size w1 (w1.alloc (.cells #[.slice lv.a lv.n lv.cap] 146)).drew := ⟨rfl, rfl, rfl, by show _ ≤ (w1.alloc _).heap.size; simp, fun k hk => by show (w1.alloc _).heap[k]? = _; exact Below.heap_alloc w1 _ k hk⟩
 have hRT := RTree.below (lv := lv) (lvls := lvls) ⟨ho1, hok1⟩ hbA
 have HB1 : Hid (Below w.heap.size w (w1.alloc (.cells #[.slice lv.a lv.n lv.cap] 146)).drew) := hb1.trans (hbA.mono hb1.size)
 have HRT : Hid (Calls _ _ _ _ _) := root_any lv lvls m s q ql rest w.heap.size (w1.alloc (.cells #[.slice lv.a lv.n lv.cap] 146)).drew hRT.own hm1 (by omega) hm3 (by
  have h1 := hRT.ok m (by omega)
  rw [(List.getElem?_eq_some_iff.1 hm3).2] at h1
  exact h1)
 have HRG : Hid (∀ W, Below (w1.alloc (.cells #[.slice lv.a lv.n lv.cap] 146)).drew.heap.size (w1.alloc (.cells #[.slice lv.a lv.n lv.cap] 146)).drew W → Calls Tryz.prog 93 #[.agg #[.slice lv.a lv.n lv.cap], .agg #[.int .i64 (m : Int), .slice q.a q.n q.cap], .string ⟨fr.toArray⟩, .string ⟨tu.toArray⟩] W fun e w' => ∃ a' n' c', e = .returned (.slice a' n' c') ∧ OwnB w' W.heap.size (.slice a' n' c') (prfB pk.2 fr tu) ∧ Below W.heap.size W w') := fun W hb => by
  have := refRange_any lv lvls w.heap.size fr tu (by rw [hN1]; exact grown_lv _ HPP.out.1 HPP.out.2.1 HPP.out.2.2) m 0 s _ (q, ql) W hm2 (hRT.below hb) ⟨hm3, rfl⟩
  rw [hN1] at this
  unfold prfB
  rw [hm4, hm5]
  exact this
 have t0 : (w1.alloc (.cells #[.slice lv.a lv.n lv.cap] 146)).cell? ⟨w1.heap.size, 0, none⟩ = some (.slice lv.a lv.n lv.cap) := (RowV.new w1 146 [.slice lv.a lv.n lv.cap]).cell 0 (by simp)
 have hcf1 := HCF.out _ HB1.out
 have hct1 := HCT.out _ HB1.out
 clear ho1 hok1 hN1 hb1 hm1 hm2 hm3 hm4 hm5 hbA hRT hcf hct
 go_wp2
 go_region_held3 (fun W => W.cell? ⟨w1.heap.size, 0, none⟩ = some (.slice lv.a lv.n lv.cap) ∧ (convert 38 9 (.slice sf.a sf.n sf.cap)).run Tryz.prog W = .ok (.string ⟨fr.toArray⟩) W ∧ (convert 38 9 (.slice st.a st.n st.cap)).run Tryz.prog W = .ok (.string ⟨tu.toArray⟩) W) (go_keep)
  (first
   | (go_at_call 85; refine HRT.out.mono ?_; rintro e w3 ⟨rfl, hb3⟩; have hB3 := Below.trans HB1.out (Below.mono hb3 HB1.out.size); have u1 := HCF.out w3 hB3; have u2 := HCT.out w3 hB3; have u0 : w3.cell? ⟨w1.heap.size, 0, none⟩ = some (.slice lv.a lv.n lv.cap) := by (rw [hb3.cell (p := ⟨w1.heap.size, 0, none⟩) (by show w1.heap.size < (w1.alloc _).heap.size; simp)]; exact t0))
   | (go_at_call 93; refine (HRG.out _ hb3).mono ?_; rintro e w4 ⟨a4, n4, c4, rfl, ho4, hb4⟩; have hB4 := Below.trans hB3 (Below.mono hb4 hB3.size); have v1 := HCF.out w4 hB4; have v2 := HCT.out w4 hB4; have v0 : w4.cell? ⟨w1.heap.size, 0, none⟩ = some (.slice lv.a lv.n lv.cap) := by (rw [hb4.cell (p := ⟨w1.heap.size, 0, none⟩) (by have := hb3.size; simp at this; show w1.heap.size < _; omega)]; exact u0)))
 all_goals
  go_wp2
  go_ret2
  exact ⟨a4, n4, c4, rfl, owns_base ho4 (fun k hk => by have := (ho4.lt k hk).1; have := hB3.size; omega), hB4⟩
end Go.Proofs.YtekegfbjbainhaaGreat


namespace Go.Proofs.YtekegfbjbainhaaGreat
open Go.RowKit
attribute [local go_sem ↓] Go.wp_at_zero Go.wp_at_succ
def rngC (root fr tu proof : List UInt8) : Nat × List ItR :=
 if rngOk fr tu = true then (match rangeC root fr tu proof with
  | none => (5, [])
  | some l => (0, l)) else (1, [])
def finC (fr tu : List UInt8) : Option (List ItR × List UInt8) → Option (List ItR)
 | none => none
 | some (es, r') => if r' = [] then some (es.filter (inR fr tu)) else none
def rngRd (root fr tu proof : List UInt8) : Option (List ItR × List UInt8) :=
 match pgO (some proof) root with
 | none => none
 | some ((lv, its), r) => readU fr tu lv its r
theorem rangeC_fin (root fr tu proof : List UInt8) : rangeC root fr tu proof = finC fr tu (rngRd root fr tu proof) := by
 unfold rangeC rngRd
 cases pgO (some proof) root with
 | none => rfl
 | some q => rfl
def rngPost (w : World) (q : Nat × List ItR) (e : Ending) (w' : World) : Prop := ∃ (v : SlR) (es : List (SlR × SlR)), e = .returned (.tuple #[v.val, .int .i64 (q.1 : Int)]) ∧ Below w.heap.size w w' ∧ EntsR w' w.heap.size v es q.2
set_option maxRecDepth 100000 in
set_option maxHeartbeats 1000000 in
theorem under_bad (fr tu : List UInt8) (K : Nat → Prop) (rb lvl : Nat) (cur : SlR) (w : World) (hr : RdO w K rb none) :
  Calls Tryz.prog 109 #[.pointer (some ⟨rb, 0, none⟩), .agg #[.int .i64 (lvl : Int), cur.val], .string ⟨fr.toArray⟩, .string ⟨tu.toArray⟩] w (undPost w K rb fr tu 0 none) := by
 have hrb := hr.lt
 have hA : Below w.heap.size w (w.alloc (.cells #[.int .i64 (lvl : Int), .slice cur.a cur.n cur.cap] 80)) := (Below.refl _ _).alloc (Nat.le_refl _) _
 have HR0 : Hid (RdO (w.alloc (.cells #[.int .i64 (lvl : Int), .slice cur.a cur.n cur.cap] 80)) K rb none) := hr.below hA
 have HB0 : Hid (Below w.heap.size w (w.alloc (.cells #[.int .i64 (lvl : Int), .slice cur.a cur.n cur.cap] 80))) := hA
 have HP0 : Hid (RowV (w.alloc (.cells #[.int .i64 (lvl : Int), .slice cur.a cur.n cur.cap] 80)) w.heap.size 80 [.int .i64 (lvl : Int), .slice cur.a cur.n cur.cap]) := RowV.new w _ _
 clear hr hA
 unfold SlR.val
 go_enter Tryz.func109, Tryz.ntmps109
 go_wp2
 go_loopw [9, 10, 11, 12, 13, 14] (fun ov i _ _ _ _ wr => ov = .slice none 0 0 ∧ i = .int .i64 0 ∧ Hid (wr = w.alloc (.cells #[.int .i64 (lvl : Int), .slice cur.a cur.n cur.cap] 80))) (fun _ _ _ _ _ _ _ => 0)
 case atStart => exact ⟨rfl, rfl, rfl⟩
 case round =>
  obtain ⟨rfl, rfl, HW⟩ := hrel
  rw [← HW.out] at HR0 HB0 HP0
  obtain ⟨r1, fr1⟩ := HR0.out.cells
  have p1 := HP0.out.cell 1 (by simp)
  simp only [List.getElem_cons_zero, List.getElem_cons_succ, Option.isNone_none] at p1 r1
  clear HW
  by_cases hn : (0 : Int) < cur.n
  ·go_wp2
   go_ret
   exact ⟨⟨none, 0, 0⟩, [], [], rfl, Frame.of_below_all HB0.out, HR0.out, EntsR.nil _ _, Nat.le_refl _, fun l r' e => by cases e⟩
  ·go_wp2
   go_ret
   exact ⟨⟨none, 0, 0⟩, [], [], rfl, Frame.of_below_all HB0.out, HR0.out, EntsR.nil _ _, Nat.le_refl _, fun l r' e => by cases e⟩
set_option maxRecDepth 100000 in
set_option maxHeartbeats 4000000 in
theorem checkRangeR_any (sf st sp : SlR) (fr tu proof root : List UInt8) (w : World) (hr : root.length = 8) (hF : BS w sf fr) (hT : BS w st tu) (hp : BS w sp proof) (hpc : sp.n ≤ sp.cap) (hfm : fr.length ≤ maxLen) (htm : tu.length ≤ maxLen) (hM : proof.length ≤ 1000000000) :
  Calls Tryz.prog 69 #[dV root, sf.val, st.val, sp.val] w (rngPost w (rngC root fr tu proof)) := by
 obtain ⟨x0, x1, x2, x3, x4, x5, x6, x7, rfl⟩ := list8 root hr
 have hB1 : Below w.heap.size w (w.alloc (.cells #[.int .u8 (x0.toNat : Int), .int .u8 (x1.toNat : Int), .int .u8 (x2.toNat : Int), .int .u8 (x3.toNat : Int), .int .u8 (x4.toNat : Int), .int .u8 (x5.toNat : Int), .int .u8 (x6.toNat : Int), .int .u8 (x7.toNat : Int)] 36)) := (Below.refl _ _).alloc (Nat.le_refl _) _
 have HD1 : Hid (RowV (w.alloc (.cells #[.int .u8 (x0.toNat : Int), .int .u8 (x1.toNat : Int), .int .u8 (x2.toNat : Int), .int .u8 (x3.toNat : Int), .int .u8 (x4.toNat : Int), .int .u8 (x5.toNat : Int), .int .u8 (x6.toNat : Int), .int .u8 (x7.toNat : Int)] 36)) w.heap.size 36 ([x0, x1, x2, x3, x4, x5, x6, x7].map u8c)) := RowV.new w 36 ([x0, x1, x2, x3, x4, x5, x6, x7].map u8c)
 have hdv : dV [x0, x1, x2, x3, x4, x5, x6, x7] = .agg #[.int .u8 (x0.toNat : Int), .int .u8 (x1.toNat : Int), .int .u8 (x2.toNat : Int), .int .u8 (x3.toNat : Int), .int .u8 (x4.toNat : Int), .int .u8 (x5.toNat : Int), .int .u8 (x6.toNat : Int), .int .u8 (x7.toNat : Int)] := rfl
 rw [hdv]
 obtain ⟨q, hq⟩ : ∃ q, rngC [x0, x1, x2, x3, x4, x5, x6, x7] fr tu proof = q := ⟨_, rfl⟩
 rw [hq]
 have HQ : Hid (rngC [x0, x1, x2, x3, x4, x5, x6, x7] fr tu proof = q) := hq
 go_enter Tryz.func69, Tryz.ntmps69
 unfold SlR.val
 go_upto_region 1 with fail
 generalize w.alloc (.cells #[.int .u8 (x0.toNat : Int), .int .u8 (x1.toNat : Int), .int .u8 (x2.toNat : Int), .int .u8 (x3.toNat : Int), .int .u8 (x4.toNat : Int), .int .u8 (x5.toNat : Int), .int .u8 (x6.toNat : Int), .int .u8 (x7.toNat : Int)] 36) = W at *
 have hF1 := hF.below hB1
 have hT1 := hT.below hB1
 have HKF : Hid (Calls _ _ _ _ _) := keyFits_any sf.a sf.n sf.cap W (by rw [hF.n]; exact hfm)
 have HKT : Hid (Calls _ _ _ _ _) := keyFits_any st.a st.n st.cap W (by rw [hT.n]; exact htm)
 have hfb : (decide (1 ≤ sf.n) && decide (sf.n ≤ 12)) = keyOk fr := by rw [hF.n]; rfl
 have htb : (decide (1 ≤ st.n) && decide (st.n ≤ 12)) = keyOk tu := by rw [hT.n]; rfl
 rw [hfb] at HKF
 rw [htb] at HKT
 have hcf := run_string_SlB (P := Tryz.prog) W 38 9 5 sf.a sf.n sf.cap fr Tryz.underlying38 Tryz.underlying5 Tryz.underlying9 hF1.n hF1.sl hF1.nil
 have hct := run_string_SlB (P := Tryz.prog) W 38 9 5 st.a st.n st.cap tu Tryz.underlying38 Tryz.underlying5 Tryz.underlying9 hT1.n hT1.sl hT1.nil
 have HB1 : Hid (Below w.heap.size w W) := hB1
 have HF : Hid (BS W sf fr) := hF1
 have HT : Hid (BS W st tu) := hT1
 have HP : Hid (BS W sp proof) := hp.below hB1
 have HPC : Hid (sp.n ≤ sp.cap) := hpc
 have HM : Hid (proof.length ≤ 1000000000) := hM
 have HRO : Hid (rngOk fr tu = (keyOk fr && keyOk tu && Op.bytesLess fr tu)) := rfl
 have HQ1 : Hid (rngOk fr tu = false → q = (1, [])) := fun h => by rw [← HQ.out]; unfold rngC; rw [if_neg (by rw [h]; simp)]
 have HE1 : Hid (∀ W', Below W.heap.size W W' → q = (1, []) → rngPost w q (.returned (.tuple #[.slice none 0 0, .int .i64 1])) W') := fun W' hW e => by rw [e]; exact ⟨⟨none, 0, 0⟩, [], rfl, HB1.out.trans (hW.mono HB1.out.size), EntsR.nil _ _⟩
 clear hF1 hT1 hfb htb hF hT hp hpc hfm htm hM hdv hq hB1
 cases hkf : keyOk fr with
 | false =>
  rw [hkf] at HKF
  have HN : Hid (q = (1, [])) := HQ1.out (by rw [HRO.out, hkf]; rfl)
  cases hkt : keyOk tu
  all_goals
   rw [hkt] at HKT
   go_wp2_with fail
   refine HKF.out.mono ?_
   rintro e w1 ⟨rfl, hw1⟩
   obtain rfl : W = w1 := hw1.symm
   clear hw1
   go_wp2_with fail
   refine HKT.out.mono ?_
   rintro e w1 ⟨rfl, hw1⟩
   obtain rfl : W = w1 := hw1.symm
   clear hw1
   go_wp2
   go_ret2
   exact HE1.out _ (Below.refl _ _) HN.out
 | true =>
  rw [hkf] at HKF
  cases hkt : keyOk tu with
  | false =>
   rw [hkt] at HKT
   have HN : Hid (q = (1, [])) := HQ1.out (by rw [HRO.out, hkf, hkt]; rfl)
   go_wp2_with fail
   refine HKF.out.mono ?_
   rintro e w1 ⟨rfl, hw1⟩
   obtain rfl : W = w1 := hw1.symm
   clear hw1
   go_wp2_with fail
   refine HKT.out.mono ?_
   rintro e w1 ⟨rfl, hw1⟩
   obtain rfl : W = w1 := hw1.symm
   clear hw1
   go_wp2
   go_ret2
   exact HE1.out _ (Below.refl _ _) HN.out
  | true =>
   rw [hkt] at HKT
   go_wp2_with fail
   refine HKF.out.mono ?_
   rintro e w1 ⟨rfl, hw1⟩
   obtain rfl : W = w1 := hw1.symm
   clear hw1
   go_wp2_with fail
   refine HKT.out.mono ?_
   rintro e w1 ⟨rfl, hw1⟩
   obtain rfl : W = w1 := hw1.symm
   clear hw1
   cases hless : Op.bytesLess fr tu with
   | false =>
    have HN : Hid (q = (1, [])) := HQ1.out (by rw [HRO.out, hkf, hkt, hless]; rfl)
    go_wp2
    go_ret2
    exact HE1.out _ (Below.refl _ _) HN.out
   | true =>
    have HQ2 : Hid (q = (match rangeC [x0, x1, x2, x3, x4, x5, x6, x7] fr tu proof with
      | none => (5, [])
      | some l => (0, l))) := by
     unfold Hid; rw [← HQ.out]; unfold rngC; rw [if_pos (by rw [HRO.out, hkf, hkt, hless]; rfl)]
    clear HE1 HQ1 HRO HKF HKT HQ
    go_upto_region 5 with fail
    have hb3 : Below W.heap.size W (W.alloc (.cells #[.slice sp.a sp.n sp.cap, .bool false] 77)) := (Below.refl _ _).alloc (Nat.le_refl _) _
    have hD3 := RowV.below HD1.out HD1.out.lt hb3
    have hcv := run_string_SlB (P := Tryz.prog) (W.alloc (.cells #[.slice sp.a sp.n sp.cap, .bool false] 77)) 38 9 5 (some ⟨w.heap.size, 0, none⟩) 8 8 [x0, x1, x2, x3, x4, x5, x6, x7] Tryz.underlying38 Tryz.underlying5 Tryz.underlying9 rfl (SlB.of_row hD3) (fun h => by cases h)
    have hKK : ∀ k, blkOf sp k → k < W.heap.size := fun k ⟨x, hx, e⟩ => by have := HP.out.lt x hx; omega
    have hrd : RdO (W.alloc (.cells #[.slice sp.a sp.n sp.cap, .bool false] 77)) (blkOf sp) W.heap.size (some proof) :=
     ⟨sp, proof, false, ⟨RowV.new W _ _, ⟨HP.out.below hb3, HPC.out, fun x hx => ⟨x, hx, rfl⟩⟩, fun e => by have := hKK _ e; omega⟩, rfl⟩
    have HPG : Hid (Calls _ _ _ _ _) := rpage_any (blkOf sp) W.heap.size (some proof) [x0, x1, x2, x3, x4, x5, x6, x7] _ hrd (fun k hk => by have := hKK k hk; simp; omega)
    have HKK : Hid (∀ k, blkOf sp k → k < W.heap.size) := hKK
    have HB3 : Hid (Below W.heap.size W (W.alloc (.cells #[.slice sp.a sp.n sp.cap, .bool false] 77))) := hb3
    clear hD3 hb3 hrd hKK HPC hcf hct
    go_wp2_with fail
    refine HPG.out.mono ?_
    rintro e w4 ⟨lvl, cur, rfl, hlvl, hf4, hr4, hown⟩
    have hb4 : Below W.heap.size W w4 := HB3.out.trans (hf4.below (by simp) (fun k hk => by omega))
    have hb5 : Below w4.heap.size w4 (w4.alloc (.cells #[.int .i64 (lvl : Int), .slice cur.a cur.n cur.cap] 80)) := (Below.refl _ _).alloc (Nat.le_refl _) _
    have HB5 : Hid (Below W.heap.size W (w4.alloc (.cells #[.int .i64 (lvl : Int), .slice cur.a cur.n cur.cap] 80))) := hb4.trans (hb5.mono hb4.size)
    have HR5 : Hid (RdO (w4.alloc (.cells #[.int .i64 (lvl : Int), .slice cur.a cur.n cur.cap] 80)) (blkOf sp) W.heap.size ((pgO (some proof) [x0, x1, x2, x3, x4, x5, x6, x7]).map (·.2))) := hr4.below hb5
    have HP5 : Hid (RowV (w4.alloc (.cells #[.int .i64 (lvl : Int), .slice cur.a cur.n cur.cap] 80)) w4.heap.size 80 [.int .i64 (lvl : Int), .slice cur.a cur.n cur.cap]) := RowV.new w4 _ _
    have HOWN : Hid (∀ (lv : Nat) (its : List ItR) (r' : List UInt8), pgO (some proof) [x0, x1, x2, x3, x4, x5, x6, x7] = some ((lv, its), r') → lvl = lv ∧ OwnI (w4.alloc (.cells #[.int .i64 (lvl : Int), .slice cur.a cur.n cur.cap] 80)) (W.heap.size + 1) cur.val its) := fun lv its r' e => by
     obtain ⟨e1, h⟩ := hown lv its r' e
     have h2 := owns_below h hb5
     exact ⟨e1, by unfold OwnI; simpa using h2⟩
    clear hf4 hr4 hown hb4 hb5 HPG HB3 hcv
    unfold SlR.val
    go_upto_region 7 with fail
    generalize w4.alloc (.cells #[.int .i64 (lvl : Int), .slice cur.a cur.n cur.cap] 80) = W5 at *
    generalize w4.heap.size = pb at *
    have hF5 := HF.out.below HB5.out
    have hT5 := HT.out.below HB5.out
    have hcf := run_string_SlB (P := Tryz.prog) W5 38 9 5 sf.a sf.n sf.cap fr Tryz.underlying38 Tryz.underlying5 Tryz.underlying9 hF5.n hF5.sl hF5.nil
    have hct := run_string_SlB (P := Tryz.prog) W5 38 9 5 st.a st.n st.cap tu Tryz.underlying38 Tryz.underlying5 Tryz.underlying9 hT5.n hT5.sl hT5.nil
    have p0 := HP5.out.cell 0 (by simp)
    have p1 := HP5.out.cell 1 (by simp)
    simp only [List.getElem_cons_zero, List.getElem_cons_succ] at p0 p1
    have HW5 : Hid (w.heap.size ≤ W5.heap.size) := Nat.le_trans HB1.out.size HB5.out.size
    clear hF5 hT5
    have HUN : Hid (Calls Tryz.prog 109 #[.pointer (some ⟨W.heap.size, 0, none⟩), .agg #[.int .i64 (lvl : Int), .slice cur.a cur.n cur.cap], .string ⟨fr.toArray⟩, .string ⟨tu.toArray⟩] W5 (undPost W5 (blkOf sp) W.heap.size fr tu proof.length (rngRd [x0, x1, x2, x3, x4, x5, x6, x7] fr tu proof))) := by
     unfold rngRd
     cases e : pgO (some proof) [x0, x1, x2, x3, x4, x5, x6, x7] with
     | none =>
      have h := HR5.out; rw [e] at h
      refine Calls.mono (under_bad fr tu (blkOf sp) W.heap.size lvl cur W5 h) ?_
      rintro e w' ⟨v, es, l0, h1, h2, h3, h4, h5, h6⟩
      exact ⟨v, es, l0, h1, h2, h3, h4, Nat.le_trans h5 (Nat.zero_le _), h6⟩
     | some q =>
      obtain ⟨⟨lv, its⟩, r⟩ := q
      obtain ⟨rfl, ho⟩ := HOWN.out lv its r e
      have h := HR5.out; rw [e] at h
      obtain ⟨hs, hn⟩ := SlV.ofOwn (s := cur) ho
      have hpl := pgO_len e
      refine Calls.mono (under_good fr tu lvl (blkOf sp) W.heap.size cur its r W5 h (fun k hk => Nat.lt_of_lt_of_le (HKK.out k hk) HB5.out.size) (pgO_ok e) hs hn (fun x hx => by have := own_lt ho x hx; exact ⟨this.2, by omega⟩) (by have := HM.out; omega)) ?_
      rintro e w' ⟨v, es, l0, h1, h2, h3, h4, h5, h6⟩
      exact ⟨v, es, l0, h1, h2, h3, h4, by omega, h6⟩
    rw [rangeC_fin] at HQ2
    generalize rngRd [x0, x1, x2, x3, x4, x5, x6, x7] fr tu proof = R at *
    clear HOWN HR5
    go_wp2_with fail
    refine HUN.out.mono ?_
    rintro e w6 ⟨v, es, l0, rfl, hf6, hr6, he6, hl6, hR6⟩
    have HBW : Hid (Below w.heap.size w w6) := (HB1.out.trans (HB5.out.mono HB1.out.size)).trans (hf6.below HW5.out (fun k hk => by have := HB1.out.size; omega))
    have HE6 : Hid (EntsR w6 W5.heap.size v es l0) := he6
    have HR6 : Hid (∀ l r', R = some (l, r') → l0 = l.filter (inR fr tu)) := hR6
    obtain ⟨s', l', bad, hrd, ho⟩ := hr6
    have r0 : w6.cell? ⟨W.heap.size, 0, none⟩ = some (.slice s'.a s'.n s'.cap) := RowV.cell hrd.row 0 (by simp)
    have r1 : w6.cell? ⟨W.heap.size, 1, none⟩ = some (.bool bad) := RowV.cell hrd.row 1 (by simp)
    have HSN : Hid (s'.n = l'.length) := hrd.sub.bs.n
    clear hrd hf6 he6 hl6 hR6 HUN p0 p1 hcf hct
    unfold SlR.val
    cases bad with
    | true =>
     have HQ5 : Hid (q = (5, [])) := by
      unfold Hid; rw [HQ2.out]
      cases hR : R with
      | none => rfl
      | some p => rw [hR] at ho; simp at ho
     clear ho
     go_wp2
     go_ret2
     rw [HQ5.out]; exact ⟨⟨none, 0, 0⟩, [], rfl, HBW.out, EntsR.nil _ _⟩
    | false =>
     obtain ⟨l, hRl⟩ : ∃ l, R = some (l, l') := by
      cases hR : R with
      | none => rw [hR] at ho; simp at ho
      | some p => obtain ⟨p1, p2⟩ := p; rw [hR] at ho; simp at ho; subst ho; exact ⟨p1, rfl⟩
     have HRL : Hid (R = some (l, l')) := hRl
     clear ho hRl
     by_cases hz : s'.n = 0
     ·have HZ : Hid (l' = []) := List.length_eq_zero_iff.1 (by have := HSN.out; omega)
      have HQ0 : Hid (q = (0, l0)) := by
       unfold Hid; rw [HQ2.out, HRL.out, HZ.out]; simp only [finC, if_true]
       rw [HR6.out l l' HRL.out]
      have hzI : (s'.n : Int) = 0 := by omega
      go_wp2
      go_ret2
      rw [HQ0.out]; exact ⟨v, es, rfl, HBW.out, HE6.out.toBase HW5.out⟩
     ·have HQ5 : Hid (q = (5, [])) := by
       unfold Hid; rw [HQ2.out, HRL.out]
       have : l' ≠ [] := fun e => by have := HSN.out; rw [e] at this; simp at this; omega
       simp [finC, this]
      have hzI : (0 : Int) < s'.n := by omega
      go_wp2
      go_ret2
      rw [HQ5.out]; exact ⟨⟨none, 0, 0⟩, [], rfl, HBW.out, EntsR.nil _ _⟩
end Go.Proofs.YtekegfbjbainhaaGreat


namespace Go.Proofs.YtekegfbjbainhaaGreat
open Go.RowKit
attribute [local go_sem ↓] Go.wp_at_zero Go.wp_at_succ
def rrd (root fr tu proof : List UInt8) : Option (List ItR) := match rngRd root fr tu proof with
 | none => none
 | some (es, r) => if r = [] then some es else none
def rrPost (w : World) (K : Nat → Prop) (R : Option (List ItR)) (e : Ending) (w' : World) : Prop :=
 Below w.heap.size w w' ∧ match R with
  | none => e = .returned (.tuple #[.slice none 0 0, .bool false])
  | some es => ∃ (v : SlR) (ys : List EnP), e = .returned (.tuple #[v.val, .bool true]) ∧ EnsL 0 w' K w.heap.size v ys es
set_option maxRecDepth 100000 in
set_option maxHeartbeats 8000000 in
theorem readRange_any (sf st sp : SlR) (fr tu proof root : List UInt8) (w : World) (hr : root.length = 8) (hF : BS w sf fr) (hT : BS w st tu) (hp : BS w sp proof) (hpc : sp.n ≤ sp.cap) (hM : proof.length ≤ 1000000000) :
  Calls Tryz.prog 60 #[dV root, .slice sf.a sf.n sf.cap, .slice st.a st.n st.cap, .slice sp.a sp.n sp.cap] w (rrPost w (blkOf sp) (rrd root fr tu proof)) := by
 obtain ⟨d0, d1, d2, d3, d4, d5, d6, d7, rfl⟩ := list8 root hr
 rw [show dV [d0, d1, d2, d3, d4, d5, d6, d7] = .agg #[.int .u8 (d0.toNat : Int), .int .u8 (d1.toNat : Int), .int .u8 (d2.toNat : Int), .int .u8 (d3.toNat : Int), .int .u8 (d4.toNat : Int), .int .u8 (d5.toNat : Int), .int .u8 (d6.toNat : Int), .int .u8 (d7.toNat : Int)] from rfl]
 have hB0 : Below w.heap.size w ((((w.alloc (.cells #[.int .u8 (d0.toNat : Int), .int .u8 (d1.toNat : Int), .int .u8 (d2.toNat : Int), .int .u8 (d3.toNat : Int), .int .u8 (d4.toNat : Int), .int .u8 (d5.toNat : Int), .int .u8 (d6.toNat : Int), .int .u8 (d7.toNat : Int)] 36)).alloc (.cells #[.slice none 0 0] 67)).alloc (.cells #[.bool false] 4)).alloc (.cells #[.slice sp.a sp.n sp.cap] 168)) := ((((Below.refl _ _).alloc (Nat.le_refl _) _).alloc (by simp) _).alloc (by simp; omega) _).alloc (by simp; omega) _
 have HDR : Hid (RowV ((((w.alloc (.cells #[.int .u8 (d0.toNat : Int), .int .u8 (d1.toNat : Int), .int .u8 (d2.toNat : Int), .int .u8 (d3.toNat : Int), .int .u8 (d4.toNat : Int), .int .u8 (d5.toNat : Int), .int .u8 (d6.toNat : Int), .int .u8 (d7.toNat : Int)] 36)).alloc (.cells #[.slice none 0 0] 67)).alloc (.cells #[.bool false] 4)).alloc (.cells #[.slice sp.a sp.n sp.cap] 168)) w.heap.size 36 ([d0, d1, d2, d3, d4, d5, d6, d7].map u8c)) := ((((RowV.new w 36 ([d0, d1, d2, d3, d4, d5, d6, d7].map u8c)).alloc _).alloc _).alloc _)
 have hKK : ∀ k, blkOf sp k → k < w.heap.size := fun k ⟨x, hx, e⟩ => by have := hp.lt x hx; omega
 have HRD : Hid (RdP ((((w.alloc (.cells #[.int .u8 (d0.toNat : Int), .int .u8 (d1.toNat : Int), .int .u8 (d2.toNat : Int), .int .u8 (d3.toNat : Int), .int .u8 (d4.toNat : Int), .int .u8 (d5.toNat : Int), .int .u8 (d6.toNat : Int), .int .u8 (d7.toNat : Int)] 36)).alloc (.cells #[.slice none 0 0] 67)).alloc (.cells #[.bool false] 4)).alloc (.cells #[.slice sp.a sp.n sp.cap] 168)) (blkOf sp) (w.heap.size + 1 + 1 + 1) proof) :=
  ⟨sp, RowV.new_at _ _ _ _ (by simp), ⟨hp.below hB0, hpc, fun x hx => ⟨x, hx, rfl⟩⟩, fun e => by have := hKK _ e; omega⟩
 have HE1 : Hid (RowV ((((w.alloc (.cells #[.int .u8 (d0.toNat : Int), .int .u8 (d1.toNat : Int), .int .u8 (d2.toNat : Int), .int .u8 (d3.toNat : Int), .int .u8 (d4.toNat : Int), .int .u8 (d5.toNat : Int), .int .u8 (d6.toNat : Int), .int .u8 (d7.toNat : Int)] 36)).alloc (.cells #[.slice none 0 0] 67)).alloc (.cells #[.bool false] 4)).alloc (.cells #[.slice sp.a sp.n sp.cap] 168)) (w.heap.size + 1) 67 [.slice none 0 0]) := ((RowV.new_at _ _ _ _ (by simp)).alloc _).alloc _
 have HE2 : Hid (RowV ((((w.alloc (.cells #[.int .u8 (d0.toNat : Int), .int .u8 (d1.toNat : Int), .int .u8 (d2.toNat : Int), .int .u8 (d3.toNat : Int), .int .u8 (d4.toNat : Int), .int .u8 (d5.toNat : Int), .int .u8 (d6.toNat : Int), .int .u8 (d7.toNat : Int)] 36)).alloc (.cells #[.slice none 0 0] 67)).alloc (.cells #[.bool false] 4)).alloc (.cells #[.slice sp.a sp.n sp.cap] 168)) (w.heap.size + 1 + 1) 4 [.bool false]) := (RowV.new_at _ _ _ _ (by simp)).alloc _
 have HB0 : Hid (Below w.heap.size w ((((w.alloc (.cells #[.int .u8 (d0.toNat : Int), .int .u8 (d1.toNat : Int), .int .u8 (d2.toNat : Int), .int .u8 (d3.toNat : Int), .int .u8 (d4.toNat : Int), .int .u8 (d5.toNat : Int), .int .u8 (d6.toNat : Int), .int .u8 (d7.toNat : Int)] 36)).alloc (.cells #[.slice none 0 0] 67)).alloc (.cells #[.bool false] 4)).alloc (.cells #[.slice sp.a sp.n sp.cap] 168))) := hB0
 have hmf : ∀ (fn : Fn) (first cap : Array Value) (w : World), (Instr.makeFunc fn first cap).run Tryz.prog w = .ok (.func fn first cap) w := fun _ _ _ _ => rfl
 clear hr hp hpc
 go_enter_defers Tryz.func60, Tryz.ntmps60
 go_upto_region 3 with fail
 generalize (((w.alloc (.cells #[.int .u8 (d0.toNat : Int), .int .u8 (d1.toNat : Int), .int .u8 (d2.toNat : Int), .int .u8 (d3.toNat : Int), .int .u8 (d4.toNat : Int), .int .u8 (d5.toNat : Int), .int .u8 (d6.toNat : Int), .int .u8 (d7.toNat : Int)] 36)).alloc (.cells #[.slice none 0 0] 67)).alloc (.cells #[.bool false] 4)).alloc (.cells #[.slice sp.a sp.n sp.cap] 168) = W at *
 generalize hx3 : w.heap.size + 1 + 1 + 1 = rb at *
 generalize hx2 : w.heap.size + 1 + 1 = qb at *
 have HX3 : Hid (rb = w.heap.size + 3) := by unfold Hid; omega
 have HX2 : Hid (qb = w.heap.size + 2) := by unfold Hid; omega
 clear hx3 hx2
 have k0 : W.cell? ⟨w.heap.size, 0, none⟩ = some (.int .u8 (d0.toNat : Int)) := HDR.out.cell 0 (by simp)
 have k1 : W.cell? ⟨w.heap.size, 1, none⟩ = some (.int .u8 (d1.toNat : Int)) := HDR.out.cell 1 (by simp)
 have k2 : W.cell? ⟨w.heap.size, 2, none⟩ = some (.int .u8 (d2.toNat : Int)) := HDR.out.cell 2 (by simp)
 have k3 : W.cell? ⟨w.heap.size, 3, none⟩ = some (.int .u8 (d3.toNat : Int)) := HDR.out.cell 3 (by simp)
 have k4 : W.cell? ⟨w.heap.size, 4, none⟩ = some (.int .u8 (d4.toNat : Int)) := HDR.out.cell 4 (by simp)
 have k5 : W.cell? ⟨w.heap.size, 5, none⟩ = some (.int .u8 (d5.toNat : Int)) := HDR.out.cell 5 (by simp)
 have k6 : W.cell? ⟨w.heap.size, 6, none⟩ = some (.int .u8 (d6.toNat : Int)) := HDR.out.cell 6 (by simp)
 have k7 : W.cell? ⟨w.heap.size, 7, none⟩ = some (.int .u8 (d7.toNat : Int)) := HDR.out.cell 7 (by simp)
 have HF : Hid (BS w sf fr) := hF
 have HT : Hid (BS w st tu) := hT
 have HKK : Hid (∀ k, blkOf sp k → k < w.heap.size) := hKK
 have HM : Hid (proof.length ≤ 1000000000) := hM
 have HPG : Hid (Calls _ _ _ _ _) := pageP_any (blkOf sp) rb proof [d0, d1, d2, d3, d4, d5, d6, d7] W HRD.out (fun k hk => Nat.lt_of_lt_of_le (HKK.out k hk) HB0.out.size) rfl
 rw [show dV [d0, d1, d2, d3, d4, d5, d6, d7] = .agg #[.int .u8 (d0.toNat : Int), .int .u8 (d1.toNat : Int), .int .u8 (d2.toNat : Int), .int .u8 (d3.toNat : Int), .int .u8 (d4.toNat : Int), .int .u8 (d5.toNat : Int), .int .u8 (d6.toNat : Int), .int .u8 (d7.toNat : Int)] from rfl] at HPG
 have HQ : Hid (∀ R, rngRd [d0, d1, d2, d3, d4, d5, d6, d7] fr tu proof = R → rrd [d0, d1, d2, d3, d4, d5, d6, d7] fr tu proof = match R with
   | none => none
   | some (es, r) => if r = [] then some es else none) := fun R e => by unfold rrd; rw [e]
 have HRN : Hid (rngRd [d0, d1, d2, d3, d4, d5, d6, d7] fr tu proof = match pgO (some proof) [d0, d1, d2, d3, d4, d5, d6, d7] with
   | none => none
   | some ((lv, its), r) => readU fr tu lv its r) := rfl
 -- what the closure leaves, if the reader has given up
 have HEND : Hid (∀ (W' : World) (s : Value), RowV W' (w.heap.size + 1) 67 [s] → RowV W' qb 4 [.bool false] → Below w.heap.size w W' → rrd [d0, d1, d2, d3, d4, d5, d6, d7] fr tu proof = none → CallsD Tryz.prog 102 #[.pointer (some ⟨w.heap.size + 1, 0, none⟩), .pointer (some ⟨qb, 0, none⟩)] (.panicking [{ v := .iface 166 (.agg #[]), recovered := false }]) W' fun e u' w' => e = .returned (.tuple #[]) ∧ u' = .panicking [{ v := .iface 166 (.agg #[]), recovered := true }] ∧ w'.cell? ⟨w.heap.size + 1, 0, none⟩ = some (.slice none 0 0) ∧ w'.cell? ⟨qb, 0, none⟩ = some (.bool false) ∧ rrPost w (blkOf sp) (rrd [d0, d1, d2, d3, d4, d5, d6, d7] fr tu proof) (.returned (.tuple #[.slice none 0 0, .bool false])) w') := fun W' s h1 h2 hb hn => by
  refine (catch_pk (w.heap.size + 1) qb s false W' (h1.cell 0 (by simp)) (h1.frozen 0) (h2.cell 0 (by simp)) (h2.frozen 0) h1.lt h2.lt (by have := HX2.out; omega)).mono ?_
  rintro e u' w' ⟨e1, e2, hf2, c1, c2⟩
  refine ⟨e1, e2, c1, c2, hb.trans (hf2.below hb.size (fun k hk => by have := HX2.out; omega)), ?_⟩
  rw [hn]
 have HFR : Hid (∀ W' : World, Frame (fun k => k = rb) W W' → RowV W' (w.heap.size + 1) 67 [.slice none 0 0] ∧ RowV W' qb 4 [.bool false] ∧ Below w.heap.size w W') := fun W' hf =>
  ⟨RowV.of_block HE1.out (hf.block _ HE1.out.lt (by have := HX3.out; omega)), RowV.of_block HE2.out (hf.block _ HE2.out.lt (by have := HX3.out; have := HX2.out; omega)), HB0.out.trans (hf.below HB0.out.size (fun k hk => by have := HX3.out; omega))⟩
 clear hF hT hKK hM HRD
 go_wp2_with fail
 refine HPG.out.mono ?_
 rintro e w5 ⟨hf5, hm⟩
 cases hpg : pgO (some proof) [d0, d1, d2, d3, d4, d5, d6, d7] with
 | none =>
  rw [hpg] at hm
  obtain rfl : e = pkE := hm
  have HX : Hid (rrd [d0, d1, d2, d3, d4, d5, d6, d7] fr tu proof = none) := by unfold Hid; rw [HQ.out _ (by rw [HRN.out, hpg])]
  have HC : Hid (CallsD _ _ _ _ _ _) := HEND.out w5 _ (HFR.out w5 hf5).1 (HFR.out w5 hf5).2.1 (HFR.out w5 hf5).2.2 HX.out
  unfold pkE
  go_wp2
  refine leaves_cons (f := 102) (args := #[.pointer (some ⟨w.heap.size + 1, 0, none⟩), .pointer (some ⟨qb, 0, none⟩)]) (by simp) (by simp [go_sem]) ?_
  refine HC.out.mono ?_
  rintro e u' w'' ⟨rfl, rfl, c1, c2, hpost⟩
  simp [Leaves, settle, results, Tryz.results60, go_sem, c1, c2]
  exact hpost
 | some q =>
  obtain ⟨⟨lv, its⟩, r⟩ := q
  rw [hpg] at hm
  obtain ⟨cur, xs, rfl, hens, hr5⟩ := hm
  have HRN2 : Hid (rngRd [d0, d1, d2, d3, d4, d5, d6, d7] fr tu proof = readU fr tu lv its r) := by unfold Hid; rw [HRN.out, hpg]
  obtain ⟨g1, g2, g3⟩ := HFR.out w5 hf5
  have HG3 : Hid (Below w.heap.size w w5) := g3
  have hrw : w.heap.size < rb := by have := HX3.out; omega
  have hplen := pgO_len hpg
  have HEB : Hid (Calls _ _ _ _ _) := eb_any fr tu lv (blkOf sp) rb W.heap.size cur xs its r sf st w5 hr5 (fun k hk => Nat.lt_of_lt_of_le (HKK.out k hk) g3.size) (pgO_ok hpg) hens hf5.size (HF.out.below g3) (HT.out.below g3) (fun x hx e => by have := HF.out.lt x hx; omega) (fun x hx e => by have := HT.out.lt x hx; omega) (by have := HM.out; omega)
  have HF5 : Hid (Frame (fun k => k = rb) W w5) := hf5
  clear hpg hens hr5 hplen hf5 g1 g2 g3 HPG k0 k1 k2 k3 k4 k5 k6 k7 HRN
  unfold SlR.val
  go_wp2_with fail
  refine HEB.out.mono ?_
  rintro e w6 ⟨hf6, hm⟩
  have HF6 : Hid (Frame (fun k => k = rb) W w6) := HF5.out.trans hf6
  cases hru : readU fr tu lv its r with
  | none =>
   rw [hru] at hm
   obtain rfl : e = pkE := hm
   have HX : Hid (rrd [d0, d1, d2, d3, d4, d5, d6, d7] fr tu proof = none) := by unfold Hid; rw [HQ.out _ (by rw [HRN2.out, hru])]
   have HC : Hid (CallsD _ _ _ _ _ _) := HEND.out w6 _ (HFR.out w6 HF6.out).1 (HFR.out w6 HF6.out).2.1 (HFR.out w6 HF6.out).2.2 HX.out
   unfold pkE
   go_wp2
   refine leaves_cons (f := 102) (args := #[.pointer (some ⟨w.heap.size + 1, 0, none⟩), .pointer (some ⟨qb, 0, none⟩)]) (by simp) (by simp [go_sem]) ?_
   refine HC.out.mono ?_
   rintro e u' w'' ⟨rfl, rfl, c1, c2, hpost⟩
   simp [Leaves, settle, results, Tryz.results60, go_sem, c1, c2]
   exact hpost
  | some q =>
   obtain ⟨es, r2⟩ := q
   rw [hru] at hm
   obtain ⟨v, ys, rfl, hen6, hr6⟩ := hm
   obtain ⟨g1, g2, g3⟩ := HFR.out w6 HF6.out
   have HRR : Hid (rrd [d0, d1, d2, d3, d4, d5, d6, d7] fr tu proof = if r2 = [] then some es else none) := by unfold Hid; rw [HQ.out _ (by rw [HRN2.out, hru])]
   have hft : Frame (fun k => k = w.heap.size + 1) w6 (w6.setCell ⟨w.heap.size + 1, 0, none⟩ (.slice v.a v.n v.cap)) := (Frame.refl (fun k => k = w.heap.size + 1) w6).setCell (p := ⟨w.heap.size + 1, 0, none⟩) rfl _
   have HE7 : Hid (RowV (w6.setCell ⟨w.heap.size + 1, 0, none⟩ (.slice v.a v.n v.cap)) (w.heap.size + 1) 67 [.slice v.a v.n v.cap]) := by unfold Hid; simpa using RowV.set g1 0 (.slice v.a v.n v.cap)
   have HQ7 : Hid (RowV (w6.setCell ⟨w.heap.size + 1, 0, none⟩ (.slice v.a v.n v.cap)) qb 4 [.bool false]) := RowV.of_block g2 (hft.block _ g2.lt (by have := HX2.out; omega))
   have HB7 : Hid (Below w.heap.size w (w6.setCell ⟨w.heap.size + 1, 0, none⟩ (.slice v.a v.n v.cap))) := g3.trans (hft.below g3.size (fun k hk => by omega))
   have hkn : ∀ q, blkOf sp q → ¬ q = w.heap.size + 1 := fun q hq e => by have := HKK.out q hq; omega
   have HN7 : Hid (EnsL 0 (w6.setCell ⟨w.heap.size + 1, 0, none⟩ (.slice v.a v.n v.cap)) (blkOf sp) W.heap.size v ys es) := hen6.frame hft (fun k hk e => owns_ne hen6.own g1 (by decide) (by rw [hk, e])) hkn
   have hr7 : RdP (w6.setCell ⟨w.heap.size + 1, 0, none⟩ (.slice v.a v.n v.cap)) (blkOf sp) rb r2 := hr6.frame hft (by have := HX3.out; omega) hkn
   have HEN : Hid (Calls _ _ _ _ _) := endP_any (blkOf sp) rb r2 _ hr7
   have c1 := g1.cell 0 (by simp)
   have fc1 := g1.frozen 0
   simp only [List.getElem_cons_zero] at c1
   clear hru hen6 hr6 hft hkn hr7 g1 g2 g3 hf6 HEB HRN2
   unfold SlR.val
   go_upto_region 4 with fail
   generalize w6.setCell ⟨w.heap.size + 1, 0, none⟩ (.slice v.a v.n v.cap) = W7 at *
   go_wp2_with fail
   refine HEN.out.mono ?_
   rintro e w8 ⟨hw8, he⟩
   obtain rfl : W7 = w8 := hw8.symm
   clear hw8 c1 fc1
   by_cases hr2 : r2 = []
   ·rw [if_pos hr2] at he
    subst he
    have HX : Hid (rrd [d0, d1, d2, d3, d4, d5, d6, d7] fr tu proof = some es) := by unfold Hid; rw [HRR.out, if_pos hr2]
    have c1 := HE7.out.cell 0 (by simp)
    have fc1 := HE7.out.frozen 0
    have c2 := HQ7.out.cell 0 (by simp)
    have fc2 := HQ7.out.frozen 0
    simp only [List.getElem_cons_zero] at c1 c2
    have hnq : w.heap.size + 1 ≠ qb := by have := HX2.out; omega
    have hft : Frame (fun k => k = w.heap.size + 1 ∨ k = qb) W7 ((W7.setCell ⟨w.heap.size + 1, 0, none⟩ (.slice v.a v.n v.cap)).setCell ⟨qb, 0, none⟩ (.bool true)) := ((Frame.refl (fun k => k = w.heap.size + 1 ∨ k = qb) W7).setCell (p := ⟨w.heap.size + 1, 0, none⟩) (Or.inl rfl) _).setCell (p := ⟨qb, 0, none⟩) (Or.inr rfl) _
    have HPO : Hid (rrPost w (blkOf sp) (rrd [d0, d1, d2, d3, d4, d5, d6, d7] fr tu proof) (.returned (.tuple #[.slice v.a v.n v.cap, .bool true])) ((W7.setCell ⟨w.heap.size + 1, 0, none⟩ (.slice v.a v.n v.cap)).setCell ⟨qb, 0, none⟩ (.bool true))) := by
     refine ⟨HB7.out.trans (hft.below HB7.out.size (fun k hk => by have := HX2.out; omega)), ?_⟩
     rw [HX.out]
     refine ⟨v, ys, rfl, (HN7.out.frame hft (fun k hk e => ?_) (fun q hq e => by have := HKK.out q hq; have := HX2.out; omega)).toBase HB0.out.size⟩
     rcases e with e | e
     ·exact owns_ne HN7.out.own HE7.out (by decide) (by rw [hk, e])
     ·exact owns_ne HN7.out.own HQ7.out (by decide) (by rw [hk, e])
    have d1 : ((W7.setCell ⟨w.heap.size + 1, 0, none⟩ (.slice v.a v.n v.cap)).setCell ⟨qb, 0, none⟩ (.bool true)).cell? ⟨w.heap.size + 1, 0, none⟩ = some (.slice v.a v.n v.cap) := by
     have h1 := RowV.of_block (RowV.set HE7.out 0 (.slice v.a v.n v.cap)) (((Frame.refl (fun k => k = qb) _).setCell (p := ⟨qb, 0, none⟩) rfl (.bool true)).block _ (RowV.lt (RowV.set HE7.out 0 (.slice v.a v.n v.cap))) hnq)
     exact h1.cell 0 (by simp)
    have d2 : ((W7.setCell ⟨w.heap.size + 1, 0, none⟩ (.slice v.a v.n v.cap)).setCell ⟨qb, 0, none⟩ (.bool true)).cell? ⟨qb, 0, none⟩ = some (.bool true) := by
     have h1 := RowV.of_block HQ7.out (((Frame.refl (fun k => k = w.heap.size + 1) _).setCell (p := ⟨w.heap.size + 1, 0, none⟩) rfl (.slice v.a v.n v.cap)).block _ HQ7.out.lt (fun e => hnq e.symm))
     exact (RowV.set h1 0 (.bool true)).cell 0 (by simp)
    have HD1 : Hid (_ = _) := d1
    have HD2 : Hid (_ = _) := d2
    clear d1 d2 hft
    go_wp2
    refine leaves_cons (f := 102) (args := #[.pointer (some ⟨w.heap.size + 1, 0, none⟩), .pointer (some ⟨qb, 0, none⟩)]) (by simp) (by simp [go_sem]) ?_
    refine (catch_idle ⟨w.heap.size + 1, 0, none⟩ ⟨qb, 0, none⟩ _).mono ?_
    rintro e u' w'' ⟨rfl, rfl, rfl⟩
    have d1 := HD1.out
    have d2 := HD2.out
    simp [Leaves, settle, results, Tryz.results60, go_sem, d1, d2]
    exact HPO.out
   ·rw [if_neg hr2] at he
    obtain rfl : e = pkE := he
    have HX : Hid (rrd [d0, d1, d2, d3, d4, d5, d6, d7] fr tu proof = none) := by unfold Hid; rw [HRR.out, if_neg hr2]
    have HC : Hid (CallsD _ _ _ _ _ _) := HEND.out W7 _ HE7.out HQ7.out HB7.out HX.out
    unfold pkE
    go_wp2
    refine leaves_cons (f := 102) (args := #[.pointer (some ⟨w.heap.size + 1, 0, none⟩), .pointer (some ⟨qb, 0, none⟩)]) (by simp) (by simp [go_sem]) ?_
    refine HC.out.mono ?_
    rintro e u' w'' ⟨rfl, rfl, c1, c2, hpost⟩
    simp [Leaves, settle, results, Tryz.results60, go_sem, c1, c2]
    exact hpost
end Go.Proofs.YtekegfbjbainhaaGreat
