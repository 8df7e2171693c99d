import Derived.Test.YtekegfbjbainhaaGreatKRefP5
import Derived.Test.YtekegfbjbainhaaGreatKJoin15
/- The reference's Prove, walked. -/
namespace Go.Proofs.YtekegfbjbainhaaGreat
set_option linter.unusedVariables false
set_option linter.unusedSimpArgs false
open Go.RowKit

/-- The proof of a range in the tree of what was there. -/
def prfB (p : List ItR) (fr tu : List UInt8) : List UInt8 := rangeF (grownN p) fr tu (rootLevel p) (rootPage p)
/-- What Prove and ProveRange answer: the error; the bytes. -/
def epochBad (n : Nat) (e : Int) : Bool := decide (e < 0) || decide ((n : Int) ≤ e)
def prvE (n : Nat) (e : Int) (key : List UInt8) : Nat := if epochBad n e = true then 4 else if keyOk key = false then 1 else 0
def rngOk (fr tu : List UInt8) : Bool := keyOk fr && keyOk tu && Op.bytesLess fr tu
def rngE (n : Nat) (e : Int) (fr tu : List UInt8) : Nat := if epochBad n e = true then 4 else if rngOk fr tu = false then 1 else 0
def pastAt (pp : List (List ItR)) (e : Int) : List ItR := pp.getD e.toNat []
def prvB (pp : List (List ItR)) (e : Int) (key : List UInt8) : List UInt8 := if prvE pp.length e key = 0 then prfB (pastAt pp e) key key else []
def rngB (pp : List (List ItR)) (e : Int) (fr tu : List UInt8) : List UInt8 := if rngE pp.length e fr tu = 0 then prfB (pastAt pp e) fr tu else []

/-- What the trees of a store's commits need. -/
def PastR (p : List ItR) : Prop := RiseK p ∧ (∀ x ∈ p, ItOk x) ∧ p.length ≤ 60

theorem point_prf (l : List ItR) (h : PastR l) (key : List UInt8) : pointF (grownN l) key (rootLevel l) (rootPage l) = prfB l key key := by
  unfold prfB
  have hL := grown_lv l h.1 h.2.1 h.2.2
  refine point_range hL key (fun p hp => rising_place p key hp) _ _ ?_
  have e : rootPage l = pageAt (grownN l) (rootLevel l) 0 := by
    unfold rootPage pageAt rootLevel
    cases ((grownN l)[(grownN l).length - 1]?.getD []) <;> rfl
  rw [e]
  exact (pageAt_ok hL _ _).2.2

set_option maxRecDepth 100000 in
set_option maxHeartbeats 1000000 in
theorem refProve_epoch (rb : Nat) (now past roots : SlR) (nowL : List ItR) (pastL : List (SlR × List ItR)) (rootsL : List (List UInt8)) (e : Int) (kv : Value) (w : World) (h : RefAt w rb 0 now past roots nowL pastL rootsL) (hp : pastL.length ≤ 40) (he : epochBad pastL.length e = true) :
    Calls Tryz.prog 47 #[.pointer (some ⟨rb, 0, none⟩), .int .i64 e, kv] w fun r w' => r = .returned (.tuple #[.slice none 0 0, .int .i64 4]) ∧ Below w.heap.size w w' := by
  have hn := (owns_cap (a := past.a) (n' := past.n) (cap := past.cap) h.hpast).1
  have c1 : w.cell? ⟨rb, 1, none⟩ = some (.slice past.a past.n past.cap) := RowV.cell h.row 1 (by simp)
  have hpI : (past.n : Int) ≤ 40 := by omega
  by_cases h0 : e < 0
  · clear hn h he
    go_enter Tryz.func47, Tryz.ntmps47
    go_wp2
    go_ret2
    exact ⟨rfl, Below.refl _ _⟩
  · have h1 : (past.n : Int) ≤ e := by
      unfold epochBad at he
      simp [h0] at he
      omega
    clear hn h he
    go_enter Tryz.func47, Tryz.ntmps47
    go_wp2
    go_ret2
    exact ⟨rfl, Below.refl _ _⟩

theorem epoch_in {n : Nat} {e : Int} (h : epochBad n e = false) : ∃ k : Nat, e = k ∧ k < n := by
  unfold epochBad at h
  simp at h
  exact ⟨e.toNat, by omega, by omega⟩

set_option maxRecDepth 100000 in
set_option maxHeartbeats 1000000 in
theorem refProve_arg (rb : Nat) (now past roots : SlR) (nowL : List ItR) (pastL : List (SlR × List ItR)) (rootsL : List (List UInt8)) (k : Nat) (sk : SlR) (key : List UInt8) (w : World) (h : RefAt w rb 0 now past roots nowL pastL rootsL) (hp : pastL.length ≤ 40) (hk : k < pastL.length) (hK : BS w sk key) (hkm : key.length ≤ maxLen) (ha : keyOk key = false) :
    Calls Tryz.prog 47 #[.pointer (some ⟨rb, 0, none⟩), .int .i64 (k : Int), sk.val] w fun r w' => r = .returned (.tuple #[.slice none 0 0, .int .i64 1]) ∧ Below w.heap.size w w' := by
  have hn := (owns_cap (a := past.a) (n' := past.n) (cap := past.cap) h.hpast).1
  have c1 : w.cell? ⟨rb, 1, none⟩ = some (.slice past.a past.n past.cap) := RowV.cell h.row 1 (by simp)
  have hpI : (past.n : Int) ≤ 40 := by omega
  have hkI : (k : Int) < past.n := by omega
  have HKF : Hid (Calls _ _ _ _ _) := keyFits_any sk.a sk.n sk.cap w (by rw [hK.n]; exact hkm)
  have hkb : (decide (1 ≤ sk.n) && decide (sk.n ≤ 12)) = false := by rw [hK.n]; exact ha
  rw [hkb] at HKF
  clear hn h hkb hK
  unfold SlR.val
  go_enter Tryz.func47, Tryz.ntmps47
  go_wp2_with (go_at_call 31; refine HKF.out.mono ?_; rintro e w1 ⟨rfl, hw1⟩; obtain rfl : w = w1 := hw1.symm)
  go_ret2
  exact ⟨rfl, Below.refl _ _⟩

set_option maxRecDepth 100000 in
set_option maxHeartbeats 1000000 in
theorem refProve_ok (rb : Nat) (now past roots : SlR) (nowL : List ItR) (pastL : List (SlR × List ItR)) (rootsL : List (List UInt8)) (k : Nat) (sk : SlR) (key : List UInt8) (w : World) (h : RefAt w rb 0 now past roots nowL pastL rootsL) (hp : pastL.length ≤ 40) (hk : k < pastL.length) (hP : PastR pastL[k].2) (hK : BS w sk key) (ha : keyOk key = true) :
    Calls Tryz.prog 47 #[.pointer (some ⟨rb, 0, none⟩), .int .i64 (k : Int), sk.val] w fun r w' => ∃ a' n' c', r = .returned (.tuple #[.slice a' n' c', .int .i64 0]) ∧ OwnB w' w.heap.size (.slice a' n' c') (prfB pastL[k].2 key key) ∧ Below w.heap.size w w' := by
  obtain ⟨hps, hn⟩ := SlV.ofOwn (s := past) h.hpast
  have c1 : w.cell? ⟨rb, 1, none⟩ = some (.slice past.a past.n past.cap) := RowV.cell h.row 1 (by simp)
  obtain ⟨b, o, hpa, hb, hcell⟩ := hps k (by simpa using hk)
  have c2 : w.cell? ⟨b, o + k, none⟩ = some (.slice pastL[k].1.a pastL[k].1.n pastL[k].1.cap) := by rw [hcell]; simp [SlR.val]
  have hpI : (past.n : Int) ≤ 40 := by omega
  have hkI : (k : Int) < past.n := by omega
  have hk12 : 1 ≤ key.length ∧ key.length ≤ 12 := by unfold keyOk at ha; simpa using ha
  have HKF : Hid (Calls _ _ _ _ _) := keyFits_any sk.a sk.n sk.cap w (by rw [hK.n]; unfold maxLen; omega)
  have hkb : (decide (1 ≤ sk.n) && decide (sk.n ≤ 12)) = true := by rw [hK.n]; exact ha
  rw [hkb] at HKF
  obtain ⟨hits, hitn⟩ := SlV.ofOwn (s := pastL[k].1) (h.hpok pastL[k] (List.getElem_mem hk))
  have HGR : Hid (Calls _ _ _ _ _) := grown_any pastL[k].1 pastL[k].2 w hitn (by have := hP.2.2; omega) hP.2.1 hits
  have HCV : Hid (∀ W, Below w.heap.size w W → (convert 38 9 (.slice sk.a sk.n sk.cap)).run Tryz.prog W = .ok (.string ⟨key.toArray⟩) W) := fun W hW => run_string_SlB (P := Tryz.prog) W 38 9 5 sk.a sk.n sk.cap key Tryz.underlying38 Tryz.underlying5 Tryz.underlying9 hK.n (hK.below hW).sl hK.nil
  have HPP : Hid (PastR pastL[k].2) := hP
  generalize pastL[k] = pk at *
  obtain ⟨pa, pn, pc⟩ := past
  simp only at hpa hpI hkI c1
  subst hpa
  clear hn h hkb hK hps hcell hits hitn hP ha hk12
  unfold SlR.val
  go_enter Tryz.func47, Tryz.ntmps47
  go_wp2_with (go_at_call 31; refine HKF.out.mono ?_; rintro e w1 ⟨rfl, hw1⟩; obtain rfl : w = w1 := hw1.symm; clear hw1)
  refine HGR.out.mono ?_
  rintro e w1 ⟨lv, rfl, lvls, ho1, hok1, hN1, hb1⟩
  obtain ⟨m, s, q, ql, rest, hm1, hm2, hm3, hm4, hm5, _, _⟩ := lvls_last hN1 HPP.out.2.1 (by have := HPP.out.2.2; omega)
  have hbA : Below w1.heap.size w1 (w1.alloc (.cells #[.slice lv.a lv.n lv.cap] 146)) := (Below.refl _ _).alloc (Nat.le_refl _) _
  have hcv := HCV.out (w1.alloc (.cells #[.slice lv.a lv.n lv.cap] 146)) (hb1.alloc hb1.size _)
  have HPT : Hid (Calls _ _ _ _ _) := refPoint_any lv lvls w.heap.size m s (q, ql) rest key (w1.alloc (.cells #[.slice lv.a lv.n lv.cap] 146)) (by rw [hN1]; exact grown_lv _ HPP.out.1 HPP.out.2.1 HPP.out.2.2) hm1 hm2 (RTree.below ⟨ho1, hok1⟩ hbA) hm3
  rw [hN1, ← hm4, ← hm5, point_prf _ HPP.out] at HPT
  unfold strV at HPT
  have HB1 : Hid (Below w.heap.size w w1) := hb1
  clear ho1 hok1 hN1 hb1 hm1 hm2 hm3 hm4 hm5 hbA
  go_wp2_with fail
  refine HPT.out.mono ?_
  rintro e w2 ⟨a2, n2, c2', rfl, ho2, hb2⟩
  go_wp2
  go_ret2
  refine ⟨a2, n2, c2', rfl, owns_base ho2 (fun k hk => by have := (ho2.lt k hk).1; have := HB1.out.size; simp at *; omega), (HB1.out.alloc HB1.out.size _).trans (hb2.mono (by have := HB1.out.size; simp; omega))⟩
end Go.Proofs.YtekegfbjbainhaaGreat

/- The reference's ProveRange, walked. -/
namespace Go.Proofs.YtekegfbjbainhaaGreat
set_option linter.unusedVariables false
set_option linter.unusedSimpArgs false
open Go.RowKit

set_option maxRecDepth 100000 in
set_option maxHeartbeats 1000000 in
theorem refRangeP_epoch (rb : Nat) (now past roots : SlR) (nowL : List ItR) (pastL : List (SlR × List ItR)) (rootsL : List (List UInt8)) (e : Int) (kv kv2 : Value) (w : World) (h : RefAt w rb 0 now past roots nowL pastL rootsL) (hp : pastL.length ≤ 40) (he : epochBad pastL.length e = true) :
    Calls Tryz.prog 49 #[.pointer (some ⟨rb, 0, none⟩), .int .i64 e, kv, kv2] w fun r w' => r = .returned (.tuple #[.slice none 0 0, .int .i64 4]) ∧ Below w.heap.size w w' := by
  have hn := (owns_cap (a := past.a) (n' := past.n) (cap := past.cap) h.hpast).1
  have c1 : w.cell? ⟨rb, 1, none⟩ = some (.slice past.a past.n past.cap) := RowV.cell h.row 1 (by simp)
  have hpI : (past.n : Int) ≤ 40 := by omega
  by_cases h0 : e < 0
  · clear hn h he
    go_enter Tryz.func49, Tryz.ntmps49
    go_wp2
    go_ret2
    exact ⟨rfl, Below.refl _ _⟩
  · have h1 : (past.n : Int) ≤ e := by
      unfold epochBad at he
      simp [h0] at he
      omega
    clear hn h he
    go_enter Tryz.func49, Tryz.ntmps49
    go_wp2
    go_ret2
    exact ⟨rfl, Below.refl _ _⟩

set_option maxRecDepth 100000 in
set_option maxHeartbeats 1000000 in
theorem refRangeP_arg (rb : Nat) (now past roots : SlR) (nowL : List ItR) (pastL : List (SlR × List ItR)) (rootsL : List (List UInt8)) (k : Nat) (sf st : SlR) (fr tu : List UInt8) (w : World) (h : RefAt w rb 0 now past roots nowL pastL rootsL) (hp : pastL.length ≤ 40) (hk : k < pastL.length) (hF : BS w sf fr) (hT : BS w st tu) (hfm : fr.length ≤ maxLen) (htm : tu.length ≤ maxLen) (ha : rngOk fr tu = false) :
    Calls Tryz.prog 49 #[.pointer (some ⟨rb, 0, none⟩), .int .i64 (k : Int), sf.val, st.val] w fun r w' => r = .returned (.tuple #[.slice none 0 0, .int .i64 1]) ∧ Below w.heap.size w w' := by
  have hn := (owns_cap (a := past.a) (n' := past.n) (cap := past.cap) h.hpast).1
  have c1 : w.cell? ⟨rb, 1, none⟩ = some (.slice past.a past.n past.cap) := RowV.cell h.row 1 (by simp)
  have hpI : (past.n : Int) ≤ 40 := by omega
  have hkI : (k : Int) < past.n := by omega
  have HKF : Hid (Calls _ _ _ _ _) := keyFits_any sf.a sf.n sf.cap w (by rw [hF.n]; exact hfm)
  have HKT : Hid (Calls _ _ _ _ _) := keyFits_any st.a st.n st.cap w (by rw [hT.n]; exact htm)
  have hfb : (decide (1 ≤ sf.n) && decide (sf.n ≤ 12)) = keyOk fr := by rw [hF.n]; rfl
  have htb : (decide (1 ≤ st.n) && decide (st.n ≤ 12)) = keyOk tu := by rw [hT.n]; rfl
  rw [hfb] at HKF
  rw [htb] at HKT
  have hcf := run_string_SlB (P := Tryz.prog) w 38 9 5 sf.a sf.n sf.cap fr Tryz.underlying38 Tryz.underlying5 Tryz.underlying9 hF.n hF.sl hF.nil
  have hct := run_string_SlB (P := Tryz.prog) w 38 9 5 st.a st.n st.cap tu Tryz.underlying38 Tryz.underlying5 Tryz.underlying9 hT.n hT.sl hT.nil
  have hless : keyOk fr = true → keyOk tu = true → Op.bytesLess fr tu = false := fun h1 h2 => by simpa [rngOk, h1, h2] using ha
  clear hn h hfb htb hF hT ha hfm htm
  unfold SlR.val
  cases hkf : keyOk fr with
  | false =>
    rw [hkf] at HKF
    cases hkt : keyOk tu
    all_goals
      rw [hkt] at HKT
      clear hless
      go_enter Tryz.func49, Tryz.ntmps49
      go_wp2_with fail
      refine HKF.out.mono ?_
      rintro e w1 ⟨rfl, hw1⟩
      obtain rfl : w = w1 := hw1.symm
      clear hw1
      go_wp2_with fail
      refine HKT.out.mono ?_
      rintro e w1 ⟨rfl, hw1⟩
      obtain rfl : w = w1 := hw1.symm
      clear hw1
      go_wp2
      go_ret2
      exact ⟨rfl, Below.refl _ _⟩
  | true =>
    rw [hkf] at HKF
    cases hkt : keyOk tu with
    | false =>
      rw [hkt] at HKT
      clear hless
      go_enter Tryz.func49, Tryz.ntmps49
      go_wp2_with fail
      refine HKF.out.mono ?_
      rintro e w1 ⟨rfl, hw1⟩
      obtain rfl : w = w1 := hw1.symm
      clear hw1
      go_wp2_with fail
      refine HKT.out.mono ?_
      rintro e w1 ⟨rfl, hw1⟩
      obtain rfl : w = w1 := hw1.symm
      clear hw1
      go_wp2
      go_ret2
      exact ⟨rfl, Below.refl _ _⟩
    | true =>
      rw [hkt] at HKT
      have hl := hless hkf hkt
      clear hless hkf hkt
      go_enter Tryz.func49, Tryz.ntmps49
      go_wp2_with fail
      refine HKF.out.mono ?_
      rintro e w1 ⟨rfl, hw1⟩
      obtain rfl : w = w1 := hw1.symm
      clear hw1
      go_wp2_with fail
      refine HKT.out.mono ?_
      rintro e w1 ⟨rfl, hw1⟩
      obtain rfl : w = w1 := hw1.symm
      clear hw1
      go_wp2
      go_ret2
      exact ⟨rfl, Below.refl _ _⟩

attribute [local go_sem ↓] Go.wp_at_zero Go.wp_at_succ
set_option maxRecDepth 100000 in
set_option maxHeartbeats 2000000 in
theorem refRangeP_ok (rb : Nat) (now past roots : SlR) (nowL : List ItR) (pastL : List (SlR × List ItR)) (rootsL : List (List UInt8)) (k : Nat) (sf st : SlR) (fr tu : List UInt8) (w : World) (h : RefAt w rb 0 now past roots nowL pastL rootsL) (hp : pastL.length ≤ 40) (hk : k < pastL.length) (hP : PastR pastL[k].2) (hF : BS w sf fr) (hT : BS w st tu) (ha : rngOk fr tu = true) :
    Calls Tryz.prog 49 #[.pointer (some ⟨rb, 0, none⟩), .int .i64 (k : Int), sf.val, st.val] w fun r w' => ∃ a' n' c', r = .returned (.tuple #[.slice a' n' c', .int .i64 0]) ∧ OwnB w' w.heap.size (.slice a' n' c') (prfB pastL[k].2 fr tu) ∧ Below w.heap.size w w' := by
  obtain ⟨hps, hn⟩ := SlV.ofOwn (s := past) h.hpast
  have c1 : w.cell? ⟨rb, 1, none⟩ = some (.slice past.a past.n past.cap) := RowV.cell h.row 1 (by simp)
  obtain ⟨b, o, hpa, hb, hcell⟩ := hps k (by simpa using hk)
  have c2 : w.cell? ⟨b, o + k, none⟩ = some (.slice pastL[k].1.a pastL[k].1.n pastL[k].1.cap) := by rw [hcell]; simp [SlR.val]
  have hpI : (past.n : Int) ≤ 40 := by omega
  have hkI : (k : Int) < past.n := by omega
  obtain ⟨⟨hkf, hkt⟩, hless⟩ : (keyOk fr = true ∧ keyOk tu = true) ∧ Op.bytesLess fr tu = true := by unfold rngOk at ha; simpa using ha
  have hf12 : 1 ≤ fr.length ∧ fr.length ≤ 12 := by unfold keyOk at hkf; simpa using hkf
  have ht12 : 1 ≤ tu.length ∧ tu.length ≤ 12 := by unfold keyOk at hkt; simpa using hkt
  have HKF : Hid (Calls _ _ _ _ _) := keyFits_any sf.a sf.n sf.cap w (by rw [hF.n]; unfold maxLen; omega)
  have HKT : Hid (Calls _ _ _ _ _) := keyFits_any st.a st.n st.cap w (by rw [hT.n]; unfold maxLen; omega)
  have hfb : (decide (1 ≤ sf.n) && decide (sf.n ≤ 12)) = true := by rw [hF.n]; exact hkf
  have htb : (decide (1 ≤ st.n) && decide (st.n ≤ 12)) = true := by rw [hT.n]; exact hkt
  rw [hfb] at HKF
  rw [htb] at HKT
  obtain ⟨hits, hitn⟩ := SlV.ofOwn (s := pastL[k].1) (h.hpok pastL[k] (List.getElem_mem hk))
  have HGR : Hid (Calls _ _ _ _ _) := grown_any pastL[k].1 pastL[k].2 w hitn (by have := hP.2.2; omega) hP.2.1 hits
  have hcf := run_string_SlB (P := Tryz.prog) w 38 9 5 sf.a sf.n sf.cap fr Tryz.underlying38 Tryz.underlying5 Tryz.underlying9 hF.n hF.sl hF.nil
  have hct := run_string_SlB (P := Tryz.prog) w 38 9 5 st.a st.n st.cap tu Tryz.underlying38 Tryz.underlying5 Tryz.underlying9 hT.n hT.sl hT.nil
  have HCF : Hid (∀ W, Below w.heap.size w W → (convert 38 9 (.slice sf.a sf.n sf.cap)).run Tryz.prog W = .ok (.string ⟨fr.toArray⟩) W) := fun W hW => run_string_SlB (P := Tryz.prog) W 38 9 5 sf.a sf.n sf.cap fr Tryz.underlying38 Tryz.underlying5 Tryz.underlying9 hF.n (hF.below hW).sl hF.nil
  have HCT : Hid (∀ W, Below w.heap.size w W → (convert 38 9 (.slice st.a st.n st.cap)).run Tryz.prog W = .ok (.string ⟨tu.toArray⟩) W) := fun W hW => run_string_SlB (P := Tryz.prog) W 38 9 5 st.a st.n st.cap tu Tryz.underlying38 Tryz.underlying5 Tryz.underlying9 hT.n (hT.below hW).sl hT.nil
  have HPP : Hid (PastR pastL[k].2) := hP
  generalize pastL[k] = pk at *
  obtain ⟨pa, pn, pc⟩ := past
  simp only at hpa hpI hkI c1
  subst hpa
  clear hn h hfb htb hF hT hps hcell hits hitn hP ha hf12 ht12 hkf hkt
  unfold SlR.val
  go_enter Tryz.func49, Tryz.ntmps49
  go_wp2_with fail
  refine HKF.out.mono ?_
  rintro e w1 ⟨rfl, hw1⟩
  obtain rfl : w = w1 := hw1.symm
  clear hw1
  go_wp2_with fail
  refine HKT.out.mono ?_
  rintro e w1 ⟨rfl, hw1⟩
  obtain rfl : w = w1 := hw1.symm
  clear hw1
  go_wp2_with fail
  refine HGR.out.mono ?_
  rintro e w1 ⟨lv, rfl, lvls, ho1, hok1, hN1, hb1⟩
  obtain ⟨m, s, q, ql, rest, hm1, hm2, hm3, hm4, hm5, _, _⟩ := lvls_last hN1 HPP.out.2.1 (by have := HPP.out.2.2; omega)
  have hbA : Below w1.heap.size w1 (w1.alloc (.cells #[.slice lv.a lv.n lv.cap] 146)).drew := ⟨rfl, rfl, rfl, by show _ ≤ (w1.alloc _).heap.size; simp, fun k hk => by show (w1.alloc _).heap[k]? = _; exact Below.heap_alloc w1 _ k hk⟩
  have hRT := RTree.below (lv := lv) (lvls := lvls) ⟨ho1, hok1⟩ hbA
  have HB1 : Hid (Below w.heap.size w (w1.alloc (.cells #[.slice lv.a lv.n lv.cap] 146)).drew) := hb1.trans (hbA.mono hb1.size)
  have HRT : Hid (Calls _ _ _ _ _) := root_any lv lvls m s q ql rest w.heap.size (w1.alloc (.cells #[.slice lv.a lv.n lv.cap] 146)).drew hRT.own hm1 (by omega) hm3 (by
    have h1 := hRT.ok m (by omega)
    rw [(List.getElem?_eq_some_iff.1 hm3).2] at h1
    exact h1)
  have HRG : Hid (∀ W, Below (w1.alloc (.cells #[.slice lv.a lv.n lv.cap] 146)).drew.heap.size (w1.alloc (.cells #[.slice lv.a lv.n lv.cap] 146)).drew W → Calls Tryz.prog 93 #[.agg #[.slice lv.a lv.n lv.cap], .agg #[.int .i64 (m : Int), .slice q.a q.n q.cap], .string ⟨fr.toArray⟩, .string ⟨tu.toArray⟩] W fun e w' => ∃ a' n' c', e = .returned (.slice a' n' c') ∧ OwnB w' W.heap.size (.slice a' n' c') (prfB pk.2 fr tu) ∧ Below W.heap.size W w') := fun W hb => by
    have := refRange_any lv lvls w.heap.size fr tu (by rw [hN1]; exact grown_lv _ HPP.out.1 HPP.out.2.1 HPP.out.2.2) m 0 s _ (q, ql) W hm2 (hRT.below hb) ⟨hm3, rfl⟩
    rw [hN1] at this
    unfold prfB
    rw [hm4, hm5]
    exact this
  have t0 : (w1.alloc (.cells #[.slice lv.a lv.n lv.cap] 146)).cell? ⟨w1.heap.size, 0, none⟩ = some (.slice lv.a lv.n lv.cap) := (RowV.new w1 146 [.slice lv.a lv.n lv.cap]).cell 0 (by simp)
  have hcf1 := HCF.out _ HB1.out
  have hct1 := HCT.out _ HB1.out
  clear ho1 hok1 hN1 hb1 hm1 hm2 hm3 hm4 hm5 hbA hRT hcf hct
  go_wp2
  go_region_held3 (fun W => W.cell? ⟨w1.heap.size, 0, none⟩ = some (.slice lv.a lv.n lv.cap) ∧ (convert 38 9 (.slice sf.a sf.n sf.cap)).run Tryz.prog W = .ok (.string ⟨fr.toArray⟩) W ∧ (convert 38 9 (.slice st.a st.n st.cap)).run Tryz.prog W = .ok (.string ⟨tu.toArray⟩) W) (go_keep)
    (first
      | (go_at_call 85; refine HRT.out.mono ?_; rintro e w3 ⟨rfl, hb3⟩; have hB3 := Below.trans HB1.out (Below.mono hb3 HB1.out.size); have u1 := HCF.out w3 hB3; have u2 := HCT.out w3 hB3; have u0 : w3.cell? ⟨w1.heap.size, 0, none⟩ = some (.slice lv.a lv.n lv.cap) := by (rw [hb3.cell (p := ⟨w1.heap.size, 0, none⟩) (by show w1.heap.size < (w1.alloc _).heap.size; simp)]; exact t0))
      | (go_at_call 93; refine (HRG.out _ hb3).mono ?_; rintro e w4 ⟨a4, n4, c4, rfl, ho4, hb4⟩; have hB4 := Below.trans hB3 (Below.mono hb4 hB3.size); have v1 := HCF.out w4 hB4; have v2 := HCT.out w4 hB4; have v0 : w4.cell? ⟨w1.heap.size, 0, none⟩ = some (.slice lv.a lv.n lv.cap) := by (rw [hb4.cell (p := ⟨w1.heap.size, 0, none⟩) (by have := hb3.size; simp at this; show w1.heap.size < _; omega)]; exact u0)))
  all_goals
    go_wp2
    go_ret2
    exact ⟨a4, n4, c4, rfl, owns_base ho4 (fun k hk => by have := (ho4.lt k hk).1; have := hB3.size; omega), hB4⟩
end Go.Proofs.YtekegfbjbainhaaGreat
