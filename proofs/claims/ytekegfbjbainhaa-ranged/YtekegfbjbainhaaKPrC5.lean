
import Derived.Test.YtekegfbjbainhaaKPrC4
import Derived.Deep.DeepCutAuto
set_option linter.unusedVariables false
set_option linter.unusedSimpArgs false
namespace Go.Proofs.Ytekegfbjbainhaa
open Go.RowKit
attribute [local go_sem ↓] Go.wp_at_zero Go.wp_at_succ
theorem Try.sizePgP : (Try.prog.info? 128).map (·.size) = some 2 := by kernel_rfl
theorem PgSt.fin {w wr : World} {K : Nat → Prop} {rb pb lv : Nat} {cur : SlR} {xs : List EnP} {its : List ItR} {l : List UInt8} (h : PgSt w K wr rb pb lv cur xs its l) :
  RowV ((wr.setCell ⟨w.heap.size, 0, none⟩ (.int .i64 (lv : Int))).setCell ⟨w.heap.size, 1, none⟩ cur.val) w.heap.size 128 [.int .i64 (lv : Int), cur.val] ∧ Below w.heap.size w ((wr.setCell ⟨w.heap.size, 0, none⟩ (.int .i64 (lv : Int))).setCell ⟨w.heap.size, 1, none⟩ cur.val) ∧
   EnsL lv ((wr.setCell ⟨w.heap.size, 0, none⟩ (.int .i64 (lv : Int))).setCell ⟨w.heap.size, 1, none⟩ cur.val) K w.heap.size cur xs its := by
 have hf : Frame (fun k => k = w.heap.size) wr ((wr.setCell ⟨w.heap.size, 0, none⟩ (.int .i64 (lv : Int))).setCell ⟨w.heap.size, 1, none⟩ cur.val) := ((Frame.refl (fun k => k = w.heap.size) wr).setCell (p := ⟨w.heap.size, 0, none⟩) rfl _).setCell (p := ⟨w.heap.size, 1, none⟩) rfl _
 refine ⟨by simpa using (RowV.set h.qg 0 (.int .i64 (lv : Int))).set 1 cur.val, h.be.trans (hf.below h.be.size (fun k hk => by omega)), h.ens.frame hf (fun k hk e => owns_ne h.ens.own h.qg (by decide) (by rw [hk, e])) (fun k hk e => by have := h.kk k hk; omega)⟩
set_option maxRecDepth 100000 in
set_option maxHeartbeats 8000000 in
theorem pageOf_any (K : Nat → Prop) (s : SlR) (b : List UInt8) (w : World) (hs : SubS w K s b) (hK : ∀ k, K k → k < w.heap.size) :
  Calls Try.prog 85 #[.slice s.a s.n s.cap] w (pofPost w K (pageF b)) := by
 have hA : Below w.heap.size w ((w.alloc (.cells #[.int .i64 0, .slice none 0 0] 128)).alloc (.cells #[.slice s.a s.n s.cap] 125)) := ((Below.refl _ _).alloc (Nat.le_refl _) _).alloc (by simp) _
 have HQ : Hid (RowV ((w.alloc (.cells #[.int .i64 0, .slice none 0 0] 128)).alloc (.cells #[.slice s.a s.n s.cap] 125)) w.heap.size 128 [.int .i64 0, .slice none 0 0]) := (RowV.new w _ _).alloc _
 have hR : RdP ((w.alloc (.cells #[.int .i64 0, .slice none 0 0] 128)).alloc (.cells #[.slice s.a s.n s.cap] 125)) K (w.heap.size + 1) b :=
  ⟨s, RowV.new_at _ _ _ _ (by simp), hs.below hA, fun e => by have := hK _ e; omega⟩
 have HK : Hid (∀ k, K k → k < w.heap.size) := hK
 have HA : Hid (Below w.heap.size w ((w.alloc (.cells #[.int .i64 0, .slice none 0 0] 128)).alloc (.cells #[.slice s.a s.n s.cap] 125))) := hA
 have HN1 : Hid (Calls _ _ _ _ _) := numberP_any K (w.heap.size + 1) b _ hR
 clear hs hK hA hR
 go_enter Try.func85, Try.ntmps85
 go_wp2_with fail
 refine HN1.out.mono ?_
 rintro e w1 ⟨hf1, hz1, hm⟩
 have HB1 : Hid (Below w.heap.size w w1) := HA.out.trans (hf1.below (by simp; omega) (fun k hk => by omega))
 have HQ1 : Hid (RowV w1 w.heap.size 128 [.int .i64 0, .slice none 0 0]) := RowV.of_block HQ.out (hf1.block _ (by simp; omega) (by omega))
 cases h1 : takeR 1 (some b) with
 | none =>
  rw [h1] at hm
  obtain rfl : e = pkE := hm
  have HX : Hid (pageF b = none) := pageF_short (by rw [h1]; rfl)
  unfold pkE
  go_wp2
  refine ⟨rfl, HB1.out, ?_⟩
  rw [HX.out]; rfl
 | some b1 =>
  rw [h1] at hm
  obtain ⟨rfl, hr1⟩ := hm
  have hlvb := oneV_lt (some b)
  have HST : Hid (PgSt w K (w1.alloc (.cells #[.int .i64 (oneV (some b) : Int), .slice none 0 0] 128)) (w.heap.size + 1) w1.heap.size (oneV (some b)) ⟨none, 0, 0⟩ [] [] b1) := by
   have ha : Below w1.heap.size w1 (w1.alloc (.cells #[.int .i64 (oneV (some b) : Int), .slice none 0 0] 128)) := (Below.refl _ _).alloc (Nat.le_refl _) _
   exact ⟨HB1.out.trans (ha.mono HB1.out.size), hr1.below ha, RowV.new w1 _ _, RowV.below HQ1.out HQ1.out.lt ha, EnsL.nil _ _ _ _, by omega, HQ1.out.lt, HK.out⟩
  have HN2 : Hid (Calls _ _ _ _ _) := numberP_any K (w.heap.size + 1) b1 _ HST.out.rd
  have hnb := oneV_lt (some b1)
  have HOUT : Hid (¬ (oneV (some b) ≤ 6 ∧ oneV (some b1) ≤ 60 ∧ (oneV (some b) = 0 ∨ oneV (some b1) ≠ 0)) → pageF b = none) := fun h => pageF_out rfl (by rw [h1]) h
  have HIN : Hid (oneV (some b) ≤ 6 ∧ oneV (some b1) ≤ 60 ∧ (oneV (some b) = 0 ∨ oneV (some b1) ≠ 0) → pageF b = (itemsO (oneV (some b)) (oneV (some b1)) [] (takeR 1 (some b1))).map (fun its => (oneV (some b), its))) := fun h => by rw [pageF_in rfl (by rw [h1]) h, h1]
  have HSH : Hid (takeR 1 (some b1) = none → pageF b = none) := fun h => pageF_short (by rw [h1, h])
  generalize oneV (some b) = lv at *
  have hpb : w.heap.size < w1.heap.size := HQ1.out.lt
  clear h1 hr1 hf1 hz1 HN1 HB1 HQ1 HQ HA
  have c0 := HST.out.pg.cell 0 (by simp)
  simp only [List.getElem_cons_zero] at c0
  by_cases h6 : lv ≤ 6
  ·have h6I : (lv : Int) ≤ 6 := by omega
   go_wp2_with (go_at_call 83; refine (must_yes _).mono ?_; rintro e w2 ⟨rfl, hw2⟩; subst hw2)
   refine HN2.out.mono ?_
   rintro e w2 ⟨hf2, hz2, hm⟩
   cases h2 : takeR 1 (some b1) with
   | none =>
    rw [h2] at hm
    obtain rfl : e = pkE := hm
    have HX : Hid (pageF b = none) := HSH.out h2
    have HB2 : Hid (Below w.heap.size w w2) := HST.out.be.trans (hf2.below HST.out.be.size (fun k hk => by omega))
    unfold pkE
    go_wp2
    refine ⟨rfl, HB2.out, ?_⟩
    rw [HX.out]; rfl
   | some b2 =>
    rw [h2] at hm
    obtain ⟨rfl, hr2⟩ := hm
    have HS2 : Hid (PgSt w K w2 (w.heap.size + 1) w1.heap.size lv ⟨none, 0, 0⟩ [] [] b2) := HST.out.read hf2 hr2
    generalize oneV (some b1) = n at *
    have HIN2 : Hid (lv ≤ 6 ∧ n ≤ 60 ∧ (lv = 0 ∨ n ≠ 0) → pageF b = (itemsO lv n [] (some b2)).map (fun its => (lv, its))) := by rw [h2] at HIN; exact HIN
    generalize w1.heap.size = pb at *
    clear h2 hr2 hf2 hz2 HN2 HST HSH HIN c0
    have c0 := HS2.out.pg.cell 0 (by simp)
    simp only [List.getElem_cons_zero] at c0
    by_cases h60 : n ≤ 60
    ·have h60I : (n : Int) ≤ 60 := by omega
     by_cases hor : lv = 0 ∨ n ≠ 0
     ·have HPG : Hid (pageF b = (itemsO lv n [] (some b2)).map (fun its => (lv, its))) := HIN2.out ⟨h6, h60, hor⟩
      have HLV : Hid (lv ≤ 6 ∧ n ≤ 60) := ⟨h6, h60⟩
      go_upto_region 6 with (go_at_call 83; refine (must_yes _).mono ?_; rintro e w3 ⟨rfl, hw3⟩; obtain rfl : w2 = w3 := hw3.symm; clear hw3)
      go_cut [27] (fun cv wx => wx = w2)
      case first =>
       by_cases hn0 : n = 0
       ·have hl0 : lv = 0 := by omega
        subst hn0; subst hl0
        go_wp2_with (go_at_call 83; refine (must_yes _).mono ?_; rintro e w3 ⟨rfl, hw3⟩; obtain rfl : w2 = w3 := hw3.symm; clear hw3)
        go_meet
        case rel => rfl
       ·have hn0I : (0 : Int) < n := by omega
        go_wp2_with (go_at_call 83; refine (must_yes _).mono ?_; rintro e w3 ⟨rfl, hw3⟩; obtain rfl : w2 = w3 := hw3.symm; clear hw3)
        go_meet
        case rel => rfl
      case rest =>
       obtain rfl : w2 = wc := hcut.symm
       clear hcut c0 hor
       go_wp2
       go_loopw [6, 7, 29] (fun av _ ix wr => ∃ (k : Nat) (sa : SlR) (cur : SlR) (xs : List EnP) (its : List ItR) (l : List UInt8), k ≤ n ∧ ix = .int .i64 (k : Int) ∧ av = .slice sa.a sa.n sa.cap ∧ Hid (PgSt w K wr (w.heap.size + 1) pb lv cur xs its l) ∧ Hid (its.length = k) ∧ Hid (SubS wr K sa (aheadK its)) ∧ Hid (itemsO lv (n - k) its (some l) = itemsO lv n [] (some b2))) (fun _ _ ix _ => n - (intOf ix).toNat)
       case atStart => exact ⟨0, ⟨none, 0, 0⟩, ⟨none, 0, 0⟩, [], [], b2, by omega, by simp, rfl, HS2, rfl, SubS.nil _ _, rfl⟩
       case round =>
        obtain ⟨k, sa, cur, xs, its, l, hk, rfl, rfl, HS, HLN, HSA, HIT⟩ := hrel
        have d0 := HS.out.pg.cell 0 (by simp)
        have d1 := HS.out.pg.cell 1 (by simp)
        simp only [List.getElem_cons_zero, List.getElem_cons_succ, SlR.val] at d0 d1
        have hk60 : (k : Int) ≤ 60 := by omega
        by_cases hlt : k < n
        ·have hltI : (k : Int) < n := by omega
         have HEN : Hid (Calls _ _ _ _ _) := entryP_any K (w.heap.size + 1) lv l wr HS.out.rd (fun q hq => Nat.lt_of_lt_of_le (HK.out q hq) HS.out.be.size) h6
         go_wp2_with fail
         refine HEN.out.mono ?_
         rintro e w3 ⟨hf3, hm⟩
         have HSTP := itemsO_X lv (n - (k + 1)) its l
         rw [show n - (k + 1) + 1 = n - k by omega] at HSTP
         cases hX : entX lv l with
         | none =>
          rw [hX] at hm HSTP
          obtain rfl : e = pkE := hm
          have HX : Hid (pageF b = none) := by unfold Hid; rw [HPG.out, ← HIT.out, HSTP]; rfl
          have HB3 : Hid (Below w.heap.size w w3) := HS.out.be.trans (hf3.below HS.out.be.size (fun k hk => by omega))
          clear HSTP
          unfold pkE
          go_wp2
          refine ⟨rfl, HB3.out, ?_⟩
          rw [HX.out]; rfl
         | some q =>
          obtain ⟨⟨key, more⟩, r⟩ := q
          rw [hX] at hm HSTP
          obtain ⟨x, rfl, hen, hr3⟩ := hm
          have hkl := entX_key hX
          have HS3 : Hid (PgSt w K w3 (w.heap.size + 1) pb lv cur xs its r) := HS.out.read hf3 hr3
          have hkn : ∀ q, K q → ¬ q = w.heap.size + 1 := fun q hq e => by have := HK.out q hq; omega
          have HA3 : Hid (SubS w3 K sa (aheadK its)) := HSA.out.frame hf3 hkn
          obtain ⟨sk, sv, dd⟩ := x
          obtain ⟨x0, x1, x2, x3, x4, x5, x6, x7, rfl⟩ := list8 dd hen.d8
          have hagg : (enC ⟨sk, sv, [x0, x1, x2, x3, x4, x5, x6, x7]⟩).toArray = #[.slice sk.a sk.n sk.cap, .slice sv.a sv.n sv.cap, .int .u8 (x0.toNat : Int), .int .u8 (x1.toNat : Int), .int .u8 (x2.toNat : Int), .int .u8 (x3.toNat : Int), .int .u8 (x4.toNat : Int), .int .u8 (x5.toNat : Int), .int .u8 (x6.toNat : Int), .int .u8 (x7.toNat : Int)] := rfl
          rw [hagg]
          have hb4 : Below w3.heap.size w3 (w3.alloc (.cells #[.slice sk.a sk.n sk.cap, .slice sv.a sv.n sv.cap, .int .u8 (x0.toNat : Int), .int .u8 (x1.toNat : Int), .int .u8 (x2.toNat : Int), .int .u8 (x3.toNat : Int), .int .u8 (x4.toNat : Int), .int .u8 (x5.toNat : Int), .int .u8 (x6.toNat : Int), .int .u8 (x7.toNat : Int)] 103)) := (Below.refl _ _).alloc (Nat.le_refl _) _
          have HS4 : Hid (PgSt w K (w3.alloc (.cells #[.slice sk.a sk.n sk.cap, .slice sv.a sv.n sv.cap, .int .u8 (x0.toNat : Int), .int .u8 (x1.toNat : Int), .int .u8 (x2.toNat : Int), .int .u8 (x3.toNat : Int), .int .u8 (x4.toNat : Int), .int .u8 (x5.toNat : Int), .int .u8 (x6.toNat : Int), .int .u8 (x7.toNat : Int)] 103)) (w.heap.size + 1) pb lv cur xs its r) := HS3.out.below hb4
          have HA4 : Hid (SubS (w3.alloc (.cells #[.slice sk.a sk.n sk.cap, .slice sv.a sv.n sv.cap, .int .u8 (x0.toNat : Int), .int .u8 (x1.toNat : Int), .int .u8 (x2.toNat : Int), .int .u8 (x3.toNat : Int), .int .u8 (x4.toNat : Int), .int .u8 (x5.toNat : Int), .int .u8 (x6.toNat : Int), .int .u8 (x7.toNat : Int)] 103)) K sa (aheadK its)) := HA3.out.below hb4
          have HN4 : Hid (EnRd lv (w3.alloc (.cells #[.slice sk.a sk.n sk.cap, .slice sv.a sv.n sv.cap, .int .u8 (x0.toNat : Int), .int .u8 (x1.toNat : Int), .int .u8 (x2.toNat : Int), .int .u8 (x3.toNat : Int), .int .u8 (x4.toNat : Int), .int .u8 (x5.toNat : Int), .int .u8 (x6.toNat : Int), .int .u8 (x7.toNat : Int)] 103)) K ⟨sk, sv, [x0, x1, x2, x3, x4, x5, x6, x7]⟩ key more) := hen.frame (Frame.of_below_all (S := fun _ => False) hb4) (fun _ _ e => e)
          have HX4 : Hid (RowV (w3.alloc (.cells #[.slice sk.a sk.n sk.cap, .slice sv.a sv.n sv.cap, .int .u8 (x0.toNat : Int), .int .u8 (x1.toNat : Int), .int .u8 (x2.toNat : Int), .int .u8 (x3.toNat : Int), .int .u8 (x4.toNat : Int), .int .u8 (x5.toNat : Int), .int .u8 (x6.toNat : Int), .int .u8 (x7.toNat : Int)] 103)) w3.heap.size 103 [.slice sk.a sk.n sk.cap, .slice sv.a sv.n sv.cap, .int .u8 (x0.toNat : Int), .int .u8 (x1.toNat : Int), .int .u8 (x2.toNat : Int), .int .u8 (x3.toNat : Int), .int .u8 (x4.toNat : Int), .int .u8 (x5.toNat : Int), .int .u8 (x6.toNat : Int), .int .u8 (x7.toNat : Int)]) := RowV.new w3 _ _
          have HNX : Hid (itemsO lv (n - k) its (some l) = if Op.bytesLess (aheadK its) key = true then itemsO lv (n - (k + 1)) (its ++ [⟨key, more, 0⟩]) (some r) else none) := by unfold Hid; rw [HSTP]; simp only [behind_ahead hkl.1]
          have hpb3 : pb < w3.heap.size := HS3.out.pg.lt
          have HOB : Hid (∀ q, cur.val.ownBlock = some q → q < w3.heap.size) := fun q hq => (HS3.out.ens.own.lt q hq).2
          clear hX hen hr3 hkl HSTP hf3 HS3 hkn HA3 hagg hb4 d0 d1 HEN
          go_upto_region 11 with fail
          generalize w3.alloc (.cells #[.slice sk.a sk.n sk.cap, .slice sv.a sv.n sv.cap, .int .u8 (x0.toNat : Int), .int .u8 (x1.toNat : Int), .int .u8 (x2.toNat : Int), .int .u8 (x3.toNat : Int), .int .u8 (x4.toNat : Int), .int .u8 (x5.toNat : Int), .int .u8 (x6.toNat : Int), .int .u8 (x7.toNat : Int)] 103) = W4 at *
          generalize w3.heap.size = eb at *
          have HCM : Hid (Calls _ _ _ _ _) := compare_any sa sk (aheadK its) key W4 HA4.out.bs HN4.out.key.bs
          have HLE := cmp_neg (aheadK its) key
          have HBD := cmp_bd (aheadK its) key
          generalize Lib.compareBytes (aheadK its) key = c at *
          unfold SlR.val at HCM
          have y0 := HX4.out.cell 0 (by simp)
          simp only [List.getElem_cons_zero] at y0
          by_cases hbl : Op.bytesLess (aheadK its) key = true
          ·have hcI : c < 0 := HLE.2 hbl
           have HNY : Hid (itemsO lv (n - (k + 1)) (its ++ [⟨key, more, 0⟩]) (some r) = itemsO lv n [] (some b2)) := by unfold Hid; rw [← HIT.out, HNX.out, if_pos hbl]
           clear HLE hbl HNX
           go_upto_region 12 with (first
            | (go_at_call 44; refine HCM.out.mono ?_; rintro e w5 ⟨rfl, hw5⟩; obtain rfl : W4 = w5 := hw5.symm; clear hw5)
            | (go_at_call 83; refine (must_yes _).mono ?_; rintro e w5 ⟨rfl, hw5⟩; obtain rfl : W4 = w5 := hw5.symm; clear hw5))
           have d1 := HS4.out.pg.cell 1 (by simp)
           simp only [List.getElem_cons_zero, List.getElem_cons_succ, SlR.val] at d1
           have HBA : Hid (Below W4.heap.size W4 (W4.alloc (.cells #[.slice sk.a sk.n sk.cap, .slice sv.a sv.n sv.cap, .int .u8 (x0.toNat : Int), .int .u8 (x1.toNat : Int), .int .u8 (x2.toNat : Int), .int .u8 (x3.toNat : Int), .int .u8 (x4.toNat : Int), .int .u8 (x5.toNat : Int), .int .u8 (x6.toNat : Int), .int .u8 (x7.toNat : Int)] 103))) := (Below.refl _ _).alloc (Nat.le_refl _) _
           have HS5 : Hid (PgSt w K (W4.alloc (.cells #[.slice sk.a sk.n sk.cap, .slice sv.a sv.n sv.cap, .int .u8 (x0.toNat : Int), .int .u8 (x1.toNat : Int), .int .u8 (x2.toNat : Int), .int .u8 (x3.toNat : Int), .int .u8 (x4.toNat : Int), .int .u8 (x5.toNat : Int), .int .u8 (x6.toNat : Int), .int .u8 (x7.toNat : Int)] 103)) (w.heap.size + 1) pb lv cur xs its r) := HS4.out.below HBA.out
           have HN5 : Hid (EnRd lv (W4.alloc (.cells #[.slice sk.a sk.n sk.cap, .slice sv.a sv.n sv.cap, .int .u8 (x0.toNat : Int), .int .u8 (x1.toNat : Int), .int .u8 (x2.toNat : Int), .int .u8 (x3.toNat : Int), .int .u8 (x4.toNat : Int), .int .u8 (x5.toNat : Int), .int .u8 (x6.toNat : Int), .int .u8 (x7.toNat : Int)] 103)) K ⟨sk, sv, [x0, x1, x2, x3, x4, x5, x6, x7]⟩ key more) := HN4.out.frame (Frame.of_below_all (S := fun _ => False) HBA.out) (fun _ _ e => e)
           have HXL : Hid (xs.length ≤ 60) := by unfold Hid; rw [HS4.out.ens.len, HLN.out]; omega
           have HSV : Hid (SlV (W4.alloc (.cells #[.slice sk.a sk.n sk.cap, .slice sv.a sv.n sv.cap, .int .u8 (x0.toNat : Int), .int .u8 (x1.toNat : Int), .int .u8 (x2.toNat : Int), .int .u8 (x3.toNat : Int), .int .u8 (x4.toNat : Int), .int .u8 (x5.toNat : Int), .int .u8 (x6.toNat : Int), .int .u8 (x7.toNat : Int)] 103)) (some ⟨W4.heap.size, 0, none⟩) [.slice sk.a sk.n sk.cap, .slice sv.a sv.n sv.cap, .int .u8 (x0.toNat : Int), .int .u8 (x1.toNat : Int), .int .u8 (x2.toNat : Int), .int .u8 (x3.toNat : Int), .int .u8 (x4.toNat : Int), .int .u8 (x5.toNat : Int), .int .u8 (x6.toNat : Int), .int .u8 (x7.toNat : Int)]) := SlV.alloc_new W4 _ _
           have H1C : Hid (∀ u ∈ ([.slice sk.a sk.n sk.cap, .slice sv.a sv.n sv.cap, .int .u8 (x0.toNat : Int), .int .u8 (x1.toNat : Int), .int .u8 (x2.toNat : Int), .int .u8 (x3.toNat : Int), .int .u8 (x4.toNat : Int), .int .u8 (x5.toNat : Int), .int .u8 (x6.toNat : Int), .int .u8 (x7.toNat : Int)] : List Value), u.oneCell' = true) := enC_one ⟨sk, sv, [x0, x1, x2, x3, x4, x5, x6, x7]⟩
           have HSZ : Hid (w.heap.size ≤ (W4.alloc (.cells #[.slice sk.a sk.n sk.cap, .slice sv.a sv.n sv.cap, .int .u8 (x0.toNat : Int), .int .u8 (x1.toNat : Int), .int .u8 (x2.toNat : Int), .int .u8 (x3.toNat : Int), .int .u8 (x4.toNat : Int), .int .u8 (x5.toNat : Int), .int .u8 (x6.toNat : Int), .int .u8 (x7.toNat : Int)] 103)).heap.size) := HS5.out.be.size
           have HKK : Hid (SubS (W4.alloc (.cells #[.slice sk.a sk.n sk.cap, .slice sv.a sv.n sv.cap, .int .u8 (x0.toNat : Int), .int .u8 (x1.toNat : Int), .int .u8 (x2.toNat : Int), .int .u8 (x3.toNat : Int), .int .u8 (x4.toNat : Int), .int .u8 (x5.toNat : Int), .int .u8 (x6.toNat : Int), .int .u8 (x7.toNat : Int)] 103)) K sk key) := HN5.out.key
           go_wp2_with (first
            | (refine wpList_load_mid (by rfl) 103 (.tmp 7) (by rfl) eb 0 (by rfl) [.slice sk.a sk.n sk.cap, .slice sv.a sv.n sv.cap, .int .u8 (x0.toNat : Int), .int .u8 (x1.toNat : Int), .int .u8 (x2.toNat : Int), .int .u8 (x3.toNat : Int), .int .u8 (x4.toNat : Int), .int .u8 (x5.toNat : Int), .int .u8 (x6.toNat : Int), .int .u8 (x7.toNat : Int)] _ HX4.out.range Try.underlying103 rfl Try.sizeEntryB ?_)
            | (at_builtin; refine wp_appendV (by rfl) (.tmp 41) (.tmp 43) 83 (by rfl) w.heap.size 103 _ 10 56 Try.underlying83 Try.infoEntry rfl (by decide) (.slice cur.a cur.n cur.cap) xs.length (ensC xs) (by rfl) HS5.out.ens.own (some ⟨W4.heap.size, 0, none⟩) 1 1 [.slice sk.a sk.n sk.cap, .slice sv.a sv.n sv.cap, .int .u8 (x0.toNat : Int), .int .u8 (x1.toNat : Int), .int .u8 (x2.toNat : Int), .int .u8 (x3.toNat : Int), .int .u8 (x4.toNat : Int), .int .u8 (x5.toNat : Int), .int .u8 (x6.toNat : Int), .int .u8 (x7.toNat : Int)] (by rfl) rfl HSV.out (fun h => by cases h) H1C.out (by have := HXL.out; unfold maxLen; omega) (by have := HXL.out; omega) HSZ.out ?_; intro v9 w9 ho9 hf9 hat9; obtain ⟨a9, c9, hv9, _⟩ := owns_form ho9; subst hv9; have hp9 : RowV w9 pb 128 [.int .i64 (lv : Int), .slice cur.a cur.n cur.cap] := RowV.of_block HS5.out.pg (hf9.block _ HS5.out.pg.lt (fun e => owns_ne HS5.out.ens.own HS5.out.pg (by decide) e)); have p1 := hp9.cell 1 (by simp); have fp1 := hp9.frozen 1; have hx9 : RowV w9 eb 103 [.slice sk.a sk.n sk.cap, .slice sv.a sv.n sv.cap, .int .u8 (x0.toNat : Int), .int .u8 (x1.toNat : Int), .int .u8 (x2.toNat : Int), .int .u8 (x3.toNat : Int), .int .u8 (x4.toNat : Int), .int .u8 (x5.toNat : Int), .int .u8 (x6.toNat : Int), .int .u8 (x7.toNat : Int)] := RowV.of_block (RowV.below HX4.out HX4.out.lt HBA.out) (hf9.block _ (RowV.lt (RowV.below HX4.out HX4.out.lt HBA.out)) (fun e => by have := HOB.out _ e; omega)); have y0 := hx9.cell 0 (by simp); simp only [List.getElem_cons_zero] at y0))
           have hps : Hid (PgSt w K (w9.setCell ⟨pb, 1, none⟩ (.slice a9 (xs.length + 1) c9)) (w.heap.size + 1) pb lv ⟨a9, xs.length + 1, c9⟩ (xs ++ [⟨sk, sv, [x0, x1, x2, x3, x4, x5, x6, x7]⟩]) (its ++ [⟨key, more, 0⟩]) r) := PgSt.push (cur' := ⟨a9, xs.length + 1, c9⟩) (it := ⟨key, more, 0⟩) HS4.out HBA.out HN5.out ho9 hf9
           have hft : Frame (fun k => k = pb) w9 (w9.setCell ⟨pb, 1, none⟩ (.slice a9 (xs.length + 1) c9)) := (Frame.refl (fun k => k = pb) _).setCell (p := ⟨pb, 1, none⟩) rfl _
           have hsk : SubS (w9.setCell ⟨pb, 1, none⟩ (.slice a9 (xs.length + 1) c9)) K sk key := (HKK.out.frame hf9 (fun q hq e => by have := (HS4.out.ens.own.lt q e).1; have := HK.out q hq; omega)).frame hft (fun q hq e => by have := HK.out q hq; have := HS4.out.n2; omega)
           refine ⟨⟨k + 1, sk, ⟨a9, xs.length + 1, c9⟩, xs ++ [⟨sk, sv, [x0, x1, x2, x3, x4, x5, x6, x7]⟩], its ++ [⟨key, more, 0⟩], r, hlt, by go_num, rfl, hps, by unfold Hid; rw [List.length_append, HLN.out]; rfl, ?_, HNY⟩, by simp [intOf]; omega⟩
           unfold Hid; rw [ahead_push]; exact hsk
          ·have hcI : decide (c < 0) = false := by have : ¬ c < 0 := fun h => hbl (HLE.1 h); simp; omega
           have HX : Hid (pageF b = none) := by unfold Hid; rw [HPG.out, ← HIT.out, HNX.out, if_neg hbl]; rfl
           clear HLE hbl HNX
           go_wp2_with (first
            | (go_at_call 44; refine HCM.out.mono ?_; rintro e w5 ⟨rfl, hw5⟩; obtain rfl : W4 = w5 := hw5.symm; clear hw5)
            | (go_at_call 83; refine (must_no _).mono ?_; rintro e w5 ⟨rfl, hw5⟩; obtain rfl : W4 = w5 := hw5.symm; clear hw5; unfold pkE))
           refine ⟨rfl, HS4.out.be, ?_⟩
           rw [HX.out]; rfl
        ·obtain rfl : k = n := by omega
         have HEND : Hid (Calls _ _ _ _ _) := endP_any K (w.heap.size + 1) l wr HS.out.rd
         have HPE : Hid (pageF b = (if l = [] then some its else none).map (fun its => (lv, its))) := by
          unfold Hid; rw [HPG.out, ← HIT.out, Nat.sub_self]; simp [itemsO]
         go_wp2_with fail
         refine HEND.out.mono ?_
         rintro e w3 ⟨hw3, he⟩
         obtain rfl : wr = w3 := hw3.symm
         clear hw3
         by_cases hl : l = []
         ·rw [if_pos hl] at he
          subst he
          have HX : Hid (pageF b = some (lv, its)) := by unfold Hid; rw [HPE.out, if_pos hl]; rfl
          have n0 := HS.out.qg.cell 0 (by simp)
          have n1 := HS.out.qg.cell 1 (by simp)
          have gz0 := HS.out.qg.frozen 0
          have gz1 := HS.out.qg.frozen 1
          simp only [List.getElem_cons_zero, List.getElem_cons_succ] at n0 n1
          have hnp : pb ≠ w.heap.size := by have := HS.out.n2; omega
          go_wp2
          obtain ⟨q1, q2, q3⟩ := HS.out.fin
          refine ret_agg (k := 2) (cs := [.int .i64 (lv : Int), .slice cur.a cur.n cur.cap]) rfl rfl q1 Try.underlying128 rfl Try.sizePgP rfl ⟨q2, ?_⟩
          rw [HX.out]
          exact ⟨cur, xs, rfl, q3⟩
         ·rw [if_neg hl] at he
          obtain rfl : e = pkE := he
          have HX : Hid (pageF b = none) := by unfold Hid; rw [HPE.out, if_neg hl]; rfl
          unfold pkE
          go_wp2
          refine ⟨rfl, HS.out.be, ?_⟩
          rw [HX.out]; rfl
     ·have HX : Hid (pageF b = none) := HOUT.out (fun h => hor h.2.2)
      have hn0 : n = 0 := by omega
      have hl0 : ((lv : Int) == 0) = false := by simp; omega
      subst hn0
      have HB2 : Hid (Below w.heap.size w w2) := HS2.out.be
      go_wp2_with (go_at_call 83; first | (refine (must_yes _).mono ?_; rintro e w3 ⟨rfl, hw3⟩; obtain rfl : w2 = w3 := hw3.symm; clear hw3) | (refine (must_no _).mono ?_; rintro e w3 ⟨rfl, hw3⟩; obtain rfl : w2 = w3 := hw3.symm; clear hw3; unfold pkE))
      refine ⟨rfl, HB2.out, ?_⟩
      rw [HX.out]; rfl
    ·have h60D : decide ((n : Int) ≤ 60) = false := by simp; omega
     have HX : Hid (pageF b = none) := HOUT.out (fun h => h60 h.2.1)
     have HB2 : Hid (Below w.heap.size w w2) := HS2.out.be
     go_wp2_with (go_at_call 83; refine (must_no _).mono ?_; rintro e w3 ⟨rfl, hw3⟩; obtain rfl : w2 = w3 := hw3.symm; clear hw3; unfold pkE)
     refine ⟨rfl, HB2.out, ?_⟩
     rw [HX.out]; rfl
  ·have h6D : decide ((lv : Int) ≤ 6) = false := by simp; omega
   have HX : Hid (pageF b = none) := HOUT.out (fun h => h6 h.1)
   have HB2 := HST.out.be
   go_wp2_with (go_at_call 83; refine (must_no _).mono ?_; rintro e w2 ⟨rfl, hw2⟩; subst hw2; unfold pkE)
   refine ⟨rfl, HB2, ?_⟩
   rw [HX.out]; rfl
end Go.Proofs.Ytekegfbjbainhaa
