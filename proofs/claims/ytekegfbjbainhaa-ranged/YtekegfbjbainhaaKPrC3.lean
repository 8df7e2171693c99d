
import Derived.Test.YtekegfbjbainhaaKJoin20
set_option linter.unusedVariables false
set_option linter.unusedSimpArgs false
namespace Go.Proofs.Ytekegfbjbainhaa
open Go.RowKit
attribute [local go_sem ↓] Go.wp_at_zero Go.wp_at_succ
def entX (lv : Nat) (l : List UInt8) : Option ((List UInt8 × List UInt8) × List UInt8) :=
 match entR lv (some l) with
 | none => none
 | some r => if 1 ≤ oneV (some l) ∧ oneV (some l) ≤ 12 ∧ (lv = 0 → oneV (entO (some l)) ≤ 12) then some ((entK (some l), entM lv (some l)), r) else none
structure EnRd (lv : Nat) (w : World) (K : Nat → Prop) (x : EnP) (key more : List UInt8) : Prop where
 d8 : x.d.length = 8
 key : SubS w K x.k key
 low : lv = 0 → SubS w K x.v more ∧ x.d = zero8
 high : lv ≠ 0 → x.v = ⟨none, 0, 0⟩ ∧ x.d = more
def enPost (w : World) (K : Nat → Prop) (rb lv : Nat) (o : Option ((List UInt8 × List UInt8) × List UInt8)) (e : Ending) (w' : World) : Prop :=
 Frame (fun k => k = rb) w w' ∧ match o with
  | none => e = pkE
  | some ((key, more), r) => ∃ x : EnP, e = .returned (.agg (enC x).toArray) ∧ EnRd lv w' K x key more ∧ RdP w' K rb r
def zeroEn : List Value := [.slice none 0 0, .slice none 0 0, .int .u8 0, .int .u8 0, .int .u8 0, .int .u8 0, .int .u8 0, .int .u8 0, .int .u8 0, .int .u8 0]
theorem run_arrayAt8 (w : World) (a : Option Addr) (c : Nat) : (Instr.arrayAt 45 (.slice a 8 c)).run Try.prog w = .ok (.pointer a) w := by
 simp [Instr.arrayAt, run_underlying Try.underlying45]
theorem en_fin {w W : World} {K : Nat → Prop} {rb : Nat} {l : List UInt8} {x : EnP} (hQ : RowV W w.heap.size 103 zeroEn) (hF : Frame (fun k => k = rb) w W) (hr : RdP W K rb l) (hrb : rb < w.heap.size) (hK : ∀ k, K k → k < w.heap.size) (hx : x.d.length = 8) (w' : World) (h' : RowV w' w.heap.size 103 (enC x)) (hf : Frame (fun k => k = w.heap.size) W w') :
  Frame (fun k => k = rb) w w' ∧ RdP w' K rb l := ⟨hF.inside hf (fun x hx e => by omega), hr.frame hf (by omega) (fun k hk => by have := hK k hk; omega)⟩
set_option maxRecDepth 100000 in
set_option maxHeartbeats 2000000 in
theorem entryP_any (K : Nat → Prop) (rb lv : Nat) (l : List UInt8) (w : World) (h : RdP w K rb l) (hK : ∀ k, K k → k < w.heap.size) (hlv : lv ≤ 6) :
  Calls Try.prog 95 #[.pointer (some ⟨rb, 0, none⟩), .int .i64 (lv : Int)] w (enPost w K rb lv (entX lv l)) := by
 have hA : Below w.heap.size w (w.alloc (.cells zeroEn.toArray 103)) := (Below.refl _ _).alloc (Nat.le_refl _) _
 have HCO : Hid (Calls _ _ _ _ _) := countedP_any K rb l _ (h.below hA)
 have HF0 : Hid (Frame (fun k => k = rb) w (w.alloc (.cells zeroEn.toArray 103))) := Frame.of_below_all hA
 have HQ0 : Hid (RowV (w.alloc (.cells zeroEn.toArray 103)) w.heap.size 103 zeroEn) := RowV.new w _ _
 have HK : Hid (∀ k, K k → k < w.heap.size) := hK
 have hrb := h.lt
 clear hA h hK
 unfold zeroEn at HCO HF0 HQ0
 go_enter Try.func95, Try.ntmps95
 go_wp2_with fail
 refine HCO.out.mono ?_
 rintro e w1 ⟨hf1, hz1, hm⟩
 have HF1 : Hid (Frame (fun k => k = rb) w w1) := HF0.out.trans hf1
 have HQ1 : Hid (RowV w1 w.heap.size 103 zeroEn) := RowV.of_block HQ0.out (hf1.block _ HQ0.out.lt (by omega))
 have HEO : Hid (entO (some l) = takeR (oneV (some l)) (takeR 1 (some l))) := rfl
 have HEK : Hid (entK (some l) = takeB (oneV (some l)) (takeR 1 (some l))) := rfl
 cases h1 : takeR (oneV (some l)) (takeR 1 (some l)) with
 | none =>
  rw [h1] at hm
  obtain rfl : e = pkE := hm
  have HX : Hid (entX lv l = none) := by
   unfold Hid entX
   have : entR lv (some l) = none := by unfold entR; rw [HEO.out, h1]; split <;> rfl
   rw [this]
  unfold pkE
  go_wp2
  refine ⟨rfl, HF1.out, ?_⟩
  rw [HX.out]; rfl
 | some l2 =>
  rw [h1] at hm
  obtain ⟨s1, rfl, hs1, hr1⟩ := hm
  have hk1 := takeB_some h1
  have HN1 : Hid (s1.n = oneV (some l)) := by unfold Hid; rw [hs1.bs.n, hk1]
  have HO2 : Hid (entO (some l) = some l2) := by unfold Hid; rw [HEO.out, h1]
  have hone := oneV_lt (some l)
  have HS1 : Hid (SubS w1 K s1 (entK (some l))) := by unfold Hid; rw [HEK.out]; exact hs1
  have HR1 : Hid (RdP w1 K rb l2) := hr1
  have HIK : Hid (∀ W, Calls Try.prog 36 #[.slice s1.a s1.n s1.cap] W fun e w' => e = .returned (.bool (decide (1 ≤ s1.n) && decide (s1.n ≤ 12))) ∧ w' = W) := fun W => isKey_any s1.a s1.n s1.cap W (by have := HN1.out; unfold maxLen; omega)
  clear hs1 hr1 hk1 h1 HEO HEK HCO hf1 hz1 HF0 HQ0
  unfold SlR.val
  go_upto_region 2 with fail
  have hbe : Below w1.heap.size w1 (w1.alloc (.cells #[.slice s1.a s1.n s1.cap, .slice none 0 0, .int .u8 0, .int .u8 0, .int .u8 0, .int .u8 0, .int .u8 0, .int .u8 0, .int .u8 0, .int .u8 0] 103)) := (Below.refl _ _).alloc (Nat.le_refl _) _
  have HF2 : Hid (Frame (fun k => k = rb) w (w1.alloc (.cells #[.slice s1.a s1.n s1.cap, .slice none 0 0, .int .u8 0, .int .u8 0, .int .u8 0, .int .u8 0, .int .u8 0, .int .u8 0, .int .u8 0, .int .u8 0] 103))) := HF1.out.trans (Frame.of_below_all hbe)
  have HQ2 : Hid (RowV (w1.alloc (.cells #[.slice s1.a s1.n s1.cap, .slice none 0 0, .int .u8 0, .int .u8 0, .int .u8 0, .int .u8 0, .int .u8 0, .int .u8 0, .int .u8 0, .int .u8 0] 103)) w.heap.size 103 zeroEn) := RowV.below HQ1.out HQ1.out.lt hbe
  have HS2 : Hid (SubS (w1.alloc (.cells #[.slice s1.a s1.n s1.cap, .slice none 0 0, .int .u8 0, .int .u8 0, .int .u8 0, .int .u8 0, .int .u8 0, .int .u8 0, .int .u8 0, .int .u8 0] 103)) K s1 (entK (some l))) := HS1.out.below hbe
  have HR2 : Hid (RdP (w1.alloc (.cells #[.slice s1.a s1.n s1.cap, .slice none 0 0, .int .u8 0, .int .u8 0, .int .u8 0, .int .u8 0, .int .u8 0, .int .u8 0, .int .u8 0, .int .u8 0] 103)) K rb l2) := HR1.out.below hbe
  have HE2 : Hid (RowV (w1.alloc (.cells #[.slice s1.a s1.n s1.cap, .slice none 0 0, .int .u8 0, .int .u8 0, .int .u8 0, .int .u8 0, .int .u8 0, .int .u8 0, .int .u8 0, .int .u8 0] 103)) w1.heap.size 103 [.slice s1.a s1.n s1.cap, .slice none 0 0, .int .u8 0, .int .u8 0, .int .u8 0, .int .u8 0, .int .u8 0, .int .u8 0, .int .u8 0, .int .u8 0]) := RowV.new w1 _ _
  have hnw : w.heap.size < w1.heap.size := HQ1.out.lt
  clear hbe HF1 HQ1 HS1 HR1
  generalize w1.alloc (.cells #[.slice s1.a s1.n s1.cap, .slice none 0 0, .int .u8 0, .int .u8 0, .int .u8 0, .int .u8 0, .int .u8 0, .int .u8 0, .int .u8 0, .int .u8 0] 103) = W at *
  generalize w1.heap.size = eb at *
  have e0 := HE2.out.cell 0 (by simp)
  simp only [List.getElem_cons_zero] at e0
  cases hkk : (decide (1 ≤ s1.n) && decide (s1.n ≤ 12)) with
  | false =>
   have HX : Hid (entX lv l = none) := by
    unfold Hid entX
    have hno : ¬ (1 ≤ oneV (some l) ∧ oneV (some l) ≤ 12 ∧ (lv = 0 → oneV (entO (some l)) ≤ 12)) := fun ⟨g1, g2, _⟩ => by
     rw [← HN1.out] at g1 g2
     have : (decide (1 ≤ s1.n) && decide (s1.n ≤ 12)) = true := by simp [g1, g2]
     rw [this] at hkk; cases hkk
    cases entR lv (some l) with
    | none => rfl
    | some r => simp only [if_neg hno]
   rw [hkk] at HIK
   go_wp2_with (first
    | (go_at_call 36; refine (HIK.out _).mono ?_; rintro e w2 ⟨rfl, hw2⟩; obtain rfl : W = w2 := hw2.symm; clear hw2)
    | (go_at_call 83; refine (must_no _).mono ?_; rintro e w2 ⟨rfl, hw2⟩; obtain rfl : W = w2 := hw2.symm; clear hw2; unfold pkE))
   refine ⟨rfl, HF2.out, ?_⟩
   rw [HX.out]; rfl
  | true =>
   rw [hkk] at HIK
   have HKL : Hid (1 ≤ oneV (some l) ∧ oneV (some l) ≤ 12) := by
    unfold Hid; rw [← HN1.out]
    simp only [Bool.and_eq_true, decide_eq_true_eq] at hkk
    exact hkk
   clear hkk
   by_cases hl0 : lv = 0
   ·subst hl0
    have HCV : Hid (Calls _ _ _ _ _) := countedP_any K rb l2 W HR2.out
    go_wp2_with (first
     | (go_at_call 36; refine (HIK.out _).mono ?_; rintro e w2 ⟨rfl, hw2⟩; obtain rfl : W = w2 := hw2.symm; clear hw2)
     | (go_at_call 83; refine (must_yes _).mono ?_; rintro e w2 ⟨rfl, hw2⟩; obtain rfl : W = w2 := hw2.symm; clear hw2))
    refine HCV.out.mono ?_
    rintro e w3 ⟨hf3, hz3, hm⟩
    have HF3 : Hid (Frame (fun k => k = rb) w w3) := HF2.out.trans hf3
    have HQ3 : Hid (RowV w3 w.heap.size 103 zeroEn) := RowV.of_block HQ2.out (hf3.block _ HQ2.out.lt (by omega))
    have HE3 : Hid (RowV w3 eb 103 [.slice s1.a s1.n s1.cap, .slice none 0 0, .int .u8 0, .int .u8 0, .int .u8 0, .int .u8 0, .int .u8 0, .int .u8 0, .int .u8 0, .int .u8 0]) := RowV.of_block HE2.out (hf3.block _ HE2.out.lt (by omega))
    have HS3 : Hid (SubS w3 K s1 (entK (some l))) := HS2.out.frame hf3 (fun k hk e => by subst e; obtain ⟨_, _, _, ho⟩ := HR2.out; exact ho hk)
    have HER : Hid (entR 0 (some l) = takeR (oneV (some l2)) (takeR 1 (some l2))) := by unfold Hid entR; rw [if_pos rfl, HO2.out]
    have HEM : Hid (entM 0 (some l) = takeB (oneV (some l2)) (takeR 1 (some l2))) := by unfold Hid entM; rw [if_pos rfl, HO2.out]
    have hov := oneV_lt (some l2)
    cases h3 : takeR (oneV (some l2)) (takeR 1 (some l2)) with
    | none =>
     rw [h3] at hm
     obtain rfl : e = pkE := hm
     have HX : Hid (entX 0 l = none) := by unfold Hid entX; rw [HER.out, h3]
     unfold pkE
     go_wp2
     refine ⟨rfl, HF3.out, ?_⟩
     rw [HX.out]; rfl
    | some r =>
     rw [h3] at hm
     obtain ⟨s3, rfl, hs3, hr3⟩ := hm
     have HN3 : Hid (s3.n = oneV (some l2)) := by unfold Hid; rw [hs3.bs.n, takeB_some h3]
     have HV3 : Hid (SubS w3 K s3 (entM 0 (some l))) := by unfold Hid; rw [HEM.out]; exact hs3
     have HR3 : Hid (RdP w3 K rb r) := hr3
     have HXR : Hid (entR 0 (some l) = some r) := by unfold Hid; rw [HER.out, h3]
     have hft := (Frame.refl (fun k => k = eb) w3).setCell (p := ⟨eb, 1, none⟩) rfl (.slice s3.a s3.n s3.cap)
     have HE4 : Hid (RowV (w3.setCell ⟨eb, 1, none⟩ (.slice s3.a s3.n s3.cap)) eb 103 [.slice s1.a s1.n s1.cap, .slice s3.a s3.n s3.cap, .int .u8 0, .int .u8 0, .int .u8 0, .int .u8 0, .int .u8 0, .int .u8 0, .int .u8 0, .int .u8 0]) := by unfold Hid; simpa using RowV.set HE3.out 1 (.slice s3.a s3.n s3.cap)
     have HF4 : Hid (Frame (fun k => k = rb) w (w3.setCell ⟨eb, 1, none⟩ (.slice s3.a s3.n s3.cap))) := HF3.out.inside hft (fun x hx e => by omega)
     have HQ4 : Hid (RowV (w3.setCell ⟨eb, 1, none⟩ (.slice s3.a s3.n s3.cap)) w.heap.size 103 zeroEn) := RowV.of_block HQ3.out (hft.block _ HQ3.out.lt (by omega))
     have hkeb : ∀ k, K k → ¬ k = eb := fun k hk e => by have := HK.out k hk; omega
     have HS4 : Hid (SubS (w3.setCell ⟨eb, 1, none⟩ (.slice s3.a s3.n s3.cap)) K s1 (entK (some l))) := HS3.out.frame hft hkeb
     have HV4 : Hid (SubS (w3.setCell ⟨eb, 1, none⟩ (.slice s3.a s3.n s3.cap)) K s3 (entM 0 (some l))) := HV3.out.frame hft hkeb
     have HR4 : Hid (RdP (w3.setCell ⟨eb, 1, none⟩ (.slice s3.a s3.n s3.cap)) K rb r) := HR3.out.frame hft (by omega) hkeb
     have HIV : Hid (∀ W, Calls Try.prog 53 #[.slice s3.a s3.n s3.cap] W fun e w' => e = .returned (.bool (decide (s3.n ≤ 12))) ∧ w' = W) := fun W => isValue_any s3.a s3.n s3.cap W (by have := HN3.out; unfold maxLen; omega)
     have e1 := HE3.out.cell 1 (by simp)
     have fe1 := HE3.out.frozen 1
     simp only [List.getElem_cons_zero, List.getElem_cons_succ] at e1
     clear hft hs3 hr3 h3 HS3 HV3 HR3 HF3 HQ3 HE2 HF2 HQ2 HS2 HR2 hf3 hz3 e0 HCV hkeb
     unfold SlR.val
     go_upto_region 5 with fail
     generalize w3.setCell ⟨eb, 1, none⟩ (.slice s3.a s3.n s3.cap) = W4 at *
     have e1 := HE4.out.cell 1 (by simp)
     simp only [List.getElem_cons_zero, List.getElem_cons_succ] at e1
     by_cases hv12 : s3.n ≤ 12
     ·have HX : Hid (entX 0 l = some ((entK (some l), entM 0 (some l)), r)) := by
       unfold Hid entX; rw [HXR.out]
       simp only
       rw [if_pos ⟨HKL.out.1, HKL.out.2, fun _ => by rw [HO2.out, ← HN3.out]; exact hv12⟩]
      have hvd : decide (s3.n ≤ 12) = true := by simp [hv12]
      rw [hvd] at HIV
      go_wp2_with (first
       | (go_at_call 53; refine (HIV.out _).mono ?_; rintro e w5 ⟨rfl, hw5⟩; obtain rfl : W4 = w5 := hw5.symm; clear hw5)
       | (go_at_call 83; refine (must_yes _).mono ?_; rintro e w5 ⟨rfl, hw5⟩; obtain rfl : W4 = w5 := hw5.symm; clear hw5)
       | (refine wpList_load_mid (by rfl) 103 (.tmp 5) (by rfl) eb 0 (by rfl) [.slice s1.a s1.n s1.cap, .slice s3.a s3.n s3.cap, .int .u8 0, .int .u8 0, .int .u8 0, .int .u8 0, .int .u8 0, .int .u8 0, .int .u8 0, .int .u8 0] _ HE4.out.range Try.underlying103 rfl Try.sizeEntryB ?_)
       | (refine wp_storeR (by rfl) 103 (.tmp 4) (.tmp 27) (by rfl) w.heap.size (by rfl) [.slice s1.a s1.n s1.cap, .slice s3.a s3.n s3.cap, .int .u8 0, .int .u8 0, .int .u8 0, .int .u8 0, .int .u8 0, .int .u8 0, .int .u8 0, .int .u8 0] (by rfl) HQ4.out rfl Try.sizeEntryB (enC_one ⟨s1, s3, zero8⟩) ?_; intro w6 hr6 hf6 hz6))
      obtain ⟨q1, q2⟩ := en_fin (x := ⟨s1, s3, zero8⟩) HQ4.out HF4.out HR4.out hrb HK.out rfl w6 hr6 hf6
      refine ret_agg (k := 4) (cs := [.slice s1.a s1.n s1.cap, .slice s3.a s3.n s3.cap, .int .u8 0, .int .u8 0, .int .u8 0, .int .u8 0, .int .u8 0, .int .u8 0, .int .u8 0, .int .u8 0]) rfl rfl hr6 Try.underlying103 rfl Try.sizeEntryB rfl ⟨q1, ?_⟩
      rw [HX.out]
      have hk6 : ∀ k, K k → ¬ k = w.heap.size := fun k hk e => by have := HK.out k hk; omega
      exact ⟨⟨s1, s3, zero8⟩, rfl, ⟨rfl, HS4.out.frame hf6 hk6, fun _ => ⟨HV4.out.frame hf6 hk6, rfl⟩, fun e => absurd rfl e⟩, q2⟩
     ·have HX : Hid (entX 0 l = none) := by
       unfold Hid entX; rw [HXR.out]
       simp only
       rw [if_neg (fun ⟨_, _, g⟩ => hv12 (by have := g trivial; rw [HO2.out, ← HN3.out] at this; exact this))]
      have hvd : decide (s3.n ≤ 12) = false := by simp; omega
      rw [hvd] at HIV
      go_wp2_with (first
       | (go_at_call 53; refine (HIV.out _).mono ?_; rintro e w5 ⟨rfl, hw5⟩; obtain rfl : W4 = w5 := hw5.symm; clear hw5)
       | (go_at_call 83; refine (must_no _).mono ?_; rintro e w5 ⟨rfl, hw5⟩; obtain rfl : W4 = w5 := hw5.symm; clear hw5; unfold pkE))
      refine ⟨rfl, HF4.out, ?_⟩
      rw [HX.out]; rfl
   ·have hl0e : ((lv : Int) == 0) = false := by simp; omega
    have HTK : Hid (Calls _ _ _ _ _) := takeP_any K rb 8 l2 W HR2.out
    go_wp2_with (first
     | (go_at_call 36; refine (HIK.out _).mono ?_; rintro e w2 ⟨rfl, hw2⟩; obtain rfl : W = w2 := hw2.symm; clear hw2)
     | (go_at_call 83; refine (must_yes _).mono ?_; rintro e w2 ⟨rfl, hw2⟩; obtain rfl : W = w2 := hw2.symm; clear hw2))
    refine HTK.out.mono ?_
    rintro e w3 ⟨hf3, hz3, hm⟩
    have HF3 : Hid (Frame (fun k => k = rb) w w3) := HF2.out.trans hf3
    have HQ3 : Hid (RowV w3 w.heap.size 103 zeroEn) := RowV.of_block HQ2.out (hf3.block _ HQ2.out.lt (by omega))
    have HE3 : Hid (RowV w3 eb 103 [.slice s1.a s1.n s1.cap, .slice none 0 0, .int .u8 0, .int .u8 0, .int .u8 0, .int .u8 0, .int .u8 0, .int .u8 0, .int .u8 0, .int .u8 0]) := RowV.of_block HE2.out (hf3.block _ HE2.out.lt (by omega))
    have HS3 : Hid (SubS w3 K s1 (entK (some l))) := HS2.out.frame hf3 (fun k hk e => by subst e; obtain ⟨_, _, _, ho⟩ := HR2.out; exact ho hk)
    have HER : Hid (entR lv (some l) = takeR 8 (some l2)) := by unfold Hid entR; rw [if_neg hl0, HO2.out]
    have HEM : Hid (entM lv (some l) = takeB 8 (some l2)) := by unfold Hid entM; rw [if_neg hl0, HO2.out]
    cases h3 : takeR 8 (some l2) with
    | none =>
     rw [h3] at hm
     obtain rfl : e = pkE := hm
     have HX : Hid (entX lv l = none) := by unfold Hid entX; rw [HER.out, h3]
     unfold pkE
     go_wp2
     refine ⟨rfl, HF3.out, ?_⟩
     rw [HX.out]; rfl
    | some r =>
     rw [h3] at hm
     obtain ⟨s3, rfl, hs3, hr3⟩ := hm
     have HX : Hid (entX lv l = some ((entK (some l), entM lv (some l)), r)) := by
      unfold Hid entX; rw [HER.out, h3]
      simp only
      rw [if_pos ⟨HKL.out.1, HKL.out.2, fun e => absurd e hl0⟩]
     obtain ⟨x0, x1, x2, x3, x4, x5, x6, x7, hx8⟩ := list8 (takeB 8 (some l2)) (takeB_some h3)
     rw [hx8] at hs3
     have hsn : s3.n = 8 := by rw [hs3.bs.n]; rfl
     obtain ⟨bb, oo, hca, hbb, g0⟩ := hs3.bs.sl 0 (by simp)
     have gg : ∀ i (hi : i < 8), w3.cell? ⟨bb, oo + i, none⟩ = some (u8c ([x0, x1, x2, x3, x4, x5, x6, x7][i]'(by simpa using hi))) := fun i hi => by
      obtain ⟨b', o', ha', _, g⟩ := hs3.bs.sl i (by simpa using hi)
      rw [hca] at ha'; cases ha'
      exact g
     have g0 : w3.cell? ⟨bb, oo, none⟩ = some (.int .u8 (x0.toNat : Int)) := gg 0 (by omega)
     have g1 : w3.cell? ⟨bb, oo + 1, none⟩ = some (.int .u8 (x1.toNat : Int)) := gg 1 (by omega)
     have g2 : w3.cell? ⟨bb, oo + 2, none⟩ = some (.int .u8 (x2.toNat : Int)) := gg 2 (by omega)
     have g3 : w3.cell? ⟨bb, oo + 3, none⟩ = some (.int .u8 (x3.toNat : Int)) := gg 3 (by omega)
     have g4 : w3.cell? ⟨bb, oo + 4, none⟩ = some (.int .u8 (x4.toNat : Int)) := gg 4 (by omega)
     have g5 : w3.cell? ⟨bb, oo + 5, none⟩ = some (.int .u8 (x5.toNat : Int)) := gg 5 (by omega)
     have g6 : w3.cell? ⟨bb, oo + 6, none⟩ = some (.int .u8 (x6.toNat : Int)) := gg 6 (by omega)
     have g7 : w3.cell? ⟨bb, oo + 7, none⟩ = some (.int .u8 (x7.toNat : Int)) := gg 7 (by omega)
     obtain ⟨sa, sn, sc⟩ := s3
     simp only at hca hsn
     subst hca; subst hsn
     have hra := fun W => run_arrayAt8 W (some ⟨bb, oo, none⟩) sc
     have e2 := HE3.out.cell 2 (by simp)
     have fe2 := HE3.out.frozen 2
     have e3 := HE3.out.cell 3 (by simp)
     have fe3 := HE3.out.frozen 3
     have e4 := HE3.out.cell 4 (by simp)
     have fe4 := HE3.out.frozen 4
     have e5 := HE3.out.cell 5 (by simp)
     have fe5 := HE3.out.frozen 5
     have e6 := HE3.out.cell 6 (by simp)
     have fe6 := HE3.out.frozen 6
     have e7 := HE3.out.cell 7 (by simp)
     have fe7 := HE3.out.frozen 7
     have e8 := HE3.out.cell 8 (by simp)
     have fe8 := HE3.out.frozen 8
     have e9 := HE3.out.cell 9 (by simp)
     have fe9 := HE3.out.frozen 9
     simp only [List.getElem_cons_zero, List.getElem_cons_succ] at e2 e3 e4 e5 e6 e7 e8 e9
     have hft := (((((((((Frame.refl (fun k => k = eb) w3).setCell (p := ⟨eb, 2, none⟩) rfl (.int .u8 (x0.toNat : Int))).setCell (p := ⟨eb, 3, none⟩) rfl (.int .u8 (x1.toNat : Int))).setCell (p := ⟨eb, 4, none⟩) rfl (.int .u8 (x2.toNat : Int))).setCell (p := ⟨eb, 5, none⟩) rfl (.int .u8 (x3.toNat : Int))).setCell (p := ⟨eb, 6, none⟩) rfl (.int .u8 (x4.toNat : Int))).setCell (p := ⟨eb, 7, none⟩) rfl (.int .u8 (x5.toNat : Int))).setCell (p := ⟨eb, 8, none⟩) rfl (.int .u8 (x6.toNat : Int))).setCell (p := ⟨eb, 9, none⟩) rfl (.int .u8 (x7.toNat : Int)))
     have HE4 : Hid (RowV ((((((((w3.setCell ⟨eb, 2, none⟩ (.int .u8 (x0.toNat : Int))).setCell ⟨eb, 3, none⟩ (.int .u8 (x1.toNat : Int))).setCell ⟨eb, 4, none⟩ (.int .u8 (x2.toNat : Int))).setCell ⟨eb, 5, none⟩ (.int .u8 (x3.toNat : Int))).setCell ⟨eb, 6, none⟩ (.int .u8 (x4.toNat : Int))).setCell ⟨eb, 7, none⟩ (.int .u8 (x5.toNat : Int))).setCell ⟨eb, 8, none⟩ (.int .u8 (x6.toNat : Int))).setCell ⟨eb, 9, none⟩ (.int .u8 (x7.toNat : Int))) eb 103 [.slice s1.a s1.n s1.cap, .slice none 0 0, .int .u8 (x0.toNat : Int), .int .u8 (x1.toNat : Int), .int .u8 (x2.toNat : Int), .int .u8 (x3.toNat : Int), .int .u8 (x4.toNat : Int), .int .u8 (x5.toNat : Int), .int .u8 (x6.toNat : Int), .int .u8 (x7.toNat : Int)]) := by unfold Hid; simpa using (RowV.set (RowV.set (RowV.set (RowV.set (RowV.set (RowV.set (RowV.set (RowV.set HE3.out 2 (.int .u8 (x0.toNat : Int))) 3 (.int .u8 (x1.toNat : Int))) 4 (.int .u8 (x2.toNat : Int))) 5 (.int .u8 (x3.toNat : Int))) 6 (.int .u8 (x4.toNat : Int))) 7 (.int .u8 (x5.toNat : Int))) 8 (.int .u8 (x6.toNat : Int))) 9 (.int .u8 (x7.toNat : Int)))
     have HF4 : Hid (Frame (fun k => k = rb) w ((((((((w3.setCell ⟨eb, 2, none⟩ (.int .u8 (x0.toNat : Int))).setCell ⟨eb, 3, none⟩ (.int .u8 (x1.toNat : Int))).setCell ⟨eb, 4, none⟩ (.int .u8 (x2.toNat : Int))).setCell ⟨eb, 5, none⟩ (.int .u8 (x3.toNat : Int))).setCell ⟨eb, 6, none⟩ (.int .u8 (x4.toNat : Int))).setCell ⟨eb, 7, none⟩ (.int .u8 (x5.toNat : Int))).setCell ⟨eb, 8, none⟩ (.int .u8 (x6.toNat : Int))).setCell ⟨eb, 9, none⟩ (.int .u8 (x7.toNat : Int)))) := HF3.out.inside hft (fun x hx e => by omega)
     have HQ4 : Hid (RowV ((((((((w3.setCell ⟨eb, 2, none⟩ (.int .u8 (x0.toNat : Int))).setCell ⟨eb, 3, none⟩ (.int .u8 (x1.toNat : Int))).setCell ⟨eb, 4, none⟩ (.int .u8 (x2.toNat : Int))).setCell ⟨eb, 5, none⟩ (.int .u8 (x3.toNat : Int))).setCell ⟨eb, 6, none⟩ (.int .u8 (x4.toNat : Int))).setCell ⟨eb, 7, none⟩ (.int .u8 (x5.toNat : Int))).setCell ⟨eb, 8, none⟩ (.int .u8 (x6.toNat : Int))).setCell ⟨eb, 9, none⟩ (.int .u8 (x7.toNat : Int))) w.heap.size 103 zeroEn) := RowV.of_block HQ3.out (hft.block _ HQ3.out.lt (by omega))
     have hkeb : ∀ k, K k → ¬ k = eb := fun k hk e => by have := HK.out k hk; omega
     have HS4 : Hid (SubS ((((((((w3.setCell ⟨eb, 2, none⟩ (.int .u8 (x0.toNat : Int))).setCell ⟨eb, 3, none⟩ (.int .u8 (x1.toNat : Int))).setCell ⟨eb, 4, none⟩ (.int .u8 (x2.toNat : Int))).setCell ⟨eb, 5, none⟩ (.int .u8 (x3.toNat : Int))).setCell ⟨eb, 6, none⟩ (.int .u8 (x4.toNat : Int))).setCell ⟨eb, 7, none⟩ (.int .u8 (x5.toNat : Int))).setCell ⟨eb, 8, none⟩ (.int .u8 (x6.toNat : Int))).setCell ⟨eb, 9, none⟩ (.int .u8 (x7.toNat : Int))) K s1 (entK (some l))) := HS3.out.frame hft hkeb
     have HR4 : Hid (RdP ((((((((w3.setCell ⟨eb, 2, none⟩ (.int .u8 (x0.toNat : Int))).setCell ⟨eb, 3, none⟩ (.int .u8 (x1.toNat : Int))).setCell ⟨eb, 4, none⟩ (.int .u8 (x2.toNat : Int))).setCell ⟨eb, 5, none⟩ (.int .u8 (x3.toNat : Int))).setCell ⟨eb, 6, none⟩ (.int .u8 (x4.toNat : Int))).setCell ⟨eb, 7, none⟩ (.int .u8 (x5.toNat : Int))).setCell ⟨eb, 8, none⟩ (.int .u8 (x6.toNat : Int))).setCell ⟨eb, 9, none⟩ (.int .u8 (x7.toNat : Int))) K rb r) := hr3.frame hft (by omega) hkeb
     have HMX : Hid (entM lv (some l) = [x0, x1, x2, x3, x4, x5, x6, x7]) := by unfold Hid; rw [HEM.out, hx8]
     clear hft hs3 hr3 h3 HS3 HF3 HQ3 HE2 HF2 HQ2 HS2 HR2 hf3 hz3 e0 HTK hkeb gg hx8 HIK
     unfold SlR.val
     go_upto_region 7 with fail
     generalize ((((((((w3.setCell ⟨eb, 2, none⟩ (.int .u8 (x0.toNat : Int))).setCell ⟨eb, 3, none⟩ (.int .u8 (x1.toNat : Int))).setCell ⟨eb, 4, none⟩ (.int .u8 (x2.toNat : Int))).setCell ⟨eb, 5, none⟩ (.int .u8 (x3.toNat : Int))).setCell ⟨eb, 6, none⟩ (.int .u8 (x4.toNat : Int))).setCell ⟨eb, 7, none⟩ (.int .u8 (x5.toNat : Int))).setCell ⟨eb, 8, none⟩ (.int .u8 (x6.toNat : Int))).setCell ⟨eb, 9, none⟩ (.int .u8 (x7.toNat : Int))) = W4 at *
     clear e2 e3 e4 e5 e6 e7 e8 e9 fe2 fe3 fe4 fe5 fe6 fe7 fe8 fe9 g0 g1 g2 g3 g4 g5 g6 g7
     go_wp2_with (first
      | (refine wpList_load_mid (by rfl) 103 (.tmp 5) (by rfl) eb 0 (by rfl) [.slice s1.a s1.n s1.cap, .slice none 0 0, .int .u8 (x0.toNat : Int), .int .u8 (x1.toNat : Int), .int .u8 (x2.toNat : Int), .int .u8 (x3.toNat : Int), .int .u8 (x4.toNat : Int), .int .u8 (x5.toNat : Int), .int .u8 (x6.toNat : Int), .int .u8 (x7.toNat : Int)] _ HE4.out.range Try.underlying103 rfl Try.sizeEntryB ?_)
      | (refine wp_storeR (by rfl) 103 (.tmp 4) (.tmp 27) (by rfl) w.heap.size (by rfl) [.slice s1.a s1.n s1.cap, .slice none 0 0, .int .u8 (x0.toNat : Int), .int .u8 (x1.toNat : Int), .int .u8 (x2.toNat : Int), .int .u8 (x3.toNat : Int), .int .u8 (x4.toNat : Int), .int .u8 (x5.toNat : Int), .int .u8 (x6.toNat : Int), .int .u8 (x7.toNat : Int)] (by rfl) HQ4.out rfl Try.sizeEntryB (enC_one ⟨s1, ⟨none, 0, 0⟩, [x0, x1, x2, x3, x4, x5, x6, x7]⟩) ?_; intro w6 hr6 hf6 hz6))
     obtain ⟨q1, q2⟩ := en_fin (x := ⟨s1, ⟨none, 0, 0⟩, [x0, x1, x2, x3, x4, x5, x6, x7]⟩) HQ4.out HF4.out HR4.out hrb HK.out rfl w6 hr6 hf6
     refine ret_agg (k := 4) (cs := [.slice s1.a s1.n s1.cap, .slice none 0 0, .int .u8 (x0.toNat : Int), .int .u8 (x1.toNat : Int), .int .u8 (x2.toNat : Int), .int .u8 (x3.toNat : Int), .int .u8 (x4.toNat : Int), .int .u8 (x5.toNat : Int), .int .u8 (x6.toNat : Int), .int .u8 (x7.toNat : Int)]) rfl rfl hr6 Try.underlying103 rfl Try.sizeEntryB rfl ⟨q1, ?_⟩
     rw [HX.out]
     have hk6 : ∀ k, K k → ¬ k = w.heap.size := fun k hk e => by have := HK.out k hk; omega
     exact ⟨⟨s1, ⟨none, 0, 0⟩, [x0, x1, x2, x3, x4, x5, x6, x7]⟩, rfl, ⟨rfl, HS4.out.frame hf6 hk6, fun e => absurd e hl0, fun _ => ⟨rfl, HMX.out.symm⟩⟩, q2⟩
end Go.Proofs.Ytekegfbjbainhaa
