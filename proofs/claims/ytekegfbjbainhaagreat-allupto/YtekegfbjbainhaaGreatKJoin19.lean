import Derived.Test.YtekegfbjbainhaaGreatKJoin18
import Derived.Test.YtekegfbjbainhaaGreatKJoin2
import Derived.Test.YtekegfbjbainhaaGreatKJoin4
import Derived.BigRegion
set_option linter.unusedVariables false
set_option linter.unusedSimpArgs false

namespace Go.Proofs.YtekegfbjbainhaaGreat
open Go.RowKit
attribute [local go_sem ↓] Go.wp_at_zero Go.wp_at_succ
def pgN (o : Option (List UInt8)) : Nat := 256 * oneV o + oneV (takeR 1 o)
def pgB (o : Option (List UInt8)) : List UInt8 := takeB (pgN o) (takeR 1 (takeR 1 o))
def pgO (o : Option (List UInt8)) (d : List UInt8) : Option ((Nat × List ItR) × List UInt8) :=
 match takeR (pgN o) (takeR 1 (takeR 1 o)) with
 | none => none
 | some r => match pageF (pgB o) with
  | none => none
  | some p => if digB (pgB o) = d then some (p, r) else none
def pgPost (w : World) (K : Nat → Prop) (rb : Nat) (o : Option (List UInt8)) (d : List UInt8) (e : Ending) (w' : World) : Prop :=
 ∃ (lvl : Nat) (cur : SlR), e = .returned (.agg #[.int .i64 (lvl : Int), cur.val]) ∧ lvl < 256 ∧ Frame (fun k => k = rb) w w' ∧ RdO w' K rb ((pgO o d).map (·.2)) ∧ ∀ lv its r, pgO o d = some ((lv, its), r) → lvl = lv ∧ OwnI w' w.heap.size cur.val its
theorem RdO.bad {w : World} {K : Nat → Prop} {rb : Nat} {o : Option (List UInt8)} (h : RdO w K rb o) : RdO (w.setCell ⟨rb, 1, none⟩ (.bool true)) K rb none := by
 obtain ⟨s, l, bad, h, e⟩ := h
 exact ⟨s, l, true, h.bad, rfl⟩
theorem pg_fin {w W : World} {K : Nat → Prop} {rb lvl : Nat} {cur : SlR} {o : Option (List UInt8)} (hQ : RowV W w.heap.size 80 [.int .i64 0, .slice none 0 0]) (hF : Frame (fun k => k = rb) w W) (hr : RdO W K rb o) (hrb : rb < w.heap.size) (hK : ∀ k, K k → k < w.heap.size) :
  RowV ((W.setCell ⟨w.heap.size, 0, none⟩ (.int .i64 (lvl : Int))).setCell ⟨w.heap.size, 1, none⟩ cur.val) w.heap.size 80 [.int .i64 (lvl : Int), cur.val] ∧ Frame (fun k => k = rb) w ((W.setCell ⟨w.heap.size, 0, none⟩ (.int .i64 (lvl : Int))).setCell ⟨w.heap.size, 1, none⟩ cur.val) ∧
   RdO ((W.setCell ⟨w.heap.size, 0, none⟩ (.int .i64 (lvl : Int))).setCell ⟨w.heap.size, 1, none⟩ cur.val) K rb o ∧ Frame (fun k => k = w.heap.size) W ((W.setCell ⟨w.heap.size, 0, none⟩ (.int .i64 (lvl : Int))).setCell ⟨w.heap.size, 1, none⟩ cur.val) := by
 have hf : Frame (fun k => k = w.heap.size) W ((W.setCell ⟨w.heap.size, 0, none⟩ (.int .i64 (lvl : Int))).setCell ⟨w.heap.size, 1, none⟩ cur.val) := ((Frame.refl (fun k => k = w.heap.size) W).setCell (p := ⟨w.heap.size, 0, none⟩) rfl _).setCell (p := ⟨w.heap.size, 1, none⟩) rfl _
 exact ⟨by simpa using (RowV.set hQ 0 (.int .i64 (lvl : Int))).set 1 cur.val, hF.inside hf (fun x hx e => by omega), hr.frame hf (by omega) (fun k hk => by have := hK k hk; omega), hf⟩
theorem pgO_bad {o : Option (List UInt8)} {d b : List UInt8} {o3 : Option (List UInt8)} (h1 : pgB o = b) (h2 : takeR (pgN o) (takeR 1 (takeR 1 o)) = o3) (h : pageF b = none ∨ digB b ≠ d) : pgO o d = none := by
 unfold pgO; rw [h1]
 cases takeR (pgN o) (takeR 1 (takeR 1 o)) with
 | none => rfl
 | some r =>
  rcases h with h | h
  ·simp only [h]
  ·cases pageF b with
   | none => rfl
   | some p => simp only [if_neg h]
set_option maxRecDepth 100000 in
set_option maxHeartbeats 4000000 in
theorem rpage_any (K : Nat → Prop) (rb : Nat) (o : Option (List UInt8)) (d : List UInt8) (w : World) (h : RdO w K rb o) (hK : ∀ k, K k → k < w.heap.size) :
  Calls Tryz.prog 32 #[.pointer (some ⟨rb, 0, none⟩), .string ⟨d.toArray⟩] w (pgPost w K rb o d) := by
 have hA : Below w.heap.size w (w.alloc (.cells #[.int .i64 0, .slice none 0 0] 80)) := (Below.refl _ _).alloc (Nat.le_refl _) _
 have hrb := h.lt
 have HON : Hid (Calls _ _ _ _ _) := one_any K rb o _ (h.below hA)
 have HF0 : Hid (Frame (fun k => k = rb) w (w.alloc (.cells #[.int .i64 0, .slice none 0 0] 80))) := Frame.of_below_all hA
 have HQ0 : Hid (RowV (w.alloc (.cells #[.int .i64 0, .slice none 0 0] 80)) w.heap.size 80 [.int .i64 0, .slice none 0 0]) := RowV.new w _ _
 have HK : Hid (∀ k, K k → k < w.heap.size) := hK
 have HP : Hid (∀ a1 a2, oneV o = a1 → oneV (takeR 1 o) = a2 → pgN o = 256 * a1 + a2) := fun a1 a2 e1 e2 => by unfold pgN; rw [e1, e2]
 clear h hK hA
 go_enter Tryz.func32, Tryz.ntmps32
 go_wp2_with fail
 refine HON.out.mono ?_
 rintro e w1 ⟨rfl, hf1, hz1, hr1⟩
 have HF1 : Hid (Frame (fun k => k = rb) w w1) := HF0.out.trans hf1
 have HQ1 : Hid (RowV w1 w.heap.size 80 [.int .i64 0, .slice none 0 0]) := RowV.of_block HQ0.out (hf1.block _ (RowV.lt HQ0.out) (by omega))
 have hx1 := oneV_lt o
 have HON2 : Hid (Calls _ _ _ _ _) := one_any K rb (takeR 1 o) w1 hr1
 have hx2 := oneV_lt (takeR 1 o)
 generalize oneV o = a1 at *
 generalize oneV (takeR 1 o) = a2 at *
 have hw1 : IntKind.i64.wrap (256 * (a1 : Int)) = ((256 * a1 : Nat) : Int) := by simp only [IntKind.wrap_i64]; omega
 have hw2 : IntKind.i64.wrap (((256 * a1 : Nat) : Int) + (a2 : Int)) = ((256 * a1 + a2 : Nat) : Int) := by simp only [IntKind.wrap_i64]; omega
 have HPN : Hid (pgN o = 256 * a1 + a2) := HP.out a1 a2 rfl rfl
 clear HON HF0 HQ0 HP hf1 hz1 hr1
 go_wp2_with fail
 refine HON2.out.mono ?_
 rintro e w2 ⟨rfl, hf2, hz2, hr2⟩
 have HF2 : Hid (Frame (fun k => k = rb) w w2) := HF1.out.trans hf2
 have HQ2 : Hid (RowV w2 w.heap.size 80 [.int .i64 0, .slice none 0 0]) := RowV.of_block HQ1.out (hf2.block _ (RowV.lt HQ1.out) (by omega))
 have HSO : Hid (Calls _ _ _ _ _) := some_any K rb (256 * a1 + a2) (takeR 1 (takeR 1 o)) w2 hr2
 have hce : ((256 * a1 + a2 : Nat) : Int) = 256 * (a1 : Int) + (a2 : Int) := by omega
 rw [hce] at HSO
 have hw3 : IntKind.i64.wrap (256 * (a1 : Int) + (a2 : Int)) = 256 * (a1 : Int) + (a2 : Int) := by simp only [IntKind.wrap_i64]; omega
 clear HON2 HF1 HQ1 hf2 hz2 hr2 hw1 hw2 hce
 go_wp2_with fail
 refine HSO.out.mono ?_
 rintro e w3 ⟨s1, rfl, hf3, hz3, hs3, hr3⟩
 have HF3 : Hid (Frame (fun k => k = rb) w w3) := HF2.out.trans hf3
 have HQ3 : Hid (RowV w3 w.heap.size 80 [.int .i64 0, .slice none 0 0]) := RowV.of_block HQ2.out (hf3.block _ (RowV.lt HQ2.out) (by omega))
 have hbl := takeB_length (256 * a1 + a2) (takeR 1 (takeR 1 o))
 have HPB : Hid (pgB o = takeB (256 * a1 + a2) (takeR 1 (takeR 1 o))) := by unfold Hid pgB; rw [HPN.out]
 have HPR : Hid (takeR (pgN o) (takeR 1 (takeR 1 o)) = takeR (256 * a1 + a2) (takeR 1 (takeR 1 o))) := by unfold Hid; rw [HPN.out]
 generalize takeB (256 * a1 + a2) (takeR 1 (takeR 1 o)) = b at *
 generalize takeR (256 * a1 + a2) (takeR 1 (takeR 1 o)) = o3 at *
 obtain ⟨s', l', bad, hrd, ho⟩ := hr3
 have r1 : w3.cell? ⟨rb, 1, none⟩ = some (.bool bad) := RowV.cell hrd.row 1 (by simp)
 have HRD : Hid (RdO w3 K rb o3) := ⟨s', l', bad, hrd, ho⟩
 have HO : Hid (o3 = if bad then none else some l') := ho
 have HS3 : Hid (SubS w3 K s1 b) := hs3
 clear HSO HF2 HQ2 hf3 hz3 hs3 hw3 hrd ho
 unfold SlR.val
 cases bad with
 | true =>
  have HPO : Hid (pgO o d = none) := by unfold Hid pgO; rw [HPR.out, HO.out]; rfl
  have HRN : Hid (RdO w3 K rb none) := by have := HRD.out; rwa [HO.out] at this
  have q0 := HQ3.out.cell 0 (by simp)
  have q1 := HQ3.out.cell 1 (by simp)
  have gq0 := HQ3.out.frozen 0
  have gq1 := HQ3.out.frozen 1
  simp only [List.getElem_cons_zero, List.getElem_cons_succ] at q0 q1
  go_wp2
  have hf : Frame (fun k => k = w.heap.size) w3 ((w3.setCell ⟨w.heap.size, 0, none⟩ (.int .i64 0)).setCell ⟨w.heap.size, 1, none⟩ (.slice none 0 0)) := ((Frame.refl (fun k => k = w.heap.size) w3).setCell (p := ⟨w.heap.size, 0, none⟩) rfl _).setCell (p := ⟨w.heap.size, 1, none⟩) rfl _
  refine ret_agg (k := 4) (cs := [.int .i64 0, .slice none 0 0]) rfl rfl (by simpa using (RowV.set HQ3.out 0 (.int .i64 0)).set 1 (.slice none 0 0)) Tryz.underlying80 rfl Tryz.sizePage rfl ?_
  refine ⟨0, ⟨none, 0, 0⟩, rfl, by omega, HF3.out.inside hf (fun x hx e => by omega), ?_, ?_⟩
  ·rw [HPO.out]
   have := HRN.out.frame hf (by omega) (fun k hk => by have := HK.out k hk; omega)
   exact this
  ·intro lv its r e; rw [HPO.out] at e; cases e
 | false =>
  have HDC : Hid (Calls _ _ _ _ _) := decoded_any K s1 b w3 HS3.out (fun k hk => Nat.lt_of_lt_of_le (HK.out k hk) HF3.out.size)
  go_wp2_with fail
  refine HDC.out.mono ?_
  rintro e w4 ⟨lvl, cur, ok, rfl, hb4, hok, hlvl, hown⟩
  have HR4 : Hid (RdO w4 K rb (some l')) := by have := HRD.out.below hb4; rwa [HO.out] at this
  have HF4 : Hid (Frame (fun k => k = rb) w w4) := HF3.out.inside (Frame.of_below hb4) (fun x hx e => by have := HF3.out.size; omega)
  have HQ4 : Hid (RowV w4 w.heap.size 80 [.int .i64 0, .slice none 0 0]) := RowV.below HQ3.out (RowV.lt HQ3.out) hb4
  have HS4 : Hid (SubS w4 K s1 b) := HS3.out.below hb4
  have HOW : Hid (∀ (lv : Nat) (its : List ItR), pageF b = some (lv, its) → lvl = lv ∧ OwnI w4 w3.heap.size cur.val its) := hown
  have HOK : Hid (ok = (pageF b).isSome) := hok
  have HB5 : Hid (Below w4.heap.size w4 (w4.alloc (.cells #[.int .i64 (lvl : Int), cur.val] 80))) := (Below.refl _ _).alloc (Nat.le_refl _) _
  have hs5 := HS4.out.below HB5.out
  have HDG : Hid (Calls _ _ _ _ _) := refDigest_any s1.a s1.n s1.cap b _ hs5.bs.n (by unfold maxLen; omega) hs5.bs.sl
  have HP5 : Hid (RowV (w4.alloc (.cells #[.int .i64 (lvl : Int), cur.val] 80)) w4.heap.size 80 [.int .i64 (lvl : Int), cur.val]) := RowV.new w4 _ _
  obtain ⟨x0, x1, x2, x3, x4, x5, x6, x7, hdd⟩ := list8 (digB b) rfl
  have HV : Hid (digV b = .agg #[.int .u8 (x0.toNat : Int), .int .u8 (x1.toNat : Int), .int .u8 (x2.toNat : Int), .int .u8 (x3.toNat : Int), .int .u8 (x4.toNat : Int), .int .u8 (x5.toNat : Int), .int .u8 (x6.toNat : Int), .int .u8 (x7.toNat : Int)]) := by
   unfold Hid; rw [digV_eq, hdd]; rfl
  have HDD : Hid (digB b = [x0, x1, x2, x3, x4, x5, x6, x7]) := hdd
  have HF3Z : Hid (w.heap.size ≤ w3.heap.size) := HF3.out.size
  clear hb4 hok hown HDC HRD HF3 HQ3 HS3 hs5 hdd r1
  unfold SlR.val
  unfold SlR.val at HDG HB5 HP5
  go_wp2_with fail
  refine HDG.out.mono ?_
  rintro e w6 ⟨rfl, hb6⟩
  rw [HV.out]
  have HF6 : Hid (Frame (fun k => k = rb) w w6) := (HF4.out.inside (Frame.of_below HB5.out) (fun x hx e => by have := HF4.out.size; omega)).inside (Frame.of_below hb6) (fun x hx e => by have := HF4.out.size; have := HB5.out.size; omega)
  have HB6 : Hid (Below w4.heap.size w4 w6) := HB5.out.trans (hb6.mono HB5.out.size)
  have HP6 : Hid (RowV w6 w4.heap.size 80 [.int .i64 (lvl : Int), .slice cur.a cur.n cur.cap]) := RowV.below HP5.out (RowV.lt HP5.out) hb6
  have HQ6 : Hid (RowV w6 w.heap.size 80 [.int .i64 0, .slice none 0 0]) := RowV.below HQ4.out (RowV.lt HQ4.out) HB6.out
  have HR6 : Hid (RdO w6 K rb (some l')) := HR4.out.below HB6.out
  have hD8 : RowV (w6.alloc (.cells #[.int .u8 (x0.toNat : Int), .int .u8 (x1.toNat : Int), .int .u8 (x2.toNat : Int), .int .u8 (x3.toNat : Int), .int .u8 (x4.toNat : Int), .int .u8 (x5.toNat : Int), .int .u8 (x6.toNat : Int), .int .u8 (x7.toNat : Int)] 36)) w6.heap.size 36 ([x0, x1, x2, x3, x4, x5, x6, x7].map u8c) := RowV.new w6 36 ([x0, x1, x2, x3, x4, x5, x6, x7].map u8c)
  have hcv := run_string_SlB (P := Tryz.prog) (w6.alloc (.cells #[.int .u8 (x0.toNat : Int), .int .u8 (x1.toNat : Int), .int .u8 (x2.toNat : Int), .int .u8 (x3.toNat : Int), .int .u8 (x4.toNat : Int), .int .u8 (x5.toNat : Int), .int .u8 (x6.toNat : Int), .int .u8 (x7.toNat : Int)] 36)) 38 9 5 (some ⟨w6.heap.size, 0, none⟩) 8 8 [x0, x1, x2, x3, x4, x5, x6, x7] Tryz.underlying38 Tryz.underlying5 Tryz.underlying9 rfl (SlB.of_row hD8) (fun h => by cases h)
  have HB7 : Hid (Below w6.heap.size w6 (w6.alloc (.cells #[.int .u8 (x0.toNat : Int), .int .u8 (x1.toNat : Int), .int .u8 (x2.toNat : Int), .int .u8 (x3.toNat : Int), .int .u8 (x4.toNat : Int), .int .u8 (x5.toNat : Int), .int .u8 (x6.toNat : Int), .int .u8 (x7.toNat : Int)] 36))) := (Below.refl _ _).alloc (Nat.le_refl _) _
  have HR7 := HR6.out.below HB7.out
  have HP7 := RowV.below HP6.out (RowV.lt HP6.out) HB7.out
  have HQ7 := RowV.below HQ6.out (RowV.lt HQ6.out) HB7.out
  have HF7 : Hid (Frame (fun k => k = rb) w _) := HF6.out.inside (Frame.of_below HB7.out) (fun x hx e => by have := HF6.out.size; omega)
  have HB47 : Hid (Below w4.heap.size w4 _) := HB6.out.trans (HB7.out.mono HB6.out.size)
  have h4w : w.heap.size < w4.heap.size := by have := RowV.lt HQ4.out; omega
  clear HP6 HQ6 HF6 HB6 HB7 HP5 HB5 HDG HR6 hb6 hD8
  go_upto_region 8 with fail
  generalize w6.alloc (.cells #[.int .u8 (x0.toNat : Int), .int .u8 (x1.toNat : Int), .int .u8 (x2.toNat : Int), .int .u8 (x3.toNat : Int), .int .u8 (x4.toNat : Int), .int .u8 (x5.toNat : Int), .int .u8 (x6.toNat : Int), .int .u8 (x7.toNat : Int)] 36) = W7 at *
  obtain ⟨s', l'', bad, hrd, ho⟩ := HR7
  obtain ⟨rfl, rfl⟩ : bad = false ∧ l'' = l' := by
   cases bad with
   | true => simp at ho
   | false => simp at ho; exact ⟨rfl, ho.symm⟩
  have HRA : Hid (RdAt W7 K rb s' l'' false) := hrd
  have hr1 : W7.cell? ⟨rb, 1, none⟩ = some (.bool false) := RowV.cell hrd.row 1 (by simp)
  have fr1 := hrd.row.frozen 1
  have p0 := HP7.cell 0 (by simp)
  have p1 := HP7.cell 1 (by simp)
  have q0 := HQ7.cell 0 (by simp)
  have q1 := HQ7.cell 1 (by simp)
  have gq0 := HQ7.frozen 0
  have gq1 := HQ7.frozen 1
  simp only [List.getElem_cons_zero, List.getElem_cons_succ] at p0 p1 q0 q1
  have HQ8 : Hid (RowV W7 w.heap.size 80 [.int .i64 0, .slice none 0 0]) := HQ7
  have hne1 : w.heap.size ≠ rb := by omega
  have hne2 : rb ≠ w.heap.size := by omega
  have hne3 : w4.heap.size ≠ rb := by omega
  have hne4 : w4.heap.size ≠ w.heap.size := by omega
  clear hrd ho HP7 HQ7 HQ4 HR4 HS4
  cases ok with
  | false =>
   have HPO : Hid (pgO o d = none) := pgO_bad HPB.out HPR.out (Or.inl (by have := HOK.out; cases h : pageF b with | none => rfl | some p => rw [h] at this; cases this))
   go_wp2
   have hfb : Frame (fun k => k = rb) W7 (W7.setCell ⟨rb, 1, none⟩ (.bool true)) := (Frame.refl (fun k => k = rb) _).setCell (p := ⟨rb, 1, none⟩) rfl _
   have hfin := pg_fin (lvl := lvl) (cur := cur) (RowV.of_block HQ8.out (hfb.block _ (RowV.lt HQ8.out) hne1)) (HF7.out.trans hfb) ⟨s', l'', true, HRA.out.bad, rfl⟩ hrb HK.out
   refine ret_agg (k := 4) (cs := [.int .i64 (lvl : Int), .slice cur.a cur.n cur.cap]) rfl rfl hfin.1 Tryz.underlying80 rfl Tryz.sizePage rfl ?_
   refine ⟨lvl, cur, rfl, hlvl, hfin.2.1, ?_, ?_⟩
   ·rw [HPO.out]; exact hfin.2.2.1
   ·intro lv its r e; rw [HPO.out] at e; cases e
  | true =>
   by_cases hdq : digB b = d
   ·have hde : d = [x0, x1, x2, x3, x4, x5, x6, x7] := by rw [← hdq, HDD.out]
    have HDQ : Hid (digB b = d) := hdq
    clear hdq
    have HPO : Hid (∃ p, pageF b = some p ∧ pgO o d = some (p, l'')) := by
     unfold Hid
     cases h : pageF b with
     | none => have := HOK.out; rw [h] at this; cases this
     | some p => exact ⟨p, rfl, by unfold pgO; rw [HPB.out, HPR.out, HO.out]; simp only [h, HDQ.out]; rfl⟩
    subst hde
    go_wp2
    have hfin := pg_fin (lvl := lvl) (cur := cur) HQ8.out HF7.out ⟨s', l'', false, HRA.out, rfl⟩ hrb HK.out
    refine ret_agg (k := 4) (cs := [.int .i64 (lvl : Int), .slice cur.a cur.n cur.cap]) rfl rfl hfin.1 Tryz.underlying80 rfl Tryz.sizePage rfl ?_
    obtain ⟨p, hp1, hp2⟩ := HPO.out
    refine ⟨lvl, cur, rfl, hlvl, hfin.2.1, ?_, ?_⟩
    ·rw [hp2]; exact hfin.2.2.1
    ·intro lv its r e
     rw [hp2] at e
     simp only [Option.some.injEq, Prod.mk.injEq] at e
     obtain ⟨rfl, rfl⟩ := e
     obtain ⟨e1, h2⟩ := HOW.out lv its hp1
     refine ⟨e1, ?_⟩
     have h3 := owns_base (base' := w.heap.size) (owns_below h2 HB47.out) (fun k hk => Nat.le_trans HF3Z.out (h2.lt k hk).1)
     exact owns_frame h3 hfin.2.2.2 (fun k hk e => owns_ne h3 HQ8.out (by decide) (by rw [hk, e]))
   ·have HPO : Hid (pgO o d = none) := pgO_bad HPB.out HPR.out (Or.inr hdq)
    have hde : ([x0, x1, x2, x3, x4, x5, x6, x7] == d) = false := by rw [← HDD.out]; simpa using hdq
    clear hdq
    go_wp2
    have hfb : Frame (fun k => k = rb) W7 (W7.setCell ⟨rb, 1, none⟩ (.bool true)) := (Frame.refl (fun k => k = rb) _).setCell (p := ⟨rb, 1, none⟩) rfl _
    have hfin := pg_fin (lvl := lvl) (cur := cur) (RowV.of_block HQ8.out (hfb.block _ (RowV.lt HQ8.out) hne1)) (HF7.out.trans hfb) ⟨s', l'', true, HRA.out.bad, rfl⟩ hrb HK.out
    refine ret_agg (k := 4) (cs := [.int .i64 (lvl : Int), .slice cur.a cur.n cur.cap]) rfl rfl hfin.1 Tryz.underlying80 rfl Tryz.sizePage rfl ?_
    refine ⟨lvl, cur, rfl, hlvl, hfin.2.1, ?_, ?_⟩
    ·rw [HPO.out]; exact hfin.2.2.1
    ·intro lv its r e; rw [HPO.out] at e; cases e
end Go.Proofs.YtekegfbjbainhaaGreat


namespace Go.Proofs.YtekegfbjbainhaaGreat
open Go.RowKit
def frameB (level : Nat) (l : List ItR) : List UInt8 := bt ((codeB level l).length / 256) :: bt ((codeB level l).length % 256) :: codeB level l
def keyAt (l : List ItR) (i : Nat) : List UInt8 := (l[i]?.map (·.key)).getD []
def withB (l : List ItR) (i : Nat) (fr tu : List UInt8) : Bool := !(Op.bytesLess (keyAt l i) fr) && (i == 0 || Op.bytesLess (keyAt l (i - 1)) tu)
theorem keyAt_lt {l : List ItR} {i : Nat} (h : i < l.length) : keyAt l i = l[i].key := by
 unfold keyAt; rw [List.getElem?_eq_getElem h]; rfl
set_option maxRecDepth 100000 in
set_option maxHeartbeats 1000000 in
theorem framed_any (level : Nat) (a : Option Addr) (n cap : Nat) (l : List ItR) (w : World) (hn : n = l.length) (hl : l.length ≤ 200) (hlv : level ≤ 200) (hok : ∀ x ∈ l, ItOk x) (hs : SlI w a l) :
  Calls Tryz.prog 124 #[.agg #[.int .i64 (level : Int), .slice a n cap]] w fun e w' => ∃ a' n' c', e = .returned (.slice a' n' c') ∧ OwnB w' w.heap.size (.slice a' n' c') (frameB level l) ∧ Below w.heap.size w w' := by
 have hb0 : Below w.heap.size w (w.alloc (.cells #[.int .i64 (level : Int), .slice a n cap] 80)) := (Below.refl _ _).alloc (Nat.le_refl _) _
 have HC : Hid (Calls _ _ _ _ _) := code_any level a n cap l _ hn hl hlv hok (SlV.below_all hs hb0)
 have HL : Hid ((codeB level l).length ≤ 6000) := by
  have := prefB_length level l.length l hok
  unfold prefB at this
  unfold Hid codeB
  omega
 clear hok hs hn hl hlv
 go_enter Tryz.func124, Tryz.ntmps124
 go_wp2_with fail
 refine HC.out.mono ?_
 rintro e w1 ⟨a1, n1, c1, rfl, ho1, hb1⟩
 obtain ⟨hs1, hn1, hnil1⟩ := OwnB.sl ho1
 have hn6 : n1 ≤ 6000 := by have := HL.out; omega
 have hnI : (n1 : Int) ≤ 6000 := by omega
 have HB : Hid (Below w.heap.size w w1) := hb0.trans (hb1.mono (by simp))
 have HO : Hid (OwnB w1 (w.heap.size + 1) (.slice a1 n1 c1) (codeB level l)) := by unfold Hid; simpa using ho1
 have HN : Hid (n1 = (codeB level l).length) := hn1
 clear ho1 hb1 hb0 hn1
 have HB2 : Hid (OwnB (w1.alloc (.cells #[.int .u8 ((n1 : Int) / 256), .int .u8 ((n1 : Int) % 256)] 5)) w.heap.size (.slice (some ⟨w1.heap.size, 0, none⟩) 2 2) [bt (n1 / 256), bt (n1 % 256)]) := by
  have := OwnB.built w1 w.heap.size [bt (n1 / 256), bt (n1 % 256)] (HB.out.size) (by simp [maxLen])
  simp only [List.map_cons, List.map_nil] at this
  rw [bt_c (by omega), bt_c (by omega)] at this
  unfold Hid
  simpa using this
 go_wp2_with (at_builtin; refine wp_appendB (by rfl) (.tmp 16) (.tmp 17) (by rfl) w.heap.size _ [bt (n1 / 256), bt (n1 % 256)] (by rfl) HB2.out a1 n1 c1 (codeB level l) (by rfl) HN.out (by exact SlB.below hs1 ((Below.refl _ _).alloc (Nat.le_refl _) _) (Nat.le_refl _)) hnil1 (by have := HL.out; simp; omega) (by have := HB.out.size; simp; omega) ?_; intro a2 n2 c2 w2 hn2 ho2 hs2 hf2 hat2; clear hn2)
 go_ret
 refine ⟨a2, n2, c2, rfl, ?_, ?_⟩
 ·unfold frameB
  rw [← HN.out]
  exact ho2
 ·exact (HB.out.alloc HB.out.size _).trans (hf2.below (by have := HB.out.size; simp; omega) (fun k hk => by
   have : k = w1.heap.size := by simpa [Value.ownBlock] using hk.symm
   have := HB.out.size; omega))
set_option maxRecDepth 100000 in
set_option maxHeartbeats 400000 in
theorem firstR_any (level : Nat) (a : Option Addr) (cap : Nat) (l : List ItR) (key : List UInt8) (w : World) (hl : l.length ≤ 1000000) (hs : SlI w a l) :
  Calls Tryz.prog 33 #[.agg #[.int .i64 (level : Int), .slice a l.length cap], strV key] w fun e w' => e = .returned (.int .i64 (placeN l key : Int)) ∧ Below w.heap.size w w' := by
 unfold strV
 have hs1 : SlI (w.alloc (.cells #[.int .i64 (level : Int), .slice a l.length cap] 80)) a l := SlV.below_all hs ((Below.refl _ _).alloc (Nat.le_refl _) _)
 go_enter Tryz.func33, Tryz.ntmps33
 go_wp2
 go_loop [5] (fun i => ∃ k : Nat, k ≤ l.length ∧ i = .int .i64 k ∧ Hid (placeN l key = k + ((l.drop k).takeWhile (lessK key)).length)) (fun i => l.length - (intOf i).toNat)
 case atStart => exact ⟨0, by omega, rfl, by simp [Hid, placeN]⟩
 case round =>
  obtain ⟨k, hk, rfl, HP⟩ := hrel
  by_cases hlt : k < l.length
  ·obtain ⟨b, o, rfl, hb, c0, _, _⟩ := SlI.cells hs1 k hlt
   unfold strV at c0
   have HD : Hid (l.drop k = l[k] :: l.drop (k + 1)) := List.drop_eq_getElem_cons hlt
   have hltI : (k : Int) < l.length := by omega
   by_cases hless : lessK key l[k] = true
   ·have hlb : Op.bytesLess l[k].key key = true := hless
    go_wp2
    go_round
    case rel => exact ⟨k + 1, by omega, by go_num, by
     have := HP.out
     rw [HD.out, List.takeWhile_cons, if_pos hless, List.length_cons] at this
     unfold Hid; omega⟩
    case measure => simp [intOf]; omega
   ·have hlb : Op.bytesLess l[k].key key = false := by unfold lessK at hless; simpa using hless
    have HE : Hid (placeN l key = k) := by
     have := HP.out
     rw [HD.out, List.takeWhile_cons, if_neg hless] at this
     unfold Hid; simpa using this
    go_wp2
    go_ret
    exact ⟨by rw [HE.out]; rfl, by go_grown⟩
  ·have HE : Hid (placeN l key = l.length) := by
     have := HP.out
     rw [List.drop_eq_nil_of_le (by omega)] at this
     unfold Hid
     simp at this; omega
   have hltI : ¬ (k : Int) < l.length := by omega
   go_wp2
   go_ret
   exact ⟨by rw [HE.out]; rfl, by go_grown⟩
set_option maxRecDepth 100000 in
set_option maxHeartbeats 400000 in
theorem withinR_any (level : Nat) (a : Option Addr) (cap : Nat) (l : List ItR) (i : Nat) (hi : i < l.length) (fr tu : List UInt8) (w : World) (hl : l.length ≤ 1000000) (hs : SlI w a l) :
  Calls Tryz.prog 127 #[.agg #[.int .i64 (level : Int), .slice a l.length cap], .int .i64 (i : Int), strV fr, strV tu] w fun e w' => e = .returned (.bool (withB l i fr tu)) ∧ Below w.heap.size w w' := by
 unfold strV
 have hs1 : SlI (w.alloc (.cells #[.int .i64 (level : Int), .slice a l.length cap] 80)) a l := SlV.below_all hs ((Below.refl _ _).alloc (Nat.le_refl _) _)
 obtain ⟨b, o, rfl, hb, c0, _, _⟩ := SlI.cells hs1 i hi
 unfold strV at c0
 have hiI : (i : Int) < l.length := by omega
 have HW : Hid (withB l i fr tu = (!(Op.bytesLess l[i].key fr) && (i == 0 || Op.bytesLess (keyAt l (i - 1)) tu))) := by unfold Hid withB; rw [keyAt_lt hi]
 cases hA : Op.bytesLess l[i].key fr with
 | true =>
  clear hs hs1
  go_enter Tryz.func127, Tryz.ntmps127
  go_wp2
  go_ret
  exact ⟨by rw [HW.out, hA]; rfl, by go_grown⟩
 | false =>
  cases i with
  | zero =>
   clear hs hs1
   rw [Nat.zero_mul, Nat.add_zero] at c0
   go_enter Tryz.func127, Tryz.ntmps127
   go_wp2
   go_ret
   exact ⟨by rw [HW.out, hA]; rfl, by go_grown⟩
  | succ j =>
   have hj : j < l.length := by omega
   obtain ⟨b', o', hb', _, d0, _, _⟩ := SlI.cells hs1 j hj
   unfold strV at d0
   cases hb'
   have HK : Hid (keyAt l (j + 1 - 1) = l[j].key) := by unfold Hid; rw [show j + 1 - 1 = j from rfl, keyAt_lt hj]
   have hj0 : ((j : Int) + 1 == 0) = false := by simp; omega
   have hjI : (j : Int) + 1 - 1 = j := by omega
   have hjJ : (j : Int) < l.length := by omega
   have hjM : (j : Int) ≤ 1000000 := by omega
   clear hs hs1
   cases hB : Op.bytesLess l[j].key tu with
   | true =>
    go_enter Tryz.func127, Tryz.ntmps127
    go_wp2
    go_ret
    exact ⟨by rw [HW.out, hA, HK.out, hB]; rfl, by go_grown⟩
   | false =>
    go_enter Tryz.func127, Tryz.ntmps127
    go_wp2
    go_ret
    exact ⟨by rw [HW.out, hA, HK.out, hB]; rfl, by go_grown⟩
end Go.Proofs.YtekegfbjbainhaaGreat


namespace Go.Proofs.YtekegfbjbainhaaGreat
open Go.RowKit
structure RTree (W : World) (base : Nat) (lv : SlR) (lvls : List LevR) : Prop where
 own : OwnL W base lv.val lvls
 ok : ∀ i (h : i < lvls.length), LvOk W base i lvls[i]
theorem RTree.below {W W' : World} {base : Nat} {lv : SlR} {lvls : List LevR} (h : RTree W base lv lvls) (hb : Below W.heap.size W W') : RTree W' base lv lvls :=
 ⟨owns_below h.own hb, fun i hi => (h.ok i hi).below hb⟩
set_option maxRecDepth 100000 in
set_option maxHeartbeats 1000000 in
theorem below_any (lv : SlR) (lvls : List LevR) (base m : Nat) (s : SlR) (ps : List (SlR × List ItR)) (a : Option Addr) (cap : Nat) (l : List ItR) (i : Nat) (hi : i < l.length) (q : SlR × List ItR) (w : World) (ho : RTree w base lv lvls) (hm : lvls[m]? = some (s, ps)) (hm2 : m ≤ 100) (hl : l.length ≤ 200) (hs : SlI w a l) (hp : ps.length ≤ 1000) (hq : ps[l[i].below]? = some q) :
  Calls Tryz.prog 125 #[.agg #[.slice lv.a lv.n lv.cap], .agg #[.int .i64 ((m : Int) + 1), .slice a l.length cap], .int .i64 (i : Int)] w fun e w' => e = .returned (.agg #[.int .i64 (m : Int), .slice q.1.a q.1.n q.1.cap]) ∧ Below w.heap.size w w' := by
 have hml : m < lvls.length := by
  rcases Nat.lt_or_ge m lvls.length with h | h
  ·exact h
  ·rw [List.getElem?_eq_none h] at hm; cases hm
 have hlv : LvOk w base m (s, ps) := by
  have := ho.ok m hml
  rw [List.getElem?_eq_getElem hml] at hm
  rw [Option.some.inj hm] at this
  exact this
 obtain ⟨hsl, hln⟩ := SlV.ofOwn (s := lv) ho.own
 obtain ⟨hsp, hsn⟩ := SlV.ofOwn (s := s) hlv.1
 obtain ⟨b, o, rfl, hb, _, _, x2⟩ := SlI.cells hs i hi
 obtain ⟨j, hj⟩ : ∃ j, j = l[i].below := ⟨_, rfl⟩
 rw [← hj] at hq x2
 have hjl : j < ps.length := by
  rcases Nat.lt_or_ge j ps.length with h | h
  ·exact h
  ·rw [List.getElem?_eq_none h] at hq; cases hq
 obtain ⟨lb, lo, hla, hlb, c0⟩ := SlV.at hsl (i := m) (v := .slice s.a s.n s.cap) (by unfold lvC; rw [List.getElem?_map, hm]; rfl)
 have hpg : ∀ r : Nat, r < 2 → (pgsC m ps)[j * 2 + r]? = (pgC m q)[r]? := fun r hr => by
  have h1 := flat_get (pgC m) 2 ps (fun _ _ => rfl) j hjl r hr
  have h2 : ps[j] = q := by rw [List.getElem?_eq_getElem hjl] at hq; exact Option.some.inj hq
  rw [h2] at h1
  exact h1
 obtain ⟨pb, po, hpa, hpb, d0⟩ := SlV.at hsp (i := j * 2 + 0) (v := .int .i64 (m : Int)) (by rw [hpg 0 (by omega)]; rfl)
 obtain ⟨pb', po', hpa', _, d1⟩ := SlV.at hsp (i := j * 2 + 1) (v := .slice q.1.a q.1.n q.1.cap) (by rw [hpg 1 (by omega)]; rfl)
 rw [hpa] at hpa'
 cases hpa'
 obtain ⟨la, ln, lc⟩ := lv
 obtain ⟨sa, sn, sc⟩ := s
 simp only at hla hpa c0 hln hsn
 subst hla; subst hpa
 have hmI : (0 : Int) ≤ (m : Int) := Int.natCast_nonneg _
 have hmJ : (m : Int) ≤ 100 := by omega
 have hmL : (m : Int) < (ln : Int) := by omega
 have hjI : (0 : Int) ≤ (j : Int) := Int.natCast_nonneg _
 have hjJ : (j : Int) ≤ 1000 := by omega
 have hjL : (j : Int) < (sn : Int) := by omega
 have hiI : (i : Int) < (l.length : Int) := by omega
 have hmm : (m : Int) + 1 - 1 = m := by omega
 rw [Nat.add_zero] at d0
 clear hsl hsp ho hlv hm hq hpg hs hln hsn hj
 have HW : Hid (Below w.heap.size w (((w.alloc (.cells #[.slice (some ⟨lb, lo, none⟩) ln lc] 146)).alloc (.cells #[.int .i64 ((m : Int) + 1), .slice (some ⟨b, o, none⟩) l.length cap] 80)).alloc (.cells #[.int .i64 0, .slice none 0 0] 80))) := by unfold Hid; go_grown
 have w0 := (((RowV.new w 146 [.slice (some ⟨lb, lo, none⟩) ln lc]).alloc (.cells #[.int .i64 ((m : Int) + 1), .slice (some ⟨b, o, none⟩) l.length cap] 80)).alloc (.cells #[.int .i64 0, .slice none 0 0] 80))
 have w1 := ((RowV.new_at (w.alloc (.cells #[.slice (some ⟨lb, lo, none⟩) ln lc] 146)) 80 (w.heap.size + 1) [.int .i64 ((m : Int) + 1), .slice (some ⟨b, o, none⟩) l.length cap] (by simp)).alloc (.cells #[.int .i64 0, .slice none 0 0] 80))
 have w2 := RowV.new_at ((w.alloc (.cells #[.slice (some ⟨lb, lo, none⟩) ln lc] 146)).alloc (.cells #[.int .i64 ((m : Int) + 1), .slice (some ⟨b, o, none⟩) l.length cap] 80)) 80 (w.heap.size + 1 + 1) [.int .i64 0, .slice none 0 0] (by simp)
 go_enter Tryz.func125, Tryz.ntmps125
 go_wp2
 generalize ((w.alloc (.cells #[.slice (some ⟨lb, lo, none⟩) ln lc] 146)).alloc (.cells #[.int .i64 ((m : Int) + 1), .slice (some ⟨b, o, none⟩) l.length cap] 80)).alloc (.cells #[.int .i64 0, .slice none 0 0] 80) = W at *
 have y2 : W.cell? ⟨b, o + i * 3 + 2, none⟩ = some (.int .i64 (j : Int)) := by rw [HW.out.cell (p := ⟨b, o + i * 3 + 2, none⟩) hb]; exact x2
 have y0 : W.cell? ⟨lb, lo + m, none⟩ = some (.slice (some ⟨pb, po, none⟩) sn sc) := by rw [HW.out.cell (p := ⟨lb, lo + m, none⟩) hlb]; exact c0
 have z0 : W.cell? ⟨pb, po + j * 2, none⟩ = some (.int .i64 (m : Int)) := by rw [HW.out.cell (p := ⟨pb, po + j * 2, none⟩) hpb]; exact d0
 have z1 : W.cell? ⟨pb, po + j * 2 + 1, none⟩ = some (.slice q.1.a q.1.n q.1.cap) := by rw [HW.out.cell (p := ⟨pb, po + j * 2 + 1, none⟩) hpb]; exact d1
 have t0 := w0.cell 0 (by simp)
 have u0 := w1.cell 0 (by simp)
 have u1 := w1.cell 1 (by simp)
 have v0 := w2.cell 0 (by simp)
 have v1 := w2.cell 1 (by simp)
 have f0 := w2.frozen 0
 have f1 := w2.frozen 1
 simp only [List.getElem_cons_zero, List.getElem_cons_succ] at t0 u0 u1 v0 v1
 have W2 : Hid (RowV W (w.heap.size + 1 + 1) 80 [.int .i64 0, .slice none 0 0]) := w2
 clear w0 w1 w2 x2 c0 d0 d1
 go_region
 go_wp2
 have R2 : RowV ((W.setCell ⟨w.heap.size + 1 + 1, 0, none⟩ (.int .i64 (m : Int))).setCell ⟨w.heap.size + 1 + 1, 1, none⟩ (.slice q.1.a q.1.n q.1.cap)) (w.heap.size + 1 + 1) 80 [.int .i64 (m : Int), .slice q.1.a q.1.n q.1.cap] := by
  simpa using (W2.out.set 0 (.int .i64 (m : Int))).set 1 (.slice q.1.a q.1.n q.1.cap)
 exact ret_agg (k := 6) (cs := [.int .i64 (m : Int), .slice q.1.a q.1.n q.1.cap]) rfl rfl R2 Tryz.underlying80 rfl Tryz.sizePage rfl ⟨rfl, ((HW.out.setCell (by show w.heap.size ≤ w.heap.size + 1 + 1; omega) _).setCell (by show w.heap.size ≤ w.heap.size + 1 + 1; omega) _).drew⟩
end Go.Proofs.YtekegfbjbainhaaGreat


namespace Go.Proofs.YtekegfbjbainhaaGreat
open Go.RowKit
def pageAt (lvls : List (List (List ItR))) (n j : Nat) : List ItR := ((lvls[n]?.getD [])[j]?).getD []
def belowAt (p : List ItR) (i : Nat) : Nat := (p[i]?.map (·.below)).getD 0
def rangeF (lvls : List (List (List ItR))) (fr tu : List UInt8) : Nat → List ItR → List UInt8
 | 0, p => frameB 0 p
 | n + 1, p => frameB (n + 1) p ++ (List.range p.length).flatMap (fun i => if withB p i fr tu = true then rangeF lvls fr tu n (pageAt lvls n (belowAt p i)) else [])
def pointF (lvls : List (List (List ItR))) (key : List UInt8) : Nat → List ItR → List UInt8
 | 0, p => frameB 0 p
 | n + 1, p => frameB (n + 1) p ++ (if placeN p key < p.length then pointF lvls key n (pageAt lvls n (belowAt p (placeN p key))) else [])
def behindF (lvls : List (List (List ItR))) (fr tu : List UInt8) (n : Nat) (p : List ItR) (k : Nat) : List UInt8 := (List.range k).flatMap (fun i => if withB p i fr tu = true then rangeF lvls fr tu n (pageAt lvls n (belowAt p i)) else [])
theorem rangeF_succ (lvls : List (List (List ItR))) (fr tu : List UInt8) (n : Nat) (p : List ItR) : rangeF lvls fr tu (n + 1) p = frameB (n + 1) p ++ behindF lvls fr tu n p p.length := rfl
theorem behind_zero (lvls : List (List (List ItR))) (fr tu : List UInt8) (n : Nat) (p : List ItR) : behindF lvls fr tu n p 0 = [] := rfl
theorem behind_yes (lvls : List (List (List ItR))) (fr tu : List UInt8) (n : Nat) (p : List ItR) (k : Nat) (h : withB p k fr tu = true) : behindF lvls fr tu n p (k + 1) = behindF lvls fr tu n p k ++ rangeF lvls fr tu n (pageAt lvls n (belowAt p k)) := by
 unfold behindF
 rw [List.range_succ, List.flatMap_append]
 simp [h]
theorem behind_no (lvls : List (List (List ItR))) (fr tu : List UInt8) (n : Nat) (p : List ItR) (k : Nat) (h : withB p k fr tu = false) : behindF lvls fr tu n p (k + 1) = behindF lvls fr tu n p k := by
 unfold behindF
 rw [List.range_succ, List.flatMap_append]
 simp [h]
theorem behind_le (lvls : List (List (List ItR))) (fr tu : List UInt8) (n : Nat) (p : List ItR) (k m : Nat) (h : k ≤ m) : (behindF lvls fr tu n p k).length ≤ (behindF lvls fr tu n p m).length := by
 obtain ⟨d, rfl⟩ := Nat.exists_eq_add_of_le h
 unfold behindF
 rw [List.range_add, List.flatMap_append, List.length_append]
 omega
def RiseK (l : List ItR) : Prop := l.Pairwise (fun x y => Op.bytesLess x.key y.key = true)
structure LvlsOk (lvls : List (List (List ItR))) : Prop where
 len : lvls.length ≤ 7
 cnt : ∀ (n : Nat) (ps : List (List ItR)), lvls[n]? = some ps → ps.length ≤ 61
 ok : ∀ (n : Nat) (ps : List (List ItR)), lvls[n]? = some ps → ∀ p ∈ ps, p.length ≤ 60 ∧ (∀ x ∈ p, ItOk x) ∧ RiseK p
 bel : ∀ (n : Nat) (ps up : List (List ItR)), lvls[n]? = some ps → lvls[n + 1]? = some up → ∀ p ∈ up, ∀ x ∈ p, x.below < ps.length ∧ x.key = lastK (ps[x.below]?.getD [])
theorem partF_flatten (level : Nat) : ∀ (r cur : List ItR), (partF level r cur).flatten = cur ++ r
 | [], cur => by simp [partF]
 | x :: r, cur => by
  unfold partF
  split
  ·rw [List.flatten_cons, partF_flatten level r []]; simp
  ·rw [partF_flatten level r (cur ++ [x])]; simp
theorem next_get (level : Nat) : ∀ (ps : List (List ItR)) (i k : Nat), (nextF level i ps)[k]? = ps[k]?.map (fun p => ⟨lastK p, digB (codeB level p), i + k⟩)
 | [], i, k => by simp [nextF]
 | p :: r, i, 0 => by simp [nextF]
 | p :: r, i, k + 1 => by
  unfold nextF
  rw [List.getElem?_cons_succ, next_get level r (i + 1) k, List.getElem?_cons_succ]
  have : i + 1 + k = i + (k + 1) := by omega
  rw [this]
theorem lastK_mem {p : List ItR} (h : p ≠ []) : ∃ x ∈ p, lastK p = x.key := by
 refine ⟨p.getLast h, List.getLast_mem h, ?_⟩
 unfold lastK
 rw [List.getLast?_eq_some_getLast h]
 rfl
theorem next_rise (level : Nat) : ∀ (ps : List (List ItR)) (i : Nat), ps.Pairwise (fun a b => ∀ x ∈ a, ∀ y ∈ b, Op.bytesLess x.key y.key = true) → (∀ p ∈ ps, p ≠ []) → RiseK (nextF level i ps)
 | [], _, _, _ => List.Pairwise.nil
 | p :: r, i, h, hne => by
  obtain ⟨h1, h2⟩ := List.pairwise_cons.1 h
  refine List.pairwise_cons.2 ⟨?_, next_rise level r (i + 1) h2 (fun q hq => hne q (by simp [hq]))⟩
  intro y hy
  obtain ⟨k, hk⟩ := List.getElem?_of_mem hy
  rw [next_get] at hk
  obtain ⟨q, hq, rfl⟩ := Option.map_eq_some_iff.1 hk
  have hqm := List.mem_of_getElem? hq
  obtain ⟨x, hx, ex⟩ := lastK_mem (hne p (by simp))
  obtain ⟨z, hz, ez⟩ := lastK_mem (hne q (by simp [hqm]))
  show Op.bytesLess (lastK p) (lastK q) = true
  rw [ex, ez]
  exact h1 q hqm x hx z hz
theorem parted_rise (level : Nat) (l : List ItR) (h : RiseK l) : (∀ p ∈ partedN level l, RiseK p) ∧ (partedN level l).Pairwise (fun a b => ∀ x ∈ a, ∀ y ∈ b, Op.bytesLess x.key y.key = true) := by
 have e : (partedN level l).flatten = l := by unfold partedN; rw [partF_flatten]; rfl
 unfold RiseK at h
 rw [← e, List.pairwise_flatten] at h
 exact h
theorem grownF_lv : ∀ (f level : Nat) (l : List ItR), RiseK l → (∀ x ∈ l, ItOk x) → l.length ≤ 60 →
  (∀ (n : Nat) (ps : List (List ItR)), (grownF f level l)[n]? = some ps → ps.length ≤ 61 ∧ ∀ p ∈ ps, p.length ≤ 60 ∧ (∀ x ∈ p, ItOk x) ∧ RiseK p) ∧
  (∀ (n : Nat) (ps up : List (List ItR)), (grownF f level l)[n]? = some ps → (grownF f level l)[n + 1]? = some up → ∀ p ∈ up, ∀ x ∈ p, x.below < ps.length ∧ x.key = lastK (ps[x.below]?.getD []))
 | 0, level, l, _, _, _ => by simp [grownF]
 | f + 1, level, l, hr, hok, h60 => by
  have hpl := partF_length level l []
  have hpart : (partedN level l).length ≤ 61 ∧ ∀ p ∈ partedN level l, p.length ≤ 60 ∧ (∀ x ∈ p, ItOk x) ∧ RiseK p := by
   refine ⟨by unfold partedN; omega, fun p hp => ⟨?_, fun x hx => ?_, (parted_rise level l hr).1 p hp⟩⟩
   ·have := partF_size level l [] p hp; simp at this; omega
   ·rcases partF_mem level l [] p hp x hx with h | h
    ·exact hok x h
    ·cases h
  unfold grownF
  by_cases h1 : (partedN level l).length = 1
  ·rw [if_pos h1]
   refine ⟨fun n ps h => ?_, fun n ps up h h' => ?_⟩
   ·cases n with
    | zero => simp at h; subst h; exact hpart
    | succ n => simp at h
   ·simp at h'
  ·rw [if_neg h1]
   have hne : l ≠ [] := fun e => by subst e; simp [partedN, partF] at h1
   have hpne : ∀ p ∈ partedN level l, p ≠ [] := partF_ne level l [] (Or.inl hne)
   have hb := partF_bound level l [] hne
   have hnl : (nextF level 0 (partedN level l)).length ≤ 60 := by
    have : ∀ (i : Nat) (ps : List (List ItR)), (nextF level i ps).length = ps.length := fun i ps => by
     induction ps generalizing i with
     | nil => rfl
     | cons p r ih => simp [nextF, ih]
    rw [this]; unfold partedN; omega
   have hnok : ∀ x ∈ nextF level 0 (partedN level l), ItOk x ∧ x.below < (partedN level l).length ∧ x.key = lastK ((partedN level l)[x.below]?.getD []) := fun x hx => by
    obtain ⟨k, hk⟩ := List.getElem?_of_mem hx
    rw [next_get] at hk
    obtain ⟨q, hq, rfl⟩ := Option.map_eq_some_iff.1 hk
    have hqm := List.mem_of_getElem? hq
    obtain ⟨z, hz, ez⟩ := lastK_mem (hpne q hqm)
    refine ⟨⟨?_, ?_⟩, ?_, ?_⟩
    ·show (lastK q).length ≤ 12
     rw [ez]
     exact ((hpart.2 q hqm).2.1 z hz).1
    ·show (digB _).length ≤ 12
     rw [digB_length]; omega
    ·show 0 + k < _
     rw [Nat.zero_add]
     exact (List.getElem?_eq_some_iff.1 hq).1
    ·show lastK q = lastK ((partedN level l)[0 + k]?.getD [])
     rw [Nat.zero_add, hq]; rfl
   obtain ⟨i1, i2⟩ := grownF_lv f (level + 1) (nextF level 0 (partedN level l)) (next_rise level _ 0 (parted_rise level l hr).2 hpne) (fun x hx => (hnok x hx).1) hnl
   refine ⟨fun n ps h => ?_, fun n ps up h h' => ?_⟩
   ·cases n with
    | zero => simp at h; subst h; exact hpart
    | succ n => rw [List.getElem?_cons_succ] at h; exact i1 n ps h
   ·cases n with
    | zero =>
     simp only [List.getElem?_cons_zero, Option.some.injEq] at h
     subst h
     rw [List.getElem?_cons_succ] at h'
     cases f with
     | zero => simp [grownF] at h'
     | succ f =>
      have hup : up = partedN (level + 1) (nextF level 0 (partedN level l)) := by
       unfold grownF at h'
       split at h'
       ·simpa using h'.symm
       ·simpa using h'.symm
      intro p hp x hx
      rw [hup] at hp
      rcases partF_mem (level + 1) _ [] p hp x hx with g | g
      ·exact (hnok x g).2
      ·cases g
    | succ n =>
     rw [List.getElem?_cons_succ] at h h'
     exact i2 n ps up h h'
theorem grown_lv (l : List ItR) (hr : RiseK l) (hok : ∀ x ∈ l, ItOk x) (h60 : l.length ≤ 60) : LvlsOk (grownN l) := by
 obtain ⟨h1, h2⟩ := grownF_lv 7 0 l hr hok h60
 exact ⟨(grownF_length 7 0 l (by omega)).2, fun n ps h => (h1 n ps h).1, fun n ps h => (h1 n ps h).2, h2⟩
theorem frameB_length (level : Nat) (l : List ItR) (h : ∀ x ∈ l, ItOk x) (h60 : l.length ≤ 60) : (frameB level l).length ≤ 1600 := by
 have := prefB_length level l.length l h
 unfold prefB at this
 unfold frameB codeB
 simp only [List.length_cons] at this ⊢
 omega
theorem pageAt_ok {lvls : List (List (List ItR))} (h : LvlsOk lvls) (n j : Nat) : (pageAt lvls n j).length ≤ 60 ∧ (∀ x ∈ pageAt lvls n j, ItOk x) ∧ RiseK (pageAt lvls n j) := by
 unfold pageAt
 cases e : lvls[n]? with
 | none => simp [RiseK]
 | some ps =>
  cases e2 : ps[j]? with
  | none => simp [e2, RiseK]
  | some p => simpa [e2] using h.ok n ps e p (List.mem_of_getElem? e2)
theorem flat_bound {α : Type} (f : Nat → List α) (B : Nat) : ∀ (k : Nat), (∀ i, (f i).length ≤ B) → ((List.range k).flatMap f).length ≤ k * B
 | 0, _ => by simp
 | k + 1, h => by
  have ih := flat_bound f B k h
  have := h k
  have e : (List.flatMap f [k]).length = (f k).length := by simp
  rw [List.range_succ, List.flatMap_append, List.length_append, Nat.add_mul, e]
  omega
theorem rangeF_length {lvls : List (List (List ItR))} (h : LvlsOk lvls) (fr tu : List UInt8) : ∀ (n : Nat) (p : List ItR), p.length ≤ 60 → (∀ x ∈ p, ItOk x) → (rangeF lvls fr tu n p).length ≤ 1600 * 61 ^ n
 | 0, p, h60, hok => by
  have := frameB_length 0 p hok h60
  simpa [rangeF] using this
 | n + 1, p, h60, hok => by
  have h1 := frameB_length (n + 1) p hok h60
  have h2 := flat_bound (fun i => if withB p i fr tu = true then rangeF lvls fr tu n (pageAt lvls n (belowAt p i)) else []) (1600 * 61 ^ n) p.length (fun i => by
   split
   ·exact rangeF_length h fr tu n _ (pageAt_ok h n _).1 (pageAt_ok h n _).2.1
   ·simp)
  have h3 : p.length * (1600 * 61 ^ n) ≤ 60 * (1600 * 61 ^ n) := Nat.mul_le_mul_right _ h60
  have h4 : 1600 ≤ 1600 * 61 ^ n := Nat.le_mul_of_pos_right _ (Nat.pow_pos (by omega))
  rw [rangeF, List.length_append, Nat.pow_succ]
  omega
theorem range_small {lvls : List (List (List ItR))} (h : LvlsOk lvls) (fr tu : List UInt8) (n : Nat) (hn : n ≤ 6) (p : List ItR) (h60 : p.length ≤ 60) (hok : ∀ x ∈ p, ItOk x) : (rangeF lvls fr tu n p).length ≤ 100000000000000 := by
 have h1 := rangeF_length h fr tu n p h60 hok
 have h2 : 61 ^ n ≤ 61 ^ 6 := Nat.pow_le_pow_right (by omega) hn
 have h3 : 1600 * 61 ^ n ≤ 1600 * 61 ^ 6 := Nat.mul_le_mul_left _ h2
 have h4 : 1600 * 61 ^ 6 ≤ 100000000000000 := by decide
 omega
theorem with_self {p : List ItR} (hr : RiseK p) (key : List UInt8) (i : Nat) (hi : i < p.length) (hplace : ∀ i (h : i < p.length), lessK key p[i] = decide (i < placeN p key)) : withB p i key key = decide (i = placeN p key) := by
 unfold withB
 rw [keyAt_lt hi]
 have h1 := hplace i hi
 unfold lessK at h1
 rw [h1]
 cases i with
 | zero => by_cases e : 0 = placeN p key <;> simp [e] <;> omega
 | succ j =>
  have h2 := hplace j (by omega)
  unfold lessK at h2
  rw [show j + 1 - 1 = j by omega, keyAt_lt (by omega : j < p.length), h2]
  by_cases e : j + 1 = placeN p key
  ·simp [e]; omega
  ·simp [e]; omega
theorem flat_single {α : Type} (f : Nat → List α) (m : Nat) : ∀ (k : Nat), (∀ i, i < k → i ≠ m → f i = []) → (List.range k).flatMap f = if m < k then f m else []
 | 0, _ => by simp
 | k + 1, h => by
  rw [List.range_succ, List.flatMap_append, flat_single f m k (fun i hi hm => h i (by omega) hm)]
  by_cases e : m = k
  ·subst e; simp
  ·have := h k (by omega) (fun e' => e e'.symm)
   by_cases hlt : m < k
   ·rw [if_pos hlt, if_pos (by omega)]; simp [this]
   ·rw [if_neg hlt, if_neg (by omega)]; simp [this]
theorem point_range {lvls : List (List (List ItR))} (h : LvlsOk lvls) (key : List UInt8) (hplace : ∀ (p : List ItR), RiseK p → ∀ i (h : i < p.length), lessK key p[i] = decide (i < placeN p key)) : ∀ (n : Nat) (p : List ItR), RiseK p → pointF lvls key n p = rangeF lvls key key n p
 | 0, p, _ => rfl
 | n + 1, p, hr => by
  unfold pointF rangeF
  rw [flat_single _ (placeN p key) p.length]
  ·split
   ·rename_i hlt
    rw [with_self hr key _ hlt (hplace p hr)]
    simp only [decide_true, if_true]
    rw [point_range h key hplace n _ (pageAt_ok h n _).2.2]
   ·rfl
  ·intro i hi hm
   rw [with_self hr key i hi (hplace p hr)]
   simp [hm]
end Go.Proofs.YtekegfbjbainhaaGreat
