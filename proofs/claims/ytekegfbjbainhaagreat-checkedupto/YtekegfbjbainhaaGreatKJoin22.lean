import Derived.Test.YtekegfbjbainhaaGreatKRefC3
import Derived.Test.YtekegfbjbainhaaGreatKJoin20
set_option linter.unusedVariables false
set_option linter.unusedSimpArgs false

namespace Go.Proofs.YtekegfbjbainhaaGreat
open Go.RowKit
attribute [local go_sem ↓] Go.wp_at_zero Go.wp_at_succ
def pgN (o : Option (List UInt8)) : Nat := 256 * oneV o + oneV (takeR 1 o)
def pgB (o : Option (List UInt8)) : List UInt8 := takeB (pgN o) (takeR 1 (takeR 1 o))
def pgO (o : Option (List UInt8)) (d : List UInt8) : Option ((Nat × List ItR) × List UInt8) :=
 match takeR (pgN o) (takeR 1 (takeR 1 o)) with
 | none => none
 | some r => match pageF (pgB o) with
  | none => none
  | some p => if digB (pgB o) = d then some (p, r) else none
def pgPost (w : World) (K : Nat → Prop) (rb : Nat) (o : Option (List UInt8)) (d : List UInt8) (e : Ending) (w' : World) : Prop :=
 ∃ (lvl : Nat) (cur : SlR), e = .returned (.agg #[.int .i64 (lvl : Int), cur.val]) ∧ lvl < 256 ∧ Frame (fun k => k = rb) w w' ∧ RdO w' K rb ((pgO o d).map (·.2)) ∧ ∀ lv its r, pgO o d = some ((lv, its), r) → lvl = lv ∧ OwnI w' w.heap.size cur.val its
theorem RdO.bad {w : World} {K : Nat → Prop} {rb : Nat} {o : Option (List UInt8)} (h : RdO w K rb o) : RdO (w.setCell ⟨rb, 1, none⟩ (.bool true)) K rb none := by
 obtain ⟨s, l, bad, h, e⟩ := h
 exact ⟨s, l, true, h.bad, rfl⟩
theorem pg_fin {w W : World} {K : Nat → Prop} {rb lvl : Nat} {cur : SlR} {o : Option (List UInt8)} (hQ : RowV W w.heap.size 80 [.int .i64 0, .slice none 0 0]) (hF : Frame (fun k => k = rb) w W) (hr : RdO W K rb o) (hrb : rb < w.heap.size) (hK : ∀ k, K k → k < w.heap.size) :
  RowV ((W.setCell ⟨w.heap.size, 0, none⟩ (.int .i64 (lvl : Int))).setCell ⟨w.heap.size, 1, none⟩ cur.val) w.heap.size 80 [.int .i64 (lvl : Int), cur.val] ∧ Frame (fun k => k = rb) w ((W.setCell ⟨w.heap.size, 0, none⟩ (.int .i64 (lvl : Int))).setCell ⟨w.heap.size, 1, none⟩ cur.val) ∧
   RdO ((W.setCell ⟨w.heap.size, 0, none⟩ (.int .i64 (lvl : Int))).setCell ⟨w.heap.size, 1, none⟩ cur.val) K rb o ∧ Frame (fun k => k = w.heap.size) W ((W.setCell ⟨w.heap.size, 0, none⟩ (.int .i64 (lvl : Int))).setCell ⟨w.heap.size, 1, none⟩ cur.val) := by
 have hf : Frame (fun k => k = w.heap.size) W ((W.setCell ⟨w.heap.size, 0, none⟩ (.int .i64 (lvl : Int))).setCell ⟨w.heap.size, 1, none⟩ cur.val) := ((Frame.refl (fun k => k = w.heap.size) W).setCell (p := ⟨w.heap.size, 0, none⟩) rfl _).setCell (p := ⟨w.heap.size, 1, none⟩) rfl _
 exact ⟨by simpa using (RowV.set hQ 0 (.int .i64 (lvl : Int))).set 1 cur.val, hF.inside hf (fun x hx e => by omega), hr.frame hf (by omega) (fun k hk => by have := hK k hk; omega), hf⟩
theorem pgO_bad {o : Option (List UInt8)} {d b : List UInt8} {o3 : Option (List UInt8)} (h1 : pgB o = b) (h2 : takeR (pgN o) (takeR 1 (takeR 1 o)) = o3) (h : pageF b = none ∨ digB b ≠ d) : pgO o d = none := by
 unfold pgO; rw [h1]
 cases takeR (pgN o) (takeR 1 (takeR 1 o)) with
 | none => rfl
 | some r =>
  rcases h with h | h
  ·simp only [h]
  ·cases pageF b with
   | none => rfl
   | some p => simp only [if_neg h]
set_option maxRecDepth 100000 in
set_option maxHeartbeats 4000000 in
theorem rpage_any (K : Nat → Prop) (rb : Nat) (o : Option (List UInt8)) (d : List UInt8) (w : World) (h : RdO w K rb o) (hK : ∀ k, K k → k < w.heap.size) :
  Calls Tryz.prog 32 #[.pointer (some ⟨rb, 0, none⟩), .string ⟨d.toArray⟩] w (pgPost w K rb o d) := by
 have hA : Below w.heap.size w (w.alloc (.cells #[.int .i64 0, .slice none 0 0] 80)) := (Below.refl _ _).alloc (Nat.le_refl _) _
 have hrb := h.lt
 have HON : Hid (Calls _ _ _ _ _) := one_any K rb o _ (h.below hA)
 have HF0 : Hid (Frame (fun k => k = rb) w (w.alloc (.cells #[.int .i64 0, .slice none 0 0] 80))) := Frame.of_below_all hA
 have HQ0 : Hid (RowV (w.alloc (.cells #[.int .i64 0, .slice none 0 0] 80)) w.heap.size 80 [.int .i64 0, .slice none 0 0]) := RowV.new w _ _
 have HK : Hid (∀ k, K k → k < w.heap.size) := hK
 have HP : Hid (∀ a1 a2, oneV o = a1 → oneV (takeR 1 o) = a2 → pgN o = 256 * a1 + a2) := fun a1 a2 e1 e2 => by unfold pgN; rw [e1, e2]
 clear h hK hA
 go_enter Tryz.func32, Tryz.ntmps32
 go_wp2_with fail
 refine HON.out.mono ?_
 rintro e w1 ⟨rfl, hf1, hz1, hr1⟩
 have HF1 : Hid (Frame (fun k => k = rb) w w1) := HF0.out.trans hf1
 have HQ1 : Hid (RowV w1 w.heap.size 80 [.int .i64 0, .slice none 0 0]) := RowV.of_block HQ0.out (hf1.block _ (RowV.lt HQ0.out) (by omega))
 have hx1 := oneV_lt o
 have HON2 : Hid (Calls _ _ _ _ _) := one_any K rb (takeR 1 o) w1 hr1
 have hx2 := oneV_lt (takeR 1 o)
 generalize oneV o = a1 at *
 generalize oneV (takeR 1 o) = a2 at *
 have hw1 : IntKind.i64.wrap (256 * (a1 : Int)) = ((256 * a1 : Nat) : Int) := by simp only [IntKind.wrap_i64]; omega
 have hw2 : IntKind.i64.wrap (((256 * a1 : Nat) : Int) + (a2 : Int)) = ((256 * a1 + a2 : Nat) : Int) := by simp only [IntKind.wrap_i64]; omega
 have HPN : Hid (pgN o = 256 * a1 + a2) := HP.out a1 a2 rfl rfl
 clear HON HF0 HQ0 HP hf1 hz1 hr1
 go_wp2_with fail
 refine HON2.out.mono ?_
 rintro e w2 ⟨rfl, hf2, hz2, hr2⟩
 have HF2 : Hid (Frame (fun k => k = rb) w w2) := HF1.out.trans hf2
 have HQ2 : Hid (RowV w2 w.heap.size 80 [.int .i64 0, .slice none 0 0]) := RowV.of_block HQ1.out (hf2.block _ (RowV.lt HQ1.out) (by omega))
 have HSO : Hid (Calls _ _ _ _ _) := some_any K rb (256 * a1 + a2) (takeR 1 (takeR 1 o)) w2 hr2
 have hce : ((256 * a1 + a2 : Nat) : Int) = 256 * (a1 : Int) + (a2 : Int) := by omega
 rw [hce] at HSO
 have hw3 : IntKind.i64.wrap (256 * (a1 : Int) + (a2 : Int)) = 256 * (a1 : Int) + (a2 : Int) := by simp only [IntKind.wrap_i64]; omega
 clear HON2 HF1 HQ1 hf2 hz2 hr2 hw1 hw2 hce
 go_wp2_with fail
 refine HSO.out.mono ?_
 rintro e w3 ⟨s1, rfl, hf3, hz3, hs3, hr3⟩
 have HF3 : Hid (Frame (fun k => k = rb) w w3) := HF2.out.trans hf3
 have HQ3 : Hid (RowV w3 w.heap.size 80 [.int .i64 0, .slice none 0 0]) := RowV.of_block HQ2.out (hf3.block _ (RowV.lt HQ2.out) (by omega))
 have hbl := takeB_length (256 * a1 + a2) (takeR 1 (takeR 1 o))
 have HPB : Hid (pgB o = takeB (256 * a1 + a2) (takeR 1 (takeR 1 o))) := by unfold Hid pgB; rw [HPN.out]
 have HPR : Hid (takeR (pgN o) (takeR 1 (takeR 1 o)) = takeR (256 * a1 + a2) (takeR 1 (takeR 1 o))) := by unfold Hid; rw [HPN.out]
 generalize takeB (256 * a1 + a2) (takeR 1 (takeR 1 o)) = b at *
 generalize takeR (256 * a1 + a2) (takeR 1 (takeR 1 o)) = o3 at *
 obtain ⟨s', l', bad, hrd, ho⟩ := hr3
 have r1 : w3.cell? ⟨rb, 1, none⟩ = some (.bool bad) := RowV.cell hrd.row 1 (by simp)
 have HRD : Hid (RdO w3 K rb o3) := ⟨s', l', bad, hrd, ho⟩
 have HO : Hid (o3 = if bad then none else some l') := ho
 have HS3 : Hid (SubS w3 K s1 b) := hs3
 clear HSO HF2 HQ2 hf3 hz3 hs3 hw3 hrd ho
 unfold SlR.val
 cases bad with
 | true =>
  have HPO : Hid (pgO o d = none) := by unfold Hid pgO; rw [HPR.out, HO.out]; rfl
  have HRN : Hid (RdO w3 K rb none) := by have := HRD.out; rwa [HO.out] at this
  have q0 := HQ3.out.cell 0 (by simp)
  have q1 := HQ3.out.cell 1 (by simp)
  have gq0 := HQ3.out.frozen 0
  have gq1 := HQ3.out.frozen 1
  simp only [List.getElem_cons_zero, List.getElem_cons_succ] at q0 q1
  go_wp2
  have hf : Frame (fun k => k = w.heap.size) w3 ((w3.setCell ⟨w.heap.size, 0, none⟩ (.int .i64 0)).setCell ⟨w.heap.size, 1, none⟩ (.slice none 0 0)) := ((Frame.refl (fun k => k = w.heap.size) w3).setCell (p := ⟨w.heap.size, 0, none⟩) rfl _).setCell (p := ⟨w.heap.size, 1, none⟩) rfl _
  refine ret_agg (k := 4) (cs := [.int .i64 0, .slice none 0 0]) rfl rfl (by simpa using (RowV.set HQ3.out 0 (.int .i64 0)).set 1 (.slice none 0 0)) Tryz.underlying80 rfl Tryz.sizePage rfl ?_
  refine ⟨0, ⟨none, 0, 0⟩, rfl, by omega, HF3.out.inside hf (fun x hx e => by omega), ?_, ?_⟩
  ·rw [HPO.out]
   have := HRN.out.frame hf (by omega) (fun k hk => by have := HK.out k hk; omega)
   exact this
  ·intro lv its r e; rw [HPO.out] at e; cases e
 | false =>
  have HDC : Hid (Calls _ _ _ _ _) := decoded_any K s1 b w3 HS3.out (fun k hk => Nat.lt_of_lt_of_le (HK.out k hk) HF3.out.size)
  go_wp2_with fail
  refine HDC.out.mono ?_
  rintro e w4 ⟨lvl, cur, ok, rfl, hb4, hok, hlvl, hown⟩
  have HR4 : Hid (RdO w4 K rb (some l')) := by have := HRD.out.below hb4; rwa [HO.out] at this
  have HF4 : Hid (Frame (fun k => k = rb) w w4) := HF3.out.inside (Frame.of_below hb4) (fun x hx e => by have := HF3.out.size; omega)
  have HQ4 : Hid (RowV w4 w.heap.size 80 [.int .i64 0, .slice none 0 0]) := RowV.below HQ3.out (RowV.lt HQ3.out) hb4
  have HS4 : Hid (SubS w4 K s1 b) := HS3.out.below hb4
  have HOW : Hid (∀ (lv : Nat) (its : List ItR), pageF b = some (lv, its) → lvl = lv ∧ OwnI w4 w3.heap.size cur.val its) := hown
  have HOK : Hid (ok = (pageF b).isSome) := hok
  have HB5 : Hid (Below w4.heap.size w4 (w4.alloc (.cells #[.int .i64 (lvl : Int), cur.val] 80))) := (Below.refl _ _).alloc (Nat.le_refl _) _
  have hs5 := HS4.out.below HB5.out
  have HDG : Hid (Calls _ _ _ _ _) := refDigest_any s1.a s1.n s1.cap b _ hs5.bs.n (by unfold maxLen; omega) hs5.bs.sl
  have HP5 : Hid (RowV (w4.alloc (.cells #[.int .i64 (lvl : Int), cur.val] 80)) w4.heap.size 80 [.int .i64 (lvl : Int), cur.val]) := RowV.new w4 _ _
  obtain ⟨x0, x1, x2, x3, x4, x5, x6, x7, hdd⟩ := list8 (digB b) rfl
  have HV : Hid (digV b = .agg #[.int .u8 (x0.toNat : Int), .int .u8 (x1.toNat : Int), .int .u8 (x2.toNat : Int), .int .u8 (x3.toNat : Int), .int .u8 (x4.toNat : Int), .int .u8 (x5.toNat : Int), .int .u8 (x6.toNat : Int), .int .u8 (x7.toNat : Int)]) := by
   unfold Hid; rw [digV_eq, hdd]; rfl
  have HDD : Hid (digB b = [x0, x1, x2, x3, x4, x5, x6, x7]) := hdd
  have HF3Z : Hid (w.heap.size ≤ w3.heap.size) := HF3.out.size
  clear hb4 hok hown HDC HRD HF3 HQ3 HS3 hs5 hdd r1
  unfold SlR.val
  unfold SlR.val at HDG HB5 HP5
  go_wp2_with fail
  refine HDG.out.mono ?_
  rintro e w6 ⟨rfl, hb6⟩
  rw [HV.out]
  have HF6 : Hid (Frame (fun k => k = rb) w w6) := (HF4.out.inside (Frame.of_below HB5.out) (fun x hx e => by have := HF4.out.size; omega)).inside (Frame.of_below hb6) (fun x hx e => by have := HF4.out.size; have := HB5.out.size; omega)
  have HB6 : Hid (Below w4.heap.size w4 w6) := HB5.out.trans (hb6.mono HB5.out.size)
  have HP6 : Hid (RowV w6 w4.heap.size 80 [.int .i64 (lvl : Int), .slice cur.a cur.n cur.cap]) := RowV.below HP5.out (RowV.lt HP5.out) hb6
  have HQ6 : Hid (RowV w6 w.heap.size 80 [.int .i64 0, .slice none 0 0]) := RowV.below HQ4.out (RowV.lt HQ4.out) HB6.out
  have HR6 : Hid (RdO w6 K rb (some l')) := HR4.out.below HB6.out
  have hD8 : RowV (w6.alloc (.cells #[.int .u8 (x0.toNat : Int), .int .u8 (x1.toNat : Int), .int .u8 (x2.toNat : Int), .int .u8 (x3.toNat : Int), .int .u8 (x4.toNat : Int), .int .u8 (x5.toNat : Int), .int .u8 (x6.toNat : Int), .int .u8 (x7.toNat : Int)] 36)) w6.heap.size 36 ([x0, x1, x2, x3, x4, x5, x6, x7].map u8c) := RowV.new w6 36 ([x0, x1, x2, x3, x4, x5, x6, x7].map u8c)
  have hcv := run_string_SlB (P := Tryz.prog) (w6.alloc (.cells #[.int .u8 (x0.toNat : Int), .int .u8 (x1.toNat : Int), .int .u8 (x2.toNat : Int), .int .u8 (x3.toNat : Int), .int .u8 (x4.toNat : Int), .int .u8 (x5.toNat : Int), .int .u8 (x6.toNat : Int), .int .u8 (x7.toNat : Int)] 36)) 38 9 5 (some ⟨w6.heap.size, 0, none⟩) 8 8 [x0, x1, x2, x3, x4, x5, x6, x7] Tryz.underlying38 Tryz.underlying5 Tryz.underlying9 rfl (SlB.of_row hD8) (fun h => by cases h)
  have HB7 : Hid (Below w6.heap.size w6 (w6.alloc (.cells #[.int .u8 (x0.toNat : Int), .int .u8 (x1.toNat : Int), .int .u8 (x2.toNat : Int), .int .u8 (x3.toNat : Int), .int .u8 (x4.toNat : Int), .int .u8 (x5.toNat : Int), .int .u8 (x6.toNat : Int), .int .u8 (x7.toNat : Int)] 36))) := (Below.refl _ _).alloc (Nat.le_refl _) _
  have HR7 := HR6.out.below HB7.out
  have HP7 := RowV.below HP6.out (RowV.lt HP6.out) HB7.out
  have HQ7 := RowV.below HQ6.out (RowV.lt HQ6.out) HB7.out
  have HF7 : Hid (Frame (fun k => k = rb) w _) := HF6.out.inside (Frame.of_below HB7.out) (fun x hx e => by have := HF6.out.size; omega)
  have HB47 : Hid (Below w4.heap.size w4 _) := HB6.out.trans (HB7.out.mono HB6.out.size)
  have h4w : w.heap.size < w4.heap.size := by have := RowV.lt HQ4.out; omega
  clear HP6 HQ6 HF6 HB6 HB7 HP5 HB5 HDG HR6 hb6 hD8
  go_upto_region 8 with fail
  generalize w6.alloc (.cells #[.int .u8 (x0.toNat : Int), .int .u8 (x1.toNat : Int), .int .u8 (x2.toNat : Int), .int .u8 (x3.toNat : Int), .int .u8 (x4.toNat : Int), .int .u8 (x5.toNat : Int), .int .u8 (x6.toNat : Int), .int .u8 (x7.toNat : Int)] 36) = W7 at *
  obtain ⟨s', l'', bad, hrd, ho⟩ := HR7
  obtain ⟨rfl, rfl⟩ : bad = false ∧ l'' = l' := by
   cases bad with
   | true => simp at ho
   | false => simp at ho; exact ⟨rfl, ho.symm⟩
  have HRA : Hid (RdAt W7 K rb s' l'' false) := hrd
  have hr1 : W7.cell? ⟨rb, 1, none⟩ = some (.bool false) := RowV.cell hrd.row 1 (by simp)
  have fr1 := hrd.row.frozen 1
  have p0 := HP7.cell 0 (by simp)
  have p1 := HP7.cell 1 (by simp)
  have q0 := HQ7.cell 0 (by simp)
  have q1 := HQ7.cell 1 (by simp)
  have gq0 := HQ7.frozen 0
  have gq1 := HQ7.frozen 1
  simp only [List.getElem_cons_zero, List.getElem_cons_succ] at p0 p1 q0 q1
  have HQ8 : Hid (RowV W7 w.heap.size 80 [.int .i64 0, .slice none 0 0]) := HQ7
  have hne1 : w.heap.size ≠ rb := by omega
  have hne2 : rb ≠ w.heap.size := by omega
  have hne3 : w4.heap.size ≠ rb := by omega
  have hne4 : w4.heap.size ≠ w.heap.size := by omega
  clear hrd ho HP7 HQ7 HQ4 HR4 HS4
  cases ok with
  | false =>
   have HPO : Hid (pgO o d = none) := pgO_bad HPB.out HPR.out (Or.inl (by have := HOK.out; cases h : pageF b with | none => rfl | some p => rw [h] at this; cases this))
   go_wp2
   have hfb : Frame (fun k => k = rb) W7 (W7.setCell ⟨rb, 1, none⟩ (.bool true)) := (Frame.refl (fun k => k = rb) _).setCell (p := ⟨rb, 1, none⟩) rfl _
   have hfin := pg_fin (lvl := lvl) (cur := cur) (RowV.of_block HQ8.out (hfb.block _ (RowV.lt HQ8.out) hne1)) (HF7.out.trans hfb) ⟨s', l'', true, HRA.out.bad, rfl⟩ hrb HK.out
   refine ret_agg (k := 4) (cs := [.int .i64 (lvl : Int), .slice cur.a cur.n cur.cap]) rfl rfl hfin.1 Tryz.underlying80 rfl Tryz.sizePage rfl ?_
   refine ⟨lvl, cur, rfl, hlvl, hfin.2.1, ?_, ?_⟩
   ·rw [HPO.out]; exact hfin.2.2.1
   ·intro lv its r e; rw [HPO.out] at e; cases e
  | true =>
   by_cases hdq : digB b = d
   ·have hde : d = [x0, x1, x2, x3, x4, x5, x6, x7] := by rw [← hdq, HDD.out]
    have HDQ : Hid (digB b = d) := hdq
    clear hdq
    have HPO : Hid (∃ p, pageF b = some p ∧ pgO o d = some (p, l'')) := by
     unfold Hid
     cases h : pageF b with
     | none => have := HOK.out; rw [h] at this; cases this
     | some p => exact ⟨p, rfl, by unfold pgO; rw [HPB.out, HPR.out, HO.out]; simp only [h, HDQ.out]; rfl⟩
    subst hde
    go_wp2
    have hfin := pg_fin (lvl := lvl) (cur := cur) HQ8.out HF7.out ⟨s', l'', false, HRA.out, rfl⟩ hrb HK.out
    refine ret_agg (k := 4) (cs := [.int .i64 (lvl : Int), .slice cur.a cur.n cur.cap]) rfl rfl hfin.1 Tryz.underlying80 rfl Tryz.sizePage rfl ?_
    obtain ⟨p, hp1, hp2⟩ := HPO.out
    refine ⟨lvl, cur, rfl, hlvl, hfin.2.1, ?_, ?_⟩
    ·rw [hp2]; exact hfin.2.2.1
    ·intro lv its r e
     rw [hp2] at e
     simp only [Option.some.injEq, Prod.mk.injEq] at e
     obtain ⟨rfl, rfl⟩ := e
     obtain ⟨e1, h2⟩ := HOW.out lv its hp1
     refine ⟨e1, ?_⟩
     have h3 := owns_base (base' := w.heap.size) (owns_below h2 HB47.out) (fun k hk => Nat.le_trans HF3Z.out (h2.lt k hk).1)
     exact owns_frame h3 hfin.2.2.2 (fun k hk e => owns_ne h3 HQ8.out (by decide) (by rw [hk, e]))
   ·have HPO : Hid (pgO o d = none) := pgO_bad HPB.out HPR.out (Or.inr hdq)
    have hde : ([x0, x1, x2, x3, x4, x5, x6, x7] == d) = false := by rw [← HDD.out]; simpa using hdq
    clear hdq
    go_wp2
    have hfb : Frame (fun k => k = rb) W7 (W7.setCell ⟨rb, 1, none⟩ (.bool true)) := (Frame.refl (fun k => k = rb) _).setCell (p := ⟨rb, 1, none⟩) rfl _
    have hfin := pg_fin (lvl := lvl) (cur := cur) (RowV.of_block HQ8.out (hfb.block _ (RowV.lt HQ8.out) hne1)) (HF7.out.trans hfb) ⟨s', l'', true, HRA.out.bad, rfl⟩ hrb HK.out
    refine ret_agg (k := 4) (cs := [.int .i64 (lvl : Int), .slice cur.a cur.n cur.cap]) rfl rfl hfin.1 Tryz.underlying80 rfl Tryz.sizePage rfl ?_
    refine ⟨lvl, cur, rfl, hlvl, hfin.2.1, ?_, ?_⟩
    ·rw [HPO.out]; exact hfin.2.2.1
    ·intro lv its r e; rw [HPO.out] at e; cases e
end Go.Proofs.YtekegfbjbainhaaGreat


namespace Go.Proofs.YtekegfbjbainhaaGreat
open Go.RowKit
def it0 : ItR := ⟨[], [], 0⟩
def selE (p : List ItR) (fr tu : List UInt8) (k : Nat) : List ItR := (List.range k).flatMap (fun i => if withB p i fr tu = true then [p.getD i it0] else [])
theorem selE_yes (p : List ItR) (fr tu : List UInt8) (k : Nat) (h : withB p k fr tu = true) : selE p fr tu (k + 1) = selE p fr tu k ++ [p.getD k it0] := by
 unfold selE
 rw [List.range_succ, List.flatMap_append]
 simp [h]
theorem selE_no (p : List ItR) (fr tu : List UInt8) (k : Nat) (h : withB p k fr tu = false) : selE p fr tu (k + 1) = selE p fr tu k := by
 unfold selE
 rw [List.range_succ, List.flatMap_append]
 simp [h]
def stepU (rec : List ItR → List UInt8 → Option (List ItR × List UInt8)) (lv : Nat) (s : List ItR × List UInt8) (x : ItR) : Option (List ItR × List UInt8) :=
 match pgO (some s.2) x.more with
 | none => none
 | some ((l, its), r) => if l = lv then (rec its r).map (fun e => (s.1 ++ e.1, e.2)) else none
def readU (fr tu : List UInt8) : Nat → List ItR → List UInt8 → Option (List ItR × List UInt8)
 | 0, its, r => some (its, r)
 | lv + 1, its, r => (selE its fr tu its.length).foldlM (stepU (readU fr tu lv) lv) ([], r)
def chkF (key : List UInt8) : Nat → List ItR → List UInt8 → Option ((Nat × List ItR) × List UInt8)
 | 0, its, r => some ((0, its), r)
 | lv + 1, its, r => if placeN its key < its.length then (match pgO (some r) (its.getD (placeN its key) it0).more with
  | none => none
  | some ((l, its'), r') => if l = lv then chkF key lv its' r' else none) else some ((lv + 1, its), r)
def ansF (key : List UInt8) : Option ((Nat × List ItR) × List UInt8) → Option (Option (List UInt8))
 | none => none
 | some ((lv, its), r) => if r = [] then some (if lv = 0 then (its.find? (fun x => x.key == key)).map (·.more) else none) else none
def checkF (root key proof : List UInt8) : Option (Option (List UInt8)) :=
 match pgO (some proof) root with
 | none => none
 | some ((lv, its), r) => ansF key (chkF key lv its r)
def inR (fr tu : List UInt8) (x : ItR) : Bool := !(Op.bytesLess x.key fr) && Op.bytesLess x.key tu
def rangeC (root fr tu proof : List UInt8) : Option (List ItR) :=
 match pgO (some proof) root with
 | none => none
 | some ((lv, its), r) => match readU fr tu lv its r with
  | none => none
  | some (es, r') => if r' = [] then some (es.filter (inR fr tu)) else none
structure PageOk (lv : Nat) (its : List ItR) : Prop where
 le6 : lv ≤ 6
 len : its.length ≤ 60
 rise : RiseK its
 key : ∀ x ∈ its, 1 ≤ x.key.length ∧ x.key.length ≤ 12
 low : lv = 0 → ∀ x ∈ its, x.more.length ≤ 12
 high : lv ≠ 0 → ∀ x ∈ its, x.more.length = 8
theorem takeB_some {n : Nat} {o : Option (List UInt8)} {r : List UInt8} (h : takeR n o = some r) : (takeB n o).length = n := by
 cases o with
 | none => cases h
 | some l =>
  have h' : (if n ≤ l.length then some (l.drop n) else none) = some r := h
  show (if n ≤ l.length then l.take n else []).length = n
  split at h'
  ·rename_i hn; rw [if_pos hn, List.length_take]; omega
  ·cases h'
theorem rise_push {its : List ItR} {x : ItR} (h : RiseK its) (hb : behindK its x.key = true) : RiseK (its ++ [x]) := by
 unfold RiseK at *
 rw [List.pairwise_append]
 refine ⟨h, List.pairwise_singleton _ _, fun a ha b hb' => ?_⟩
 simp only [List.mem_singleton] at hb'
 subst hb'
 obtain ⟨l, y, rfl⟩ : ∃ l y, its = l ++ [y] := by
  rcases List.eq_nil_or_concat its with rfl | ⟨l, y, rfl⟩
  ·cases ha
  ·exact ⟨l, y, by simp⟩
 have hy : Op.bytesLess y.key b.key = true := by simpa [behindK] using hb
 rcases List.mem_append.1 ha with hl | hl
 ·have := (List.pairwise_append.1 h).2.2 a hl y (by simp)
  exact less_trans this hy
 ·simp only [List.mem_singleton] at hl; subst hl; exact hy
theorem itemsO_ok (lv : Nat) : ∀ (n : Nat) (its : List ItR) (o : Option (List UInt8)) (res : List ItR), itemsO lv n its o = some res → RiseK its → (∀ x ∈ its, (1 ≤ x.key.length ∧ x.key.length ≤ 12) ∧ (lv = 0 → x.more.length ≤ 12) ∧ (lv ≠ 0 → x.more.length = 8)) →
  RiseK res ∧ res.length = its.length + n ∧ ∀ x ∈ res, (1 ≤ x.key.length ∧ x.key.length ≤ 12) ∧ (lv = 0 → x.more.length ≤ 12) ∧ (lv ≠ 0 → x.more.length = 8)
 | 0, its, o, res, h, h1, h2 => by
  unfold itemsO at h
  split at h
  ·cases h; exact ⟨h1, by simp, h2⟩
  ·cases h
 | n + 1, its, none, res, h, h1, h2 => by rw [itemsO_none] at h; cases h
 | n + 1, its, some l, res, h, h1, h2 => by
  unfold itemsO at h
  split at h
  case isFalse => cases h
  case isTrue hf =>
   have hr : ∃ r, entR lv (some l) = some r := by
    cases e : entR lv (some l) with
    | none => rw [e, itemsO_none] at h; cases h
    | some r => exact ⟨r, rfl⟩
   obtain ⟨r, hr⟩ := hr
   have ho : ∃ r2, entO (some l) = some r2 := by
    cases e : entO (some l) with
    | none => unfold entR at hr; rw [e] at hr; split at hr <;> cases hr
    | some r => exact ⟨r, rfl⟩
   obtain ⟨r2, ho⟩ := ho
   have hk : (entK (some l)).length = oneV (some l) := by unfold entK; unfold entO at ho; exact takeB_some ho
   unfold entFine at hf
   simp only [Bool.and_eq_true, decide_eq_true_eq, Bool.not_eq_true', Bool.and_eq_false_iff] at hf
   obtain ⟨⟨⟨hf0, hf1⟩, hf2⟩, hf3⟩ := hf
   have := itemsO_ok lv n _ _ res h (rise_push h1 hf3) (fun x hx => by
    rcases List.mem_append.1 hx with hx | hx
    ·exact h2 x hx
    ·simp only [List.mem_singleton] at hx; subst hx
     refine ⟨by show 1 ≤ (entK (some l)).length ∧ (entK (some l)).length ≤ 12; omega, fun e => ?_, fun e => ?_⟩
     ·subst e
      show (entM 0 (some l)).length ≤ 12
      have e1 : entM 0 (some l) = takeB (oneV (entO (some l))) (takeR 1 (entO (some l))) := by unfold entM; rw [if_pos rfl]
      rw [e1]
      have := takeB_length (oneV (entO (some l))) (takeR 1 (entO (some l)))
      rcases hf0 with hf0 | hf0
      ·simp at hf0
      ·have : ¬ 12 < oneV (entO (some l)) := by simpa using hf0
       omega
     ·show (entM lv (some l)).length = 8
      have e1 : entM lv (some l) = takeB 8 (entO (some l)) := by unfold entM; rw [if_neg e]
      rw [e1]
      unfold entR at hr; rw [if_neg e] at hr
      exact takeB_some hr)
   refine ⟨this.1, by rw [this.2.1]; simp; omega, this.2.2⟩
theorem pageF_ok {b : List UInt8} {lv : Nat} {its : List ItR} (h : pageF b = some (lv, its)) : PageOk lv its := by
 unfold pageF at h
 split at h
 case isFalse => cases h
 case isTrue hc =>
  cases e : itemsO (oneV (some b)) (oneV (takeR 1 (some b))) [] (takeR 1 (takeR 1 (some b))) with
  | none => rw [e] at h; cases h
  | some l =>
   rw [e] at h
   simp only [Option.map_some, Option.some.injEq, Prod.mk.injEq] at h
   obtain ⟨rfl, rfl⟩ := h
   obtain ⟨h1, h2, h3⟩ := itemsO_ok _ _ [] _ l e List.Pairwise.nil (fun x hx => by cases hx)
   exact ⟨hc.1, by rw [h2]; simp; omega, h1, fun x hx => (h3 x hx).1, fun e x hx => (h3 x hx).2.1 e, fun e x hx => (h3 x hx).2.2 e⟩
theorem pgO_ok {o : Option (List UInt8)} {d : List UInt8} {lv : Nat} {its : List ItR} {r : List UInt8} (h : pgO o d = some ((lv, its), r)) : PageOk lv its := by
 unfold pgO at h
 split at h
 ·cases h
 ·split at h
  ·cases h
  ·rename_i p hp
   split at h
   ·simp only [Option.some.injEq, Prod.mk.injEq] at h
    rw [h.1] at hp
    exact pageF_ok hp
   ·cases h
theorem selE_self {p : List ItR} (hr : RiseK p) (key : List UInt8) : selE p key key p.length = if placeN p key < p.length then [p.getD (placeN p key) it0] else [] := by
 unfold selE
 rw [flat_single _ (placeN p key) p.length]
 ·split
  ·rename_i hlt
   rw [with_self hr key _ hlt (rising_place p key hr)]
   simp
  ·rfl
 ·intro i hi hm
  rw [with_self hr key i hi (rising_place p key hr)]
  simp [hm]
theorem chk_read (key : List UInt8) : ∀ (lv : Nat) (its : List ItR) (r : List UInt8), RiseK its → readU key key lv its r = (chkF key lv its r).map (fun q => (if q.1.1 = 0 then q.1.2 else [], q.2))
 | 0, its, r, _ => rfl
 | lv + 1, its, r, h => by
  unfold readU chkF
  rw [selE_self h]
  split
  ·simp only [List.foldlM_cons, List.foldlM_nil]
   unfold stepU
   cases e : pgO (some r) (its.getD (placeN its key) it0).more with
   | none => rfl
   | some q =>
    obtain ⟨⟨l, its'⟩, r'⟩ := q
    simp only
    by_cases hl : l = lv
    ·subst hl
     simp only [if_true]
     rw [chk_read key l its' r' (pgO_ok e).rise]
     cases chkF key l its' r' <;> simp
    ·simp only [if_neg hl]; rfl
  ·simp
end Go.Proofs.YtekegfbjbainhaaGreat
