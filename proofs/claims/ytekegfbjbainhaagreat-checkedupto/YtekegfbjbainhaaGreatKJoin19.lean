import Derived.Test.YtekegfbjbainhaaGreatKJoin18
import Derived.Deep.RegionHeld3
import Derived.Deep.DrawnRows
import Derived.Test.YtekegfbjbainhaaGreatKJoin14
set_option linter.unusedVariables false
set_option linter.unusedSimpArgs false

namespace Go.Proofs.YtekegfbjbainhaaGreat
open Go.RowKit
structure RPage (lvls : List LevR) (n j : Nat) (s : SlR) (ps : List (SlR × List ItR)) (q : SlR × List ItR) : Prop where
 lv : lvls[n]? = some (s, ps)
 pg : ps[j]? = some q
theorem RPage.page {lvls : List LevR} {n j : Nat} {s : SlR} {ps : List (SlR × List ItR)} {q : SlR × List ItR} (h : RPage lvls n j s ps q) : pageAt (lvN lvls) n j = q.2 ∧ (lvN lvls)[n]? = some (ps.map (·.2)) := by
 have e : (lvN lvls)[n]? = some (ps.map (·.2)) := by
  unfold lvN
  rw [List.getElem?_map, h.lv]; rfl
 refine ⟨?_, e⟩
 unfold pageAt
 rw [e]
 simp [h.pg]
theorem RPage.ok {lvls : List LevR} {n j : Nat} {s : SlR} {ps : List (SlR × List ItR)} {q : SlR × List ItR} (h : RPage lvls n j s ps q) (hL : LvlsOk (lvN lvls)) : q.2.length ≤ 60 ∧ (∀ x ∈ q.2, ItOk x) ∧ RiseK q.2 := by
 have := pageAt_ok hL n j
 rw [h.page.1] at this
 exact this
theorem RPage.sl {lvls : List LevR} {n j : Nat} {s : SlR} {ps : List (SlR × List ItR)} {q : SlR × List ItR} (h : RPage lvls n j s ps q) {w : World} {base : Nat} {lv : SlR} (hR : RTree w base lv lvls) : SlI w q.1.a q.2 ∧ q.1.n = q.2.length := by
 have hn := (List.getElem?_eq_some_iff.1 h.lv).1
 have h1 := hR.ok n hn
 rw [(List.getElem?_eq_some_iff.1 h.lv).2] at h1
 exact SlV.ofOwn (s := q.1) (h1.2 q (List.mem_of_getElem? h.pg))
theorem RPage.down {lvls : List LevR} {n j : Nat} {s : SlR} {ps : List (SlR × List ItR)} {q : SlR × List ItR} (h : RPage lvls (n + 1) j s ps q) (hL : LvlsOk (lvN lvls)) (i : Nat) (hi : i < q.2.length) : ∃ s' ps' q', RPage lvls n (q.2[i].below) s' ps' q' ∧ pageAt (lvN lvls) n (belowAt q.2 i) = q'.2 ∧ ps'.length ≤ 61 := by
 have hn := (List.getElem?_eq_some_iff.1 h.lv).1
 obtain ⟨s', ps', e0⟩ : ∃ s' ps', lvls[n]? = some (s', ps') := ⟨(lvls[n]'(by omega)).1, (lvls[n]'(by omega)).2, by rw [List.getElem?_eq_getElem (by omega)]⟩
 have e1 : (lvN lvls)[n]? = some (ps'.map (·.2)) := by
  unfold lvN
  rw [List.getElem?_map, e0]; rfl
 have hb := (hL.bel n _ _ e1 h.page.2 q.2 (List.mem_of_getElem? (by rw [List.getElem?_map, h.pg]; rfl)) q.2[i] (List.getElem_mem hi)).1
 rw [List.length_map] at hb
 refine ⟨s', ps', ps'[q.2[i].below], ⟨e0, List.getElem?_eq_getElem hb⟩, ?_, by have := hL.cnt n _ e1; simpa using this⟩
 have e2 : belowAt q.2 i = q.2[i].below := by unfold belowAt; rw [List.getElem?_eq_getElem hi]; rfl
 rw [e2]
 exact (RPage.page ⟨e0, List.getElem?_eq_getElem hb⟩).1
structure RanSt (w : World) (T P : List Value) (W : World) : Prop where
 bel : Below w.heap.size w W
 tr : RowV W w.heap.size 146 T
 pg : RowV W (w.heap.size + 1) 80 P
theorem RanSt.next {w W W' : World} {T P : List Value} (h : RanSt w T P W) (hb : Below W.heap.size W W') : RanSt w T P W' := ⟨h.bel.trans (hb.mono h.bel.size), h.tr.below h.tr.lt hb, h.pg.below h.pg.lt hb⟩
theorem RanSt.drew {w W : World} {T P : List Value} (h : RanSt w T P W) : RanSt w T P W.drew := ⟨h.bel.drew, h.tr, h.pg⟩
theorem RanSt.frame {w W W' : World} {T P : List Value} {v : Value} {l : List UInt8} {base : Nat} (h : RanSt w T P W) (ho : OwnB W base v l) (hb : w.heap.size ≤ base) (hf : Frame (fun k => v.ownBlock = some k) W W') : RanSt w T P W' :=
 ⟨h.bel.trans (hf.below h.bel.size (fun k hk => by have := (ho.lt k hk).1; omega)), h.tr.of_block (hf.block _ h.tr.lt (fun e => owns_ne ho h.tr (by decide) e)), h.pg.of_block (hf.block _ h.pg.lt (fun e => owns_ne ho h.pg (by decide) e))⟩
theorem below_drew1 {B : Nat} {w w' : World} (h : Below B w.drew w') : Below B w w' := ⟨h.os, h.tape, h.output, h.size, h.block⟩
attribute [local go_sem ↓] Go.wp_at_zero Go.wp_at_succ
set_option maxRecDepth 100000 in
set_option maxHeartbeats 2000000 in
theorem refRange_any (lv : SlR) (lvls : List LevR) (base : Nat) (fr tu : List UInt8) (hL : LvlsOk (lvN lvls)) : ∀ (n j : Nat) (s : SlR) (ps : List (SlR × List ItR)) (q : SlR × List ItR) (w : World), n ≤ 6 → RTree w base lv lvls → RPage lvls n j s ps q →
  Calls Tryz.prog 93 #[.agg #[.slice lv.a lv.n lv.cap], .agg #[.int .i64 (n : Int), .slice q.1.a q.1.n q.1.cap], strV fr, strV tu] w fun e w' => ∃ a' n' c', e = .returned (.slice a' n' c') ∧ OwnB w' w.heap.size (.slice a' n' c') (rangeF (lvN lvls) fr tu n q.2) ∧ Below w.heap.size w w'
 | 0, j, s, ps, q, w, hn, hR, hq => by
  obtain ⟨hsl, hsn⟩ := hq.sl hR
  obtain ⟨h60, hok, hri⟩ := hq.ok hL
  obtain ⟨⟨qa, qn, qc⟩, l⟩ := q
  simp only at hsl hsn h60 hok hri ⊢
  subst hsn
  have hS0 : RanSt w [.slice lv.a lv.n lv.cap] [.int .i64 0, .slice qa l.length qc] ((w.alloc (.cells #[.slice lv.a lv.n lv.cap] 146)).alloc (.cells #[.int .i64 0, .slice qa l.length qc] 80)) :=
   ⟨((Below.refl _ _).alloc (Nat.le_refl _) _).alloc (by simp) _, (RowV.new w _ _).alloc _, RowV.new_at _ _ _ _ (by simp)⟩
  have HF : Hid (Calls _ _ _ _ _) := framed_any 0 qa l.length qc l _ rfl (by omega) (by omega) hok (SlV.below_all hsl hS0.bel)
  have hnI : (l.length : Int) ≤ 60 := by omega
  clear hok hri hsl
  rw [show ((0 : Nat) : Int) = 0 from rfl] at HF ⊢
  unfold strV
  go_enter Tryz.func93, Tryz.ntmps93
  go_wp2_with fail
  refine HF.out.mono ?_
  rintro e w1 ⟨a1, n1, c1, rfl, ho1, hb1⟩
  have hS1 := hS0.next hb1
  have c0 : w1.cell? ⟨w.heap.size + 1, 0, none⟩ = some (.int .i64 0) := hS1.pg.cell 0 (by simp)
  have c1' : w1.cell? ⟨w.heap.size + 1, 1, none⟩ = some (.slice qa l.length qc) := hS1.pg.cell 1 (by simp)
  have HO : Hid (OwnB w1 w.heap.size (.slice a1 n1 c1) (frameB 0 l)) := owns_base ho1 (fun k hk => by have := (ho1.lt k hk).1; simp at this; omega)
  have HB : Hid (Below w.heap.size w w1) := hS1.bel
  clear ho1 hb1 hS1 hS0
  go_wp2
  go_loopw [9, 10, 11, 12] (fun b i _ _ wr => b = .slice a1 n1 c1 ∧ i = .int .i64 0 ∧ wr = w1) (fun _ _ _ _ _ => 0)
  case atStart => exact ⟨rfl, rfl, rfl⟩
  case round =>
   obtain ⟨rfl, rfl, rfl⟩ := hrel
   by_cases hz : (0 : Int) < l.length
   ·go_wp2
    go_ret
    exact ⟨a1, n1, c1, rfl, HO.out, HB.out⟩
   ·go_wp2
    go_ret
    exact ⟨a1, n1, c1, rfl, HO.out, HB.out⟩
 | n + 1, j, s, ps, q, w, hn, hR, hq => by
  obtain ⟨hsl, hsn⟩ := hq.sl hR
  obtain ⟨h60, hok, hri⟩ := hq.ok hL
  have hdown := hq.down hL
  have htot := range_small hL fr tu (n + 1) hn q.2 h60 hok
  obtain ⟨⟨qa, qn, qc⟩, l⟩ := q
  simp only at hsl hsn h60 hok hri hdown htot ⊢
  subst hsn
  rw [rangeF_succ] at htot ⊢
  have e1 : ((n + 1 : Nat) : Int) = (n : Int) + 1 := by omega
  have hS0 : RanSt w [.slice lv.a lv.n lv.cap] [.int .i64 ((n : Int) + 1), .slice qa l.length qc] ((w.alloc (.cells #[.slice lv.a lv.n lv.cap] 146)).alloc (.cells #[.int .i64 ((n : Int) + 1), .slice qa l.length qc] 80)) :=
   ⟨((Below.refl _ _).alloc (Nat.le_refl _) _).alloc (by simp) _, (RowV.new w _ _).alloc _, RowV.new_at _ _ _ _ (by simp)⟩
  have HF : Hid (Calls _ _ _ _ _) := framed_any (n + 1) qa l.length qc l ((w.alloc (.cells #[.slice lv.a lv.n lv.cap] 146)).alloc (.cells #[.int .i64 ((n : Int) + 1), .slice qa l.length qc] 80)) rfl (by omega) (by omega) hok (SlV.below_all hsl hS0.bel)
  have HWI : Hid (∀ (W : World) (i : Nat), Below w.heap.size w W → i < l.length → Calls Tryz.prog 127 #[.agg #[.int .i64 ((n : Int) + 1), .slice qa l.length qc], .int .i64 (i : Int), .string ⟨fr.toArray⟩, .string ⟨tu.toArray⟩] W fun e w' => e = .returned (.bool (withB l i fr tu)) ∧ Below W.heap.size W w') := fun W i hb hi => by
   have := withinR_any (n + 1) qa qc l i hi fr tu W (by omega) (SlV.below_all hsl hb)
   rw [e1] at this
   exact this
  have HBE : Hid (∀ (W : World) (i : Nat) (hi : i < l.length) (s' : SlR) (ps' : List (SlR × List ItR)) (q' : SlR × List ItR), Below w.heap.size w W → RPage lvls n l[i].below s' ps' q' → ps'.length ≤ 61 → Calls Tryz.prog 125 #[.agg #[.slice lv.a lv.n lv.cap], .agg #[.int .i64 ((n : Int) + 1), .slice qa l.length qc], .int .i64 (i : Int)] W fun e w' => e = .returned (.agg #[.int .i64 (n : Int), .slice q'.1.a q'.1.n q'.1.cap]) ∧ Below W.heap.size W w') := fun W i hi s' ps' q' hb hp hc =>
   below_any lv lvls base n s' ps' qa qc l i hi q' W (hR.below hb) hp.lv (by omega) (by omega) (SlV.below_all hsl hb) (by omega) hp.pg
  have HRG : Hid (∀ (W : World) (j' : Nat) (s' : SlR) (ps' : List (SlR × List ItR)) (q' : SlR × List ItR), Below w.heap.size w W → RPage lvls n j' s' ps' q' → Calls Tryz.prog 93 #[.agg #[.slice lv.a lv.n lv.cap], .agg #[.int .i64 (n : Int), .slice q'.1.a q'.1.n q'.1.cap], .string ⟨fr.toArray⟩, .string ⟨tu.toArray⟩] W fun e w' => ∃ a' n' c', e = .returned (.slice a' n' c') ∧ OwnB w' W.heap.size (.slice a' n' c') (rangeF (lvN lvls) fr tu n q'.2) ∧ Below W.heap.size W w') := fun W j' s' ps' q' hb hp =>
   refRange_any lv lvls base fr tu hL n j' s' ps' q' W (by omega) (hR.below hb) hp
  have HDN : Hid (∀ (i : Nat) (hi : i < l.length), ∃ s' ps' q', RPage lvls n l[i].below s' ps' q' ∧ pageAt (lvN lvls) n (belowAt l i) = q'.2 ∧ ps'.length ≤ 61) := hdown
  have HT : Hid ((frameB (n + 1) l ++ behindF (lvN lvls) fr tu n l l.length).length ≤ 100000000000000) := htot
  have hnI : (l.length : Int) ≤ 60 := by omega
  have hnn : (n : Int) ≤ 6 := by omega
  rw [e1] at HF ⊢
  clear hok hri hsl hdown htot e1 hR hq
  unfold strV
  go_enter Tryz.func93, Tryz.ntmps93
  go_wp2_with fail
  refine HF.out.mono ?_
  rintro e w1 ⟨a1, n1, c1, rfl, ho1, hb1⟩
  have HS1 : Hid (RanSt w [.slice lv.a lv.n lv.cap] [.int .i64 ((n : Int) + 1), .slice qa l.length qc] w1) := hS0.next hb1
  have HO1 : Hid (OwnB w1 (w.heap.size + 2) (.slice a1 n1 c1) (frameB (n + 1) l)) := by unfold Hid; simpa using ho1
  clear ho1 hb1 hS0
  go_wp2
  go_loopw [9, 10, 11, 12] (fun b i _ _ wr => ∃ (k : Nat) (a' : Option Addr) (n' c' : Nat), k ≤ l.length ∧ b = .slice a' n' c' ∧ i = .int .i64 k ∧ Hid (RanSt w [.slice lv.a lv.n lv.cap] [.int .i64 ((n : Int) + 1), .slice qa l.length qc] wr) ∧ Hid (OwnB wr (w.heap.size + 2) (.slice a' n' c') (frameB (n + 1) l ++ behindF (lvN lvls) fr tu n l k))) (fun _ i _ _ _ => l.length - (intOf i).toNat)
  case atStart => exact ⟨0, a1, n1, c1, by omega, rfl, by simp, HS1, by unfold Hid; rw [behind_zero, List.append_nil]; exact HO1.out⟩
  case round =>
   obtain ⟨k, a2, n2, c2, hk, rfl, rfl, HS, HO⟩ := hrel
   have hS := HS.out
   have p0 : wr.cell? ⟨w.heap.size + 1, 0, none⟩ = some (.int .i64 ((n : Int) + 1)) := hS.pg.cell 0 (by simp)
   have p1 : wr.cell? ⟨w.heap.size + 1, 1, none⟩ = some (.slice qa l.length qc) := hS.pg.cell 1 (by simp)
   by_cases hlt : k < l.length
   ·have hltI : (k : Int) < l.length := by omega
    have HW1 : Hid (Calls _ _ _ _ _) := HWI.out wr k hS.bel hlt
    cases hwb : withB l k fr tu with
    | false =>
     rw [hwb] at HW1
     have HN : Hid (behindF (lvN lvls) fr tu n l (k + 1) = behindF (lvN lvls) fr tu n l k) := behind_no _ _ _ _ _ _ hwb
     clear hS hwb
     go_wp2_with (go_at_call 127; refine HW1.out.mono ?_; rintro e w2 ⟨rfl, hb2⟩)
     refine ⟨⟨k + 1, a2, n2, c2, by omega, rfl, by go_num, HS.out.next hb2, ?_⟩, by simp [intOf]; omega⟩
     unfold Hid; rw [HN.out]; exact owns_below HO.out hb2
    | true =>
     rw [hwb] at HW1
     have HN : Hid (behindF (lvN lvls) fr tu n l (k + 1) = behindF (lvN lvls) fr tu n l k ++ rangeF (lvN lvls) fr tu n (pageAt (lvN lvls) n (belowAt l k))) := behind_yes _ _ _ _ _ _ hwb
     obtain ⟨s', ps', q', hp', hpe, hpc⟩ := HDN.out k hlt
     have HPE : Hid (pageAt (lvN lvls) n (belowAt l k) = q'.2) := hpe
     have HBE1 : Hid (∀ W, Below w.heap.size w W → Calls _ _ _ W _) := fun W hb => HBE.out W k hlt s' ps' q' hb hp' hpc
     have HRG1 : Hid (∀ W, Below w.heap.size w W → Calls _ _ _ W _) := fun W hb => HRG.out W _ s' ps' q' hb hp'
     have HLN : Hid ((frameB (n + 1) l ++ behindF (lvN lvls) fr tu n l k).length + (rangeF (lvN lvls) fr tu n q'.2).length ≤ 140737488355328) := by
      have h1 := behind_le (lvN lvls) fr tu n l (k + 1) l.length (by omega)
      rw [HN.out, hpe, List.length_append] at h1
      have h2 := HT.out
      unfold Hid
      rw [List.length_append] at h2 ⊢
      omega
     clear hS hwb hpe hp'
     go_wp2_with (go_at_call 127; refine HW1.out.mono ?_; rintro e w2 ⟨rfl, hb2⟩; have hS2 := RanSt.next HS.out hb2; have p0 : w2.cell? ⟨w.heap.size + 1, 0, none⟩ = some (.int .i64 ((n : Int) + 1)) := hS2.pg.cell 0 (by simp); have p1 : w2.cell? ⟨w.heap.size + 1, 1, none⟩ = some (.slice qa l.length qc) := hS2.pg.cell 1 (by simp); have t0 : w2.cell? ⟨w.heap.size, 0, none⟩ = some (.slice lv.a lv.n lv.cap) := hS2.tr.cell 0 (by simp))
     go_region_held3 (fun W => W.cell? ⟨w.heap.size, 0, none⟩ = some (.slice lv.a lv.n lv.cap) ∧ W.cell? ⟨w.heap.size + 1, 0, none⟩ = some (.int .i64 ((n : Int) + 1)) ∧ W.cell? ⟨w.heap.size + 1, 1, none⟩ = some (.slice qa l.length qc)) (go_keep)
      (first
       | (go_at_call 125; refine (HBE1.out _ (by exact hS2.bel.drew)).mono ?_; rintro e w3 ⟨rfl, hb3⟩; have hS3 := RanSt.next (RanSt.drew hS2) hb3; have q0 : w3.cell? ⟨w.heap.size, 0, none⟩ = some (.slice lv.a lv.n lv.cap) := hS3.tr.cell 0 (by simp); have q1 : w3.cell? ⟨w.heap.size + 1, 0, none⟩ = some (.int .i64 ((n : Int) + 1)) := hS3.pg.cell 0 (by simp); have q2 : w3.cell? ⟨w.heap.size + 1, 1, none⟩ = some (.slice qa l.length qc) := hS3.pg.cell 1 (by simp))
       | (go_at_call 93; refine (HRG1.out _ (by exact hS3.bel)).mono ?_; rintro e w4 ⟨a4, n4, c4, rfl, ho4, hb4⟩; have hS4 := RanSt.next hS3 hb4; have q0 : w4.cell? ⟨w.heap.size, 0, none⟩ = some (.slice lv.a lv.n lv.cap) := hS4.tr.cell 0 (by simp); have q1 : w4.cell? ⟨w.heap.size + 1, 0, none⟩ = some (.int .i64 ((n : Int) + 1)) := hS4.pg.cell 0 (by simp); have q2 : w4.cell? ⟨w.heap.size + 1, 1, none⟩ = some (.slice qa l.length qc) := hS4.pg.cell 1 (by simp)))
     obtain ⟨hs4, hn4, hnil4⟩ := OwnB.sl ho4
     have HO4 : Hid (OwnB w4 (w.heap.size + 2) (.slice a2 n2 c2) (frameB (n + 1) l ++ behindF (lvN lvls) fr tu n l k)) := owns_below (owns_below (owns_below HO.out hb2) (by exact below_drew1 hb3)) hb4
     have HB4 : Hid (w.heap.size + 2 ≤ w4.heap.size) := by have := hS4.pg.lt; unfold Hid; omega
     have HS4 : Hid (RanSt w [.slice lv.a lv.n lv.cap] [.int .i64 ((n : Int) + 1), .slice qa l.length qc] w4) := hS4
     have HN4 : Hid (n4 = (rangeF (lvN lvls) fr tu n q'.2).length) := hn4
     clear hn4 hS4 hS3 hS2 hb2 hb3 hb4 ho4 HS HO
     go_wp2_with (at_builtin; refine wp_appendB (by rfl) (.tmp 41) (.tmp 42) (by rfl) (w.heap.size + 2) _ (frameB (n + 1) l ++ behindF (lvN lvls) fr tu n l k) (by rfl) HO4.out a4 n4 c4 (rangeF (lvN lvls) fr tu n q'.2) (by rfl) HN4.out hs4 hnil4 HLN.out HB4.out ?_; intro a5 n5 c5 w5 hn5 ho5 hs5 hf5 hat5; have HO5 : Hid (OwnB w5 (w.heap.size + 2) (.slice a5 n5 c5) _) := ho5; have HS5 : Hid (RanSt w _ _ w5) := RanSt.frame HS4.out HO4.out (by omega) hf5; clear hn5 ho5 hs5 hf5 hat5)
     refine ⟨⟨k + 1, a5, n5, c5, by omega, rfl, by go_num, HS5.out, ?_⟩, by simp [intOf]; omega⟩
     unfold Hid
     rw [HN.out, HPE.out, ← List.append_assoc]
     exact HO5.out
   ·have hltI : ¬ (k : Int) < l.length := by omega
    obtain rfl : k = l.length := by omega
    clear hS
    go_wp2
    go_ret
    exact ⟨a2, n2, c2, rfl, owns_base HO.out (fun k hk => by have := (HO.out.lt k hk).1; omega), HS.out.bel⟩
end Go.Proofs.YtekegfbjbainhaaGreat


namespace Go.Proofs.YtekegfbjbainhaaGreat
open Go.RowKit
structure PtSt (w : World) (pb : Nat) (T P : List Value) (W : World) : Prop where
 bel : Below w.heap.size w W
 tr : RowV W w.heap.size 146 T
 pg : RowV W pb 80 P
theorem PtSt.next {w W W' : World} {pb : Nat} {T P : List Value} (h : PtSt w pb T P W) (hb : Below W.heap.size W W') : PtSt w pb T P W' := ⟨h.bel.trans (hb.mono h.bel.size), h.tr.below h.tr.lt hb, h.pg.below h.pg.lt hb⟩
theorem PtSt.frame {w W W' : World} {pb : Nat} {T P : List Value} {v : Value} {l : List UInt8} {base : Nat} (h : PtSt w pb T P W) (ho : OwnB W base v l) (hb : w.heap.size ≤ base) (hf : Frame (fun k => v.ownBlock = some k) W W') : PtSt w pb T P W' :=
 ⟨h.bel.trans (hf.below h.bel.size (fun k hk => by have := (ho.lt k hk).1; omega)), h.tr.of_block (hf.block _ h.tr.lt (fun e => owns_ne ho h.tr (by decide) e)), h.pg.of_block (hf.block _ h.pg.lt (fun e => owns_ne ho h.pg (by decide) e))⟩
theorem PtSt.turn {w W : World} {pb : Nat} {T : List Value} {p0 p1 : Value} (h : PtSt w pb T [p0, p1] W) (hpb : w.heap.size < pb) (x y : Value) : PtSt w pb T [x, y] ((W.setCell ⟨pb, 0, none⟩ x).setCell ⟨pb, 1, none⟩ y) :=
 ⟨(h.bel.setCell (by show w.heap.size ≤ pb; omega) _).setCell (by show w.heap.size ≤ pb; omega) _, (h.tr.other (by show w.heap.size ≠ pb; omega) _).other (by show w.heap.size ≠ pb; omega) _, by simpa using (h.pg.set 0 x).set 1 y⟩
theorem OwnB.turn {W : World} {base pb t : Nat} {v : Value} {l : List UInt8} {P : List Value} (ho : OwnB W base v l) (hp : RowV W pb t P) (ht : 5 ≠ t) (x y : Value) : OwnB ((W.setCell ⟨pb, 0, none⟩ x).setCell ⟨pb, 1, none⟩ y) base v l :=
 owns_frame ho (((Frame.refl (fun k => k = pb) W).setCell (p := ⟨pb, 0, none⟩) rfl x).setCell (p := ⟨pb, 1, none⟩) rfl y) (fun k hk e => owns_ne ho hp ht (by rw [hk, e]))
theorem pointF_length {lvls : List (List (List ItR))} (h : LvlsOk lvls) (key : List UInt8) : ∀ (n : Nat) (p : List ItR), p.length ≤ 60 → (∀ x ∈ p, ItOk x) → (pointF lvls key n p).length ≤ 1600 * (n + 1)
 | 0, p, h60, hok => by
  have := frameB_length 0 p hok h60
  simpa [pointF] using this
 | n + 1, p, h60, hok => by
  have h1 := frameB_length (n + 1) p hok h60
  have h2 := pointF_length h key n (pageAt lvls n (belowAt p (placeN p key))) (pageAt_ok h n _).1 (pageAt_ok h n _).2.1
  rw [pointF, List.length_append]
  split
  ·omega
  ·simp; omega
set_option maxRecDepth 100000 in
set_option maxHeartbeats 2000000 in
theorem refPoint_any (lv : SlR) (lvls : List LevR) (base m : Nat) (s : SlR) (q0 : SlR × List ItR) (rest : List (SlR × List ItR)) (key : List UInt8) (w : World) (hL : LvlsOk (lvN lvls)) (hm : lvls.length = m + 1) (hm6 : m ≤ 6) (hR : RTree w base lv lvls) (hq0 : lvls[m]? = some (s, q0 :: rest)) :
  Calls Tryz.prog 90 #[.agg #[.slice lv.a lv.n lv.cap], strV key] w fun e w' => ∃ a' n' c', e = .returned (.slice a' n' c') ∧ OwnB w' w.heap.size (.slice a' n' c') (pointF (lvN lvls) key m q0.2) ∧ Below w.heap.size w w' := by
 have hbT : Below w.heap.size w (w.alloc (.cells #[.slice lv.a lv.n lv.cap] 146)) := (Below.refl _ _).alloc (Nat.le_refl _) _
 have hlast : RPage lvls m 0 s (q0 :: rest) q0 := ⟨hq0, rfl⟩
 have HRT : Hid (Calls _ _ _ _ _) := root_any lv lvls m s q0.1 q0.2 rest base (w.alloc (.cells #[.slice lv.a lv.n lv.cap] 146)) (hR.below hbT).own hm (by omega) hq0 (by
  have h1 := (hR.below hbT).ok m (by omega)
  rw [(List.getElem?_eq_some_iff.1 hq0).2] at h1
  exact h1)
 have HTR : Hid (RowV (w.alloc (.cells #[.slice lv.a lv.n lv.cap] 146)) w.heap.size 146 [.slice lv.a lv.n lv.cap]) := RowV.new w _ _
 have HBT : Hid (Below w.heap.size w (w.alloc (.cells #[.slice lv.a lv.n lv.cap] 146))) := hbT
 -- what a page is asked, wherever it lies
 have HFR : Hid (∀ (W : World) (n j : Nat) (s' : SlR) (ps' : List (SlR × List ItR)) (qa : Option Addr) (qc : Nat) (l : List ItR), Below w.heap.size w W → n ≤ 6 → RPage lvls n j s' ps' (⟨qa, l.length, qc⟩, l) → Calls Tryz.prog 124 #[.agg #[.int .i64 (n : Int), .slice qa l.length qc]] W fun e w' => ∃ a' n' c', e = .returned (.slice a' n' c') ∧ OwnB w' W.heap.size (.slice a' n' c') (frameB n l) ∧ Below W.heap.size W w') := fun W n j s' ps' qa qc l hb hn hp =>
  framed_any n qa l.length qc l W rfl (by have := (hp.ok hL).1; simp only at this; omega) (by omega) (hp.ok hL).2.1 (hp.sl (hR.below hb)).1
 have HFI : Hid (∀ (W : World) (n j : Nat) (s' : SlR) (ps' : List (SlR × List ItR)) (qa : Option Addr) (qc : Nat) (l : List ItR), Below w.heap.size w W → RPage lvls (n + 1) j s' ps' (⟨qa, l.length, qc⟩, l) → Calls Tryz.prog 33 #[.agg #[.int .i64 ((n : Int) + 1), .slice qa l.length qc], .string ⟨key.toArray⟩] W fun e w' => e = .returned (.int .i64 (placeN l key : Int)) ∧ Below W.heap.size W w') := fun W n j s' ps' qa qc l hb hp => by
  have := firstR_any (n + 1) qa qc l key W (by have := (hp.ok hL).1; simp only at this; omega) (hp.sl (hR.below hb)).1
  rw [show ((n + 1 : Nat) : Int) = (n : Int) + 1 by omega] at this
  exact this
 have HBE : Hid (∀ (W : World) (n j : Nat) (s' : SlR) (ps' : List (SlR × List ItR)) (qa : Option Addr) (qc : Nat) (l : List ItR) (i : Nat) (hi : i < l.length), Below w.heap.size w W → n ≤ 6 → RPage lvls (n + 1) j s' ps' (⟨qa, l.length, qc⟩, l) → ∃ (j2 : Nat) (s2 : SlR) (ps2 : List (SlR × List ItR)) (qa2 : Option Addr) (qc2 : Nat) (l2 : List ItR), RPage lvls n j2 s2 ps2 (⟨qa2, l2.length, qc2⟩, l2) ∧ pageAt (lvN lvls) n (belowAt l i) = l2 ∧
   Calls Tryz.prog 125 #[.agg #[.slice lv.a lv.n lv.cap], .agg #[.int .i64 ((n : Int) + 1), .slice qa l.length qc], .int .i64 (i : Int)] W fun e w' => e = .returned (.agg #[.int .i64 (n : Int), .slice qa2 l2.length qc2]) ∧ Below W.heap.size W w') := fun W n j s' ps' qa qc l i hi hb hn hp => by
  obtain ⟨s2, ps2, ⟨⟨qa2, qn2, qc2⟩, l2⟩, hp2, he2, hc2⟩ := hp.down hL i hi
  have hn2 := (hp2.sl (hR.below hb)).2
  simp only at hn2 he2
  subst hn2
  refine ⟨_, s2, ps2, qa2, qc2, l2, hp2, he2, ?_⟩
  exact below_any lv lvls base n s2 ps2 qa qc l i hi _ W (hR.below hb) hp2.lv (by omega) (by have := (hp.ok hL).1; simp only at this; omega) (hp.sl (hR.below hb)).1 (by omega) hp2.pg
 have HLE : Hid (∀ (n j : Nat) (s' : SlR) (ps' : List (SlR × List ItR)) (q : SlR × List ItR), RPage lvls n j s' ps' q → q.2.length ≤ 60 ∧ (∀ x ∈ q.2, ItOk x)) := fun n j s' ps' q hp => ⟨(hp.ok hL).1, (hp.ok hL).2.1⟩
 have hn0 := (hlast.sl hR).2
 have HTOT : Hid ((pointF (lvN lvls) key m q0.2).length ≤ 12000) := by
  have := pointF_length hL key m q0.2 (hlast.ok hL).1 (hlast.ok hL).2.1
  unfold Hid; omega
 have hm6I : (m : Int) ≤ 6 := by omega
 obtain ⟨⟨qa, qn, qc⟩, l⟩ := q0
 simp only at hn0 HTOT HRT ⊢
 subst hn0
 have HL0 : Hid (RPage lvls m 0 s ((⟨qa, l.length, qc⟩, l) :: rest) (⟨qa, l.length, qc⟩, l)) := hlast
 have hll : (l.length : Int) ≤ 60 := by have := (hlast.ok hL).1; simp only at this; omega
 clear hR hlast hq0 hbT
 unfold strV
 go_enter Tryz.func90, Tryz.ntmps90
 go_wp2_with fail
 refine HRT.out.mono ?_
 rintro e w1 ⟨rfl, hb1⟩
 have hz1 : w.heap.size < w1.heap.size := by have := hb1.size; simp at this; omega
 have HS2 : Hid (PtSt w w1.heap.size [.slice lv.a lv.n lv.cap] [.int .i64 (m : Int), .slice qa l.length qc] (w1.alloc (.cells #[.int .i64 (m : Int), .slice qa l.length qc] 80))) :=
  ⟨(HBT.out.trans (hb1.mono (by simp))).alloc (by omega) _, (HTR.out.below HTR.out.lt hb1).alloc _, RowV.new w1 _ _⟩
 clear hb1
 go_wp2_with fail
 refine (HFR.out _ m 0 s _ qa qc l (by exact HS2.out.bel) hm6 HL0.out).mono ?_
 rintro e w2 ⟨a2, n2, c2, rfl, ho2, hb2⟩
 have HS3 : Hid (PtSt w w1.heap.size [.slice lv.a lv.n lv.cap] [.int .i64 (m : Int), .slice qa l.length qc] w2) := HS2.out.next hb2
 have HO3 : Hid (OwnB w2 (w1.heap.size + 1) (.slice a2 n2 c2) (frameB m l)) := by unfold Hid; simpa using ho2
 clear ho2 hb2
 go_wp2
 go_loopw [6, 7] (fun b _ wr => ∃ (n j : Nat) (s' : SlR) (ps' : List (SlR × List ItR)) (qa' : Option Addr) (qc' : Nat) (l' : List ItR) (pre : List UInt8) (a' : Option Addr) (n' c' : Nat), n ≤ 6 ∧ b = .slice a' n' c' ∧ Hid (RPage lvls n j s' ps' (⟨qa', l'.length, qc'⟩, l')) ∧ Hid (PtSt w w1.heap.size [.slice lv.a lv.n lv.cap] [.int .i64 (n : Int), .slice qa' l'.length qc'] wr) ∧ Hid (OwnB wr (w1.heap.size + 1) (.slice a' n' c') (pre ++ frameB n l')) ∧ Hid (pointF (lvN lvls) key m l = pre ++ pointF (lvN lvls) key n l'))
  (fun _ _ wr => match wr.cell? ⟨w1.heap.size, 0, none⟩ with | some (.int _ x) => x.toNat | _ => 0)
 case atStart => exact ⟨m, 0, s, _, qa, qc, l, [], a2, n2, c2, hm6, rfl, HL0, HS3, HO3, rfl⟩
 case round =>
  obtain ⟨n, j, s', ps', qa', qc', l', pre, a', n', c', hn6, rfl, HP, HS, HO, HE⟩ := hrel
  have hS := HS.out
  cases n with
  | zero =>
   have p0 : wr.cell? ⟨w1.heap.size, 0, none⟩ = some (.int .i64 0) := hS.pg.cell 0 (by simp)
   clear hS
   go_wp2
   go_ret
   refine ⟨a', n', c', rfl, ?_, HS.out.bel⟩
   rw [HE.out]
   exact owns_base HO.out (fun k hk => by have := (HO.out.lt k hk).1; omega)
  | succ n =>
   have e1 : ((n + 1 : Nat) : Int) = (n : Int) + 1 := by omega
   have hll' : (l'.length : Int) ≤ 60 := by have := (HLE.out _ _ _ _ _ HP.out).1; simp only at this; omega
   rw [e1] at hS HS
   have p0 : wr.cell? ⟨w1.heap.size, 0, none⟩ = some (.int .i64 ((n : Int) + 1)) := hS.pg.cell 0 (by simp)
   have p1 : wr.cell? ⟨w1.heap.size, 1, none⟩ = some (.slice qa' l'.length qc') := hS.pg.cell 1 (by simp)
   have P0 : Hid (wr.cell? ⟨w1.heap.size, 0, none⟩ = some (.int .i64 ((n : Int) + 1))) := p0
   have HFI1 : Hid (Calls _ _ _ _ _) := HFI.out wr n j s' ps' qa' qc' l' hS.bel HP.out
   have hple := placeN_le l' key
   have hnI : (n : Int) ≤ 5 := by omega
   by_cases hpl : placeN l' key < l'.length
   ·have HE2 : Hid (pointF (lvN lvls) key (n + 1) l' = frameB (n + 1) l' ++ pointF (lvN lvls) key n (pageAt (lvN lvls) n (belowAt l' (placeN l' key)))) := by unfold Hid; rw [pointF, if_pos hpl]
    have HBE1 : Hid (∀ (W : World), Below w.heap.size w W → ∃ (j2 : Nat) (s2 : SlR) (ps2 : List (SlR × List ItR)) (qa2 : Option Addr) (qc2 : Nat) (l2 : List ItR), RPage lvls n j2 s2 ps2 (⟨qa2, l2.length, qc2⟩, l2) ∧ pageAt (lvN lvls) n (belowAt l' (placeN l' key)) = l2 ∧ Calls _ _ _ W _) := fun W hb => HBE.out W n j s' ps' qa' qc' l' (placeN l' key) hpl hb (by omega) HP.out
    generalize placeN l' key = k at *
    have hne : ((k : Int) == (l'.length : Int)) = false := by simp; omega
    have hkI : (k : Int) < l'.length := by omega
    have hkI0 : (k : Int) ≠ l'.length := by omega
    clear hS
    go_wp2_with (go_at_call 33; refine HFI1.out.mono ?_; rintro e w3 ⟨rfl, hb3⟩; have hS3 := PtSt.next HS.out hb3; have p0 : w3.cell? ⟨w1.heap.size, 0, none⟩ = some (.int .i64 ((n : Int) + 1)) := hS3.pg.cell 0 (by simp); have p1 : w3.cell? ⟨w1.heap.size, 1, none⟩ = some (.slice qa' l'.length qc') := hS3.pg.cell 1 (by simp); have t0 : w3.cell? ⟨w.heap.size, 0, none⟩ = some (.slice lv.a lv.n lv.cap) := hS3.tr.cell 0 (by simp))
    obtain ⟨j2, s2, ps2, qa2, qc2, l2, hp2, he2, hc2⟩ := HBE1.out w3 hS3.bel
    refine hc2.mono ?_
    rintro e w4 ⟨rfl, hb4⟩
    have hS4 := hS3.next hb4
    have r0 : w4.cell? ⟨w1.heap.size, 0, none⟩ = some (.int .i64 ((n : Int) + 1)) := hS4.pg.cell 0 (by simp)
    have r1 : w4.cell? ⟨w1.heap.size, 1, none⟩ = some (.slice qa' l'.length qc') := hS4.pg.cell 1 (by simp)
    have f0 : w4.frozen? ⟨w1.heap.size, 0, none⟩ = false := hS4.pg.frozen 0
    have f1 : w4.frozen? ⟨w1.heap.size, 1, none⟩ = false := hS4.pg.frozen 1
    have HO4 : Hid (OwnB w4 (w1.heap.size + 1) (.slice a' n' c') (pre ++ frameB (n + 1) l')) := owns_below (owns_below HO.out hb3) hb4
    have HS5 : Hid (PtSt w w1.heap.size [.slice lv.a lv.n lv.cap] [.int .i64 (n : Int), .slice qa2 l2.length qc2] ((w4.setCell ⟨w1.heap.size, 0, none⟩ (.int .i64 (n : Int))).setCell ⟨w1.heap.size, 1, none⟩ (.slice qa2 l2.length qc2))) := hS4.turn hz1 _ _
    have HO5 : Hid (OwnB ((w4.setCell ⟨w1.heap.size, 0, none⟩ (.int .i64 (n : Int))).setCell ⟨w1.heap.size, 1, none⟩ (.slice qa2 l2.length qc2)) (w1.heap.size + 1) (.slice a' n' c') (pre ++ frameB (n + 1) l')) := OwnB.turn HO4.out hS4.pg (by decide) _ _
    have HP2 : Hid (RPage lvls n j2 s2 ps2 (⟨qa2, l2.length, qc2⟩, l2)) := hp2
    have HE3 : Hid (pointF (lvN lvls) key m l = (pre ++ frameB (n + 1) l') ++ pointF (lvN lvls) key n l2) := by
     unfold Hid
     rw [HE.out, HE2.out, he2, List.append_assoc]
    have HLN : Hid ((pre ++ frameB (n + 1) l').length + (frameB n l2).length ≤ 140737488355328) := by
     have h1 := HTOT.out
     rw [HE3.out, List.length_append] at h1
     have h2 := frameB_length n l2 (HLE.out _ _ _ _ _ hp2).2 (HLE.out _ _ _ _ _ hp2).1
     unfold Hid; omega
    clear hS4 hS3 hb3 hb4 he2 hp2 hc2 HE2 HE HO HS
    go_wp2_with fail
    refine (HFR.out _ n j2 s2 ps2 qa2 qc2 l2 (by exact HS5.out.bel) (by omega) HP2.out).mono ?_
    rintro e w6 ⟨a6, n6, c6, rfl, ho6, hb6⟩
    obtain ⟨hs6, hn6', hnil6⟩ := OwnB.sl ho6
    have HO6 : Hid (OwnB w6 (w1.heap.size + 1) (.slice a' n' c') (pre ++ frameB (n + 1) l')) := owns_below HO5.out hb6
    have HS6 : Hid (PtSt w w1.heap.size [.slice lv.a lv.n lv.cap] [.int .i64 (n : Int), .slice qa2 l2.length qc2] w6) := HS5.out.next hb6
    have HN6 : Hid (n6 = (frameB n l2).length) := hn6'
    have HB6 : Hid (w1.heap.size + 1 ≤ w6.heap.size) := by have := HS6.out.pg.lt; unfold Hid; omega
    clear ho6 hb6 hn6'
    go_wp2_with (at_builtin; refine wp_appendB (by rfl) (.tmp 27) (.tmp 29) (by rfl) (w1.heap.size + 1) _ (pre ++ frameB (n + 1) l') (by rfl) HO6.out a6 n6 c6 (frameB n l2) (by rfl) HN6.out hs6 hnil6 HLN.out HB6.out ?_; intro a7 n7 c7 w7 hn7 ho7 hs7 hf7 hat7; have HO7 : Hid (OwnB w7 (w1.heap.size + 1) (.slice a7 n7 c7) _) := ho7; have HS7 : Hid (PtSt w _ _ _ w7) := PtSt.frame HS6.out HO6.out (by omega) hf7; clear hn7 ho7 hs7 hf7 hat7)
    have m1 : w7.cell? ⟨w1.heap.size, 0, none⟩ = some (.int .i64 (n : Int)) := HS7.out.pg.cell 0 (by simp)
    refine ⟨⟨n, j2, s2, ps2, qa2, qc2, l2, pre ++ frameB (n + 1) l', a7, n7, c7, by omega, rfl, HP2, HS7, HO7, HE3⟩, ?_⟩
    rw [m1, P0.out]
    simp
   ·have hpe : placeN l' key = l'.length := by omega
    have HE2 : Hid (pointF (lvN lvls) key (n + 1) l' = frameB (n + 1) l') := by unfold Hid; rw [pointF, if_neg hpl, List.append_nil]
    rw [hpe] at HFI1
    clear hS hpe hpl hple
    go_wp2_with (go_at_call 33; refine HFI1.out.mono ?_; rintro e w3 ⟨rfl, hb3⟩; have hS3 := PtSt.next HS.out hb3; have p0 : w3.cell? ⟨w1.heap.size, 0, none⟩ = some (.int .i64 ((n : Int) + 1)) := hS3.pg.cell 0 (by simp); have p1 : w3.cell? ⟨w1.heap.size, 1, none⟩ = some (.slice qa' l'.length qc') := hS3.pg.cell 1 (by simp))
    go_ret
    refine ⟨a', n', c', rfl, ?_, hS3.bel⟩
    rw [HE.out, HE2.out]
    exact owns_base (owns_below HO.out hb3) (fun k hk => by have := (HO.out.lt k hk).1; omega)
end Go.Proofs.YtekegfbjbainhaaGreat


namespace Go.Proofs.YtekegfbjbainhaaGreat
open Go.RowKit
def prfB (p : List ItR) (fr tu : List UInt8) : List UInt8 := rangeF (grownN p) fr tu (rootLevel p) (rootPage p)
def epochBad (n : Nat) (e : Int) : Bool := decide (e < 0) || decide ((n : Int) ≤ e)
def prvE (n : Nat) (e : Int) (key : List UInt8) : Nat := if epochBad n e = true then 4 else if keyOk key = false then 1 else 0
def rngOk (fr tu : List UInt8) : Bool := keyOk fr && keyOk tu && Op.bytesLess fr tu
def rngE (n : Nat) (e : Int) (fr tu : List UInt8) : Nat := if epochBad n e = true then 4 else if rngOk fr tu = false then 1 else 0
def pastAt (pp : List (List ItR)) (e : Int) : List ItR := pp.getD e.toNat []
def prvB (pp : List (List ItR)) (e : Int) (key : List UInt8) : List UInt8 := if prvE pp.length e key = 0 then prfB (pastAt pp e) key key else []
def rngB (pp : List (List ItR)) (e : Int) (fr tu : List UInt8) : List UInt8 := if rngE pp.length e fr tu = 0 then prfB (pastAt pp e) fr tu else []
def PastR (p : List ItR) : Prop := RiseK p ∧ (∀ x ∈ p, ItOk x) ∧ p.length ≤ 60
theorem point_prf (l : List ItR) (h : PastR l) (key : List UInt8) : pointF (grownN l) key (rootLevel l) (rootPage l) = prfB l key key := by
 unfold prfB
 have hL := grown_lv l h.1 h.2.1 h.2.2
 refine point_range hL key (fun p hp => rising_place p key hp) _ _ ?_
 have e : rootPage l = pageAt (grownN l) (rootLevel l) 0 := by
  unfold rootPage pageAt rootLevel
  cases ((grownN l)[(grownN l).length - 1]?.getD []) <;> rfl
 rw [e]
 exact (pageAt_ok hL _ _).2.2
set_option maxRecDepth 100000 in
set_option maxHeartbeats 1000000 in
theorem refProve_epoch (rb : Nat) (now past roots : SlR) (nowL : List ItR) (pastL : List (SlR × List ItR)) (rootsL : List (List UInt8)) (e : Int) (kv : Value) (w : World) (h : RefAt w rb 0 now past roots nowL pastL rootsL) (hp : pastL.length ≤ 40) (he : epochBad pastL.length e = true) :
  Calls Tryz.prog 47 #[.pointer (some ⟨rb, 0, none⟩), .int .i64 e, kv] w fun r w' => r = .returned (.tuple #[.slice none 0 0, .int .i64 4]) ∧ Below w.heap.size w w' := by
 have hn := (owns_cap (a := past.a) (n' := past.n) (cap := past.cap) h.hpast).1
 have c1 : w.cell? ⟨rb, 1, none⟩ = some (.slice past.a past.n past.cap) := RowV.cell h.row 1 (by simp)
 have hpI : (past.n : Int) ≤ 40 := by omega
 by_cases h0 : e < 0
 ·clear hn h he
  go_enter Tryz.func47, Tryz.ntmps47
  go_wp2
  go_ret2
  exact ⟨rfl, Below.refl _ _⟩
 ·have h1 : (past.n : Int) ≤ e := by
   unfold epochBad at he
   simp [h0] at he
   omega
  clear hn h he
  go_enter Tryz.func47, Tryz.ntmps47
  go_wp2
  go_ret2
  exact ⟨rfl, Below.refl _ _⟩
theorem epoch_in {n : Nat} {e : Int} (h : epochBad n e = false) : ∃ k : Nat, e = k ∧ k < n := by
 unfold epochBad at h
 simp at h
 exact ⟨e.toNat, by omega, by omega⟩
set_option maxRecDepth 100000 in
set_option maxHeartbeats 1000000 in
theorem refProve_arg (rb : Nat) (now past roots : SlR) (nowL : List ItR) (pastL : List (SlR × List ItR)) (rootsL : List (List UInt8)) (k : Nat) (sk : SlR) (key : List UInt8) (w : World) (h : RefAt w rb 0 now past roots nowL pastL rootsL) (hp : pastL.length ≤ 40) (hk : k < pastL.length) (hK : BS w sk key) (hkm : key.length ≤ maxLen) (ha : keyOk key = false) :
  Calls Tryz.prog 47 #[.pointer (some ⟨rb, 0, none⟩), .int .i64 (k : Int), sk.val] w fun r w' => r = .returned (.tuple #[.slice none 0 0, .int .i64 1]) ∧ Below w.heap.size w w' := by
 have hn := (owns_cap (a := past.a) (n' := past.n) (cap := past.cap) h.hpast).1
 have c1 : w.cell? ⟨rb, 1, none⟩ = some (.slice past.a past.n past.cap) := RowV.cell h.row 1 (by simp)
 have hpI : (past.n : Int) ≤ 40 := by omega
 have hkI : (k : Int) < past.n := by omega
 have HKF : Hid (Calls _ _ _ _ _) := keyFits_any sk.a sk.n sk.cap w (by rw [hK.n]; exact hkm)
 have hkb : (decide (1 ≤ sk.n) && decide (sk.n ≤ 12)) = false := by rw [hK.n]; exact ha
 rw [hkb] at HKF
 clear hn h hkb hK
 unfold SlR.val
 go_enter Tryz.func47, Tryz.ntmps47
 go_wp2_with (go_at_call 31; refine HKF.out.mono ?_; rintro e w1 ⟨rfl, hw1⟩; obtain rfl : w = w1 := hw1.symm)
 go_ret2
 exact ⟨rfl, Below.refl _ _⟩
set_option maxRecDepth 100000 in
set_option maxHeartbeats 1000000 in
theorem refProve_ok (rb : Nat) (now past roots : SlR) (nowL : List ItR) (pastL : List (SlR × List ItR)) (rootsL : List (List UInt8)) (k : Nat) (sk : SlR) (key : List UInt8) (w : World) (h : RefAt w rb 0 now past roots nowL pastL rootsL) (hp : pastL.length ≤ 40) (hk : k < pastL.length) (hP : PastR pastL[k].2) (hK : BS w sk key) (ha : keyOk key = true) :
  Calls Tryz.prog 47 #[.pointer (some ⟨rb, 0, none⟩), .int .i64 (k : Int), sk.val] w fun r w' => ∃ a' n' c', r = .returned (.tuple #[.slice a' n' c', .int .i64 0]) ∧ OwnB w' w.heap.size (.slice a' n' c') (prfB pastL[k].2 key key) ∧ Below w.heap.size w w' := by
 obtain ⟨hps, hn⟩ := SlV.ofOwn (s := past) h.hpast
 have c1 : w.cell? ⟨rb, 1, none⟩ = some (.slice past.a past.n past.cap) := RowV.cell h.row 1 (by simp)
 obtain ⟨b, o, hpa, hb, hcell⟩ := hps k (by simpa using hk)
 have c2 : w.cell? ⟨b, o + k, none⟩ = some (.slice pastL[k].1.a pastL[k].1.n pastL[k].1.cap) := by rw [hcell]; simp [SlR.val]
 have hpI : (past.n : Int) ≤ 40 := by omega
 have hkI : (k : Int) < past.n := by omega
 have hk12 : 1 ≤ key.length ∧ key.length ≤ 12 := by unfold keyOk at ha; simpa using ha
 have HKF : Hid (Calls _ _ _ _ _) := keyFits_any sk.a sk.n sk.cap w (by rw [hK.n]; unfold maxLen; omega)
 have hkb : (decide (1 ≤ sk.n) && decide (sk.n ≤ 12)) = true := by rw [hK.n]; exact ha
 rw [hkb] at HKF
 obtain ⟨hits, hitn⟩ := SlV.ofOwn (s := pastL[k].1) (h.hpok pastL[k] (List.getElem_mem hk))
 have HGR : Hid (Calls _ _ _ _ _) := grown_any pastL[k].1 pastL[k].2 w hitn (by have := hP.2.2; omega) hP.2.1 hits
 have HCV : Hid (∀ W, Below w.heap.size w W → (convert 38 9 (.slice sk.a sk.n sk.cap)).run Tryz.prog W = .ok (.string ⟨key.toArray⟩) W) := fun W hW => run_string_SlB (P := Tryz.prog) W 38 9 5 sk.a sk.n sk.cap key Tryz.underlying38 Tryz.underlying5 Tryz.underlying9 hK.n (hK.below hW).sl hK.nil
 have HPP : Hid (PastR pastL[k].2) := hP
 generalize pastL[k] = pk at *
 obtain ⟨pa, pn, pc⟩ := past
 simp only at hpa hpI hkI c1
 subst hpa
 clear hn h hkb hK hps hcell hits hitn hP ha hk12
 unfold SlR.val
 go_enter Tryz.func47, Tryz.ntmps47
 go_wp2_with (go_at_call 31; refine HKF.out.mono ?_; rintro e w1 ⟨rfl, hw1⟩; obtain rfl : w = w1 := hw1.symm; clear hw1)
 refine HGR.out.mono ?_
 rintro e w1 ⟨lv, rfl, lvls, ho1, hok1, hN1, hb1⟩
 obtain ⟨m, s, q, ql, rest, hm1, hm2, hm3, hm4, hm5, _, _⟩ := lvls_last hN1 HPP.out.2.1 (by have := HPP.out.2.2; omega)
 have hbA : Below w1.heap.size w1 (w1.alloc (.cells #[.slice lv.a lv.n lv.cap] 146)) := (Below.refl _ _).alloc (Nat.le_refl _) _
 have hcv := HCV.out (w1.alloc (.cells #[.slice lv.a lv.n lv.cap] 146)) (hb1.alloc hb1.size _)
 have HPT : Hid (Calls _ _ _ _ _) := refPoint_any lv lvls w.heap.size m s (q, ql) rest key (w1.alloc (.cells #[.slice lv.a lv.n lv.cap] 146)) (by rw [hN1]; exact grown_lv _ HPP.out.1 HPP.out.2.1 HPP.out.2.2) hm1 hm2 (RTree.below ⟨ho1, hok1⟩ hbA) hm3
 rw [hN1, ← hm4, ← hm5, point_prf _ HPP.out] at HPT
 unfold strV at HPT
 have HB1 : Hid (Below w.heap.size w w1) := hb1
 clear ho1 hok1 hN1 hb1 hm1 hm2 hm3 hm4 hm5 hbA
 go_wp2_with fail
 refine HPT.out.mono ?_
 rintro e w2 ⟨a2, n2, c2', rfl, ho2, hb2⟩
 go_wp2
 go_ret2
 refine ⟨a2, n2, c2', rfl, owns_base ho2 (fun k hk => by have := (ho2.lt k hk).1; have := HB1.out.size; simp at *; omega), (HB1.out.alloc HB1.out.size _).trans (hb2.mono (by have := HB1.out.size; simp; omega))⟩
end Go.Proofs.YtekegfbjbainhaaGreat
