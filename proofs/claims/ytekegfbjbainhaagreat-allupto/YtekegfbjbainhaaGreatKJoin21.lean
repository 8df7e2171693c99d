import Derived.Test.YtekegfbjbainhaaGreatKJoin20
import Derived.Test.YtekegfbjbainhaaGreatKJoin12
import Derived.Test.YtekegfbjbainhaaGreatKJoin19
set_option linter.unusedVariables false
set_option linter.unusedSimpArgs false

namespace Go.Proofs.YtekegfbjbainhaaGreat
open Go.RowKit
structure PtSt (w : World) (pb : Nat) (T P : List Value) (W : World) : Prop where
 bel : Below w.heap.size w W
 tr : RowV W w.heap.size 146 T
 pg : RowV W pb 80 P
theorem PtSt.next {w W W' : World} {pb : Nat} {T P : List Value} (h : PtSt w pb T P W) (hb : Below W.heap.size W W') : PtSt w pb T P W' := ⟨h.bel.trans (hb.mono h.bel.size), h.tr.below h.tr.lt hb, h.pg.below h.pg.lt hb⟩
theorem PtSt.frame {w W W' : World} {pb : Nat} {T P : List Value} {v : Value} {l : List UInt8} {base : Nat} (h : PtSt w pb T P W) (ho : OwnB W base v l) (hb : w.heap.size ≤ base) (hf : Frame (fun k => v.ownBlock = some k) W W') : PtSt w pb T P W' :=
 ⟨h.bel.trans (hf.below h.bel.size (fun k hk => by have := (ho.lt k hk).1; omega)), h.tr.of_block (hf.block _ h.tr.lt (fun e => owns_ne ho h.tr (by decide) e)), h.pg.of_block (hf.block _ h.pg.lt (fun e => owns_ne ho h.pg (by decide) e))⟩
theorem PtSt.turn {w W : World} {pb : Nat} {T : List Value} {p0 p1 : Value} (h : PtSt w pb T [p0, p1] W) (hpb : w.heap.size < pb) (x y : Value) : PtSt w pb T [x, y] ((W.setCell ⟨pb, 0, none⟩ x).setCell ⟨pb, 1, none⟩ y) :=
 ⟨(h.bel.setCell (by show w.heap.size ≤ pb; omega) _).setCell (by show w.heap.size ≤ pb; omega) _, (h.tr.other (by show w.heap.size ≠ pb; omega) _).other (by show w.heap.size ≠ pb; omega) _, by simpa using (h.pg.set 0 x).set 1 y⟩
theorem OwnB.turn {W : World} {base pb t : Nat} {v : Value} {l : List UInt8} {P : List Value} (ho : OwnB W base v l) (hp : RowV W pb t P) (ht : 5 ≠ t) (x y : Value) : OwnB ((W.setCell ⟨pb, 0, none⟩ x).setCell ⟨pb, 1, none⟩ y) base v l :=
 owns_frame ho (((Frame.refl (fun k => k = pb) W).setCell (p := ⟨pb, 0, none⟩) rfl x).setCell (p := ⟨pb, 1, none⟩) rfl y) (fun k hk e => owns_ne ho hp ht (by rw [hk, e]))
theorem pointF_length {lvls : List (List (List ItR))} (h : LvlsOk lvls) (key : List UInt8) : ∀ (n : Nat) (p : List ItR), p.length ≤ 60 → (∀ x ∈ p, ItOk x) → (pointF lvls key n p).length ≤ 1600 * (n + 1)
 | 0, p, h60, hok => by
  have := frameB_length 0 p hok h60
  simpa [pointF] using this
 | n + 1, p, h60, hok => by
  have h1 := frameB_length (n + 1) p hok h60
  have h2 := pointF_length h key n (pageAt lvls n (belowAt p (placeN p key))) (pageAt_ok h n _).1 (pageAt_ok h n _).2.1
  rw [pointF, List.length_append]
  split
  ·omega
  ·simp; omega
set_option maxRecDepth 100000 in
set_option maxHeartbeats 2000000 in
theorem refPoint_any (lv : SlR) (lvls : List LevR) (base m : Nat) (s : SlR) (q0 : SlR × List ItR) (rest : List (SlR × List ItR)) (key : List UInt8) (w : World) (hL : LvlsOk (lvN lvls)) (hm : lvls.length = m + 1) (hm6 : m ≤ 6) (hR : RTree w base lv lvls) (hq0 : lvls[m]? = some (s, q0 :: rest)) :
  Calls Tryz.prog 90 #[.agg #[.slice lv.a lv.n lv.cap], strV key] w fun e w' => ∃ a' n' c', e = .returned (.slice a' n' c') ∧ OwnB w' w.heap.size (.slice a' n' c') (pointF (lvN lvls) key m q0.2) ∧ Below w.heap.size w w' := by
 have hbT : Below w.heap.size w (w.alloc (.cells #[.slice lv.a lv.n lv.cap] 146)) := (Below.refl _ _).alloc (Nat.le_refl _) _
 have hlast : RPage lvls m 0 s (q0 :: rest) q0 := ⟨hq0, rfl⟩
 have HRT : Hid (Calls _ _ _ _ _) := root_any lv lvls m s q0.1 q0.2 rest base (w.alloc (.cells #[.slice lv.a lv.n lv.cap] 146)) (hR.below hbT).own hm (by omega) hq0 (by
  have h1 := (hR.below hbT).ok m (by omega)
  rw [(List.getElem?_eq_some_iff.1 hq0).2] at h1
  exact h1)
 have HTR : Hid (RowV (w.alloc (.cells #[.slice lv.a lv.n lv.cap] 146)) w.heap.size 146 [.slice lv.a lv.n lv.cap]) := RowV.new w _ _
 have HBT : Hid (Below w.heap.size w (w.alloc (.cells #[.slice lv.a lv.n lv.cap] 146))) := hbT
 -- what a page is asked, wherever it lies
 have HFR : Hid (∀ (W : World) (n j : Nat) (s' : SlR) (ps' : List (SlR × List ItR)) (qa : Option Addr) (qc : Nat) (l : List ItR), Below w.heap.size w W → n ≤ 6 → RPage lvls n j s' ps' (⟨qa, l.length, qc⟩, l) → Calls Tryz.prog 124 #[.agg #[.int .i64 (n : Int), .slice qa l.length qc]] W fun e w' => ∃ a' n' c', e = .returned (.slice a' n' c') ∧ OwnB w' W.heap.size (.slice a' n' c') (frameB n l) ∧ Below W.heap.size W w') := fun W n j s' ps' qa qc l hb hn hp =>
  framed_any n qa l.length qc l W rfl (by have := (hp.ok hL).1; simp only at this; omega) (by omega) (hp.ok hL).2.1 (hp.sl (hR.below hb)).1
 have HFI : Hid (∀ (W : World) (n j : Nat) (s' : SlR) (ps' : List (SlR × List ItR)) (qa : Option Addr) (qc : Nat) (l : List ItR), Below w.heap.size w W → RPage lvls (n + 1) j s' ps' (⟨qa, l.length, qc⟩, l) → Calls Tryz.prog 33 #[.agg #[.int .i64 ((n : Int) + 1), .slice qa l.length qc], .string ⟨key.toArray⟩] W fun e w' => e = .returned (.int .i64 (placeN l key : Int)) ∧ Below W.heap.size W w') := fun W n j s' ps' qa qc l hb hp => by
  have := firstR_any (n + 1) qa qc l key W (by have := (hp.ok hL).1; simp only at this; omega) (hp.sl (hR.below hb)).1
  rw [show ((n + 1 : Nat) : Int) = (n : Int) + 1 by omega] at this
  exact this
 have HBE : Hid (∀ (W : World) (n j : Nat) (s' : SlR) (ps' : List (SlR × List ItR)) (qa : Option Addr) (qc : Nat) (l : List ItR) (i : Nat) (hi : i < l.length), Below w.heap.size w W → n ≤ 6 → RPage lvls (n + 1) j s' ps' (⟨qa, l.length, qc⟩, l) → ∃ (j2 : Nat) (s2 : SlR) (ps2 : List (SlR × List ItR)) (qa2 : Option Addr) (qc2 : Nat) (l2 : List ItR), RPage lvls n j2 s2 ps2 (⟨qa2, l2.length, qc2⟩, l2) ∧ pageAt (lvN lvls) n (belowAt l i) = l2 ∧
   Calls Tryz.prog 125 #[.agg #[.slice lv.a lv.n lv.cap], .agg #[.int .i64 ((n : Int) + 1), .slice qa l.length qc], .int .i64 (i : Int)] W fun e w' => e = .returned (.agg #[.int .i64 (n : Int), .slice qa2 l2.length qc2]) ∧ Below W.heap.size W w') := fun W n j s' ps' qa qc l i hi hb hn hp => by
  obtain ⟨s2, ps2, ⟨⟨qa2, qn2, qc2⟩, l2⟩, hp2, he2, hc2⟩ := hp.down hL i hi
  have hn2 := (hp2.sl (hR.below hb)).2
  simp only at hn2 he2
  subst hn2
  refine ⟨_, s2, ps2, qa2, qc2, l2, hp2, he2, ?_⟩
  exact below_any lv lvls base n s2 ps2 qa qc l i hi _ W (hR.below hb) hp2.lv (by omega) (by have := (hp.ok hL).1; simp only at this; omega) (hp.sl (hR.below hb)).1 (by omega) hp2.pg
 have HLE : Hid (∀ (n j : Nat) (s' : SlR) (ps' : List (SlR × List ItR)) (q : SlR × List ItR), RPage lvls n j s' ps' q → q.2.length ≤ 60 ∧ (∀ x ∈ q.2, ItOk x)) := fun n j s' ps' q hp => ⟨(hp.ok hL).1, (hp.ok hL).2.1⟩
 have hn0 := (hlast.sl hR).2
 have HTOT : Hid ((pointF (lvN lvls) key m q0.2).length ≤ 12000) := by
  have := pointF_length hL key m q0.2 (hlast.ok hL).1 (hlast.ok hL).2.1
  unfold Hid; omega
 have hm6I : (m : Int) ≤ 6 := by omega
 obtain ⟨⟨qa, qn, qc⟩, l⟩ := q0
 simp only at hn0 HTOT HRT ⊢
 subst hn0
 have HL0 : Hid (RPage lvls m 0 s ((⟨qa, l.length, qc⟩, l) :: rest) (⟨qa, l.length, qc⟩, l)) := hlast
 have hll : (l.length : Int) ≤ 60 := by have := (hlast.ok hL).1; simp only at this; omega
 clear hR hlast hq0 hbT
 unfold strV
 go_enter Tryz.func90, Tryz.ntmps90
 go_wp2_with fail
 refine HRT.out.mono ?_
 rintro e w1 ⟨rfl, hb1⟩
 have hz1 : w.heap.size < w1.heap.size := by have := hb1.size; simp at this; omega
 have HS2 : Hid (PtSt w w1.heap.size [.slice lv.a lv.n lv.cap] [.int .i64 (m : Int), .slice qa l.length qc] (w1.alloc (.cells #[.int .i64 (m : Int), .slice qa l.length qc] 80))) :=
  ⟨(HBT.out.trans (hb1.mono (by simp))).alloc (by omega) _, (HTR.out.below HTR.out.lt hb1).alloc _, RowV.new w1 _ _⟩
 clear hb1
 go_wp2_with fail
 refine (HFR.out _ m 0 s _ qa qc l (by exact HS2.out.bel) hm6 HL0.out).mono ?_
 rintro e w2 ⟨a2, n2, c2, rfl, ho2, hb2⟩
 have HS3 : Hid (PtSt w w1.heap.size [.slice lv.a lv.n lv.cap] [.int .i64 (m : Int), .slice qa l.length qc] w2) := HS2.out.next hb2
 have HO3 : Hid (OwnB w2 (w1.heap.size + 1) (.slice a2 n2 c2) (frameB m l)) := by unfold Hid; simpa using ho2
 clear ho2 hb2
 go_wp2
 go_loopw [6, 7] (fun b _ wr => ∃ (n j : Nat) (s' : SlR) (ps' : List (SlR × List ItR)) (qa' : Option Addr) (qc' : Nat) (l' : List ItR) (pre : List UInt8) (a' : Option Addr) (n' c' : Nat), n ≤ 6 ∧ b = .slice a' n' c' ∧ Hid (RPage lvls n j s' ps' (⟨qa', l'.length, qc'⟩, l')) ∧ Hid (PtSt w w1.heap.size [.slice lv.a lv.n lv.cap] [.int .i64 (n : Int), .slice qa' l'.length qc'] wr) ∧ Hid (OwnB wr (w1.heap.size + 1) (.slice a' n' c') (pre ++ frameB n l')) ∧ Hid (pointF (lvN lvls) key m l = pre ++ pointF (lvN lvls) key n l'))
  (fun _ _ wr => match wr.cell? ⟨w1.heap.size, 0, none⟩ with | some (.int _ x) => x.toNat | _ => 0)
 case atStart => exact ⟨m, 0, s, _, qa, qc, l, [], a2, n2, c2, hm6, rfl, HL0, HS3, HO3, rfl⟩
 case round =>
  obtain ⟨n, j, s', ps', qa', qc', l', pre, a', n', c', hn6, rfl, HP, HS, HO, HE⟩ := hrel
  have hS := HS.out
  cases n with
  | zero =>
   have p0 : wr.cell? ⟨w1.heap.size, 0, none⟩ = some (.int .i64 0) := hS.pg.cell 0 (by simp)
   clear hS
   go_wp2
   go_ret
   refine ⟨a', n', c', rfl, ?_, HS.out.bel⟩
   rw [HE.out]
   exact owns_base HO.out (fun k hk => by have := (HO.out.lt k hk).1; omega)
  | succ n =>
   have e1 : ((n + 1 : Nat) : Int) = (n : Int) + 1 := by omega
   have hll' : (l'.length : Int) ≤ 60 := by have := (HLE.out _ _ _ _ _ HP.out).1; simp only at this; omega
   rw [e1] at hS HS
   have p0 : wr.cell? ⟨w1.heap.size, 0, none⟩ = some (.int .i64 ((n : Int) + 1)) := hS.pg.cell 0 (by simp)
   have p1 : wr.cell? ⟨w1.heap.size, 1, none⟩ = some (.slice qa' l'.length qc') := hS.pg.cell 1 (by simp)
   have P0 : Hid (wr.cell? ⟨w1.heap.size, 0, none⟩ = some (.int .i64 ((n : Int) + 1))) := p0
   have HFI1 : Hid (Calls _ _ _ _ _) := HFI.out wr n j s' ps' qa' qc' l' hS.bel HP.out
   have hple := placeN_le l' key
   have hnI : (n : Int) ≤ 5 := by omega
   by_cases hpl : placeN l' key < l'.length
   ·have HE2 : Hid (pointF (lvN lvls) key (n + 1) l' = frameB (n + 1) l' ++ pointF (lvN lvls) key n (pageAt (lvN lvls) n (belowAt l' (placeN l' key)))) := by unfold Hid; rw [pointF, if_pos hpl]
    have HBE1 : Hid (∀ (W : World), Below w.heap.size w W → ∃ (j2 : Nat) (s2 : SlR) (ps2 : List (SlR × List ItR)) (qa2 : Option Addr) (qc2 : Nat) (l2 : List ItR), RPage lvls n j2 s2 ps2 (⟨qa2, l2.length, qc2⟩, l2) ∧ pageAt (lvN lvls) n (belowAt l' (placeN l' key)) = l2 ∧ Calls _ _ _ W _) := fun W hb => HBE.out W n j s' ps' qa' qc' l' (placeN l' key) hpl hb (by omega) HP.out
    generalize placeN l' key = k at *
    have hne : ((k : Int) == (l'.length : Int)) = false := by simp; omega
    have hkI : (k : Int) < l'.length := by omega
    have hkI0 : (k : Int) ≠ l'.length := by omega
    clear hS
    go_wp2_with (go_at_call 33; refine HFI1.out.mono ?_; rintro e w3 ⟨rfl, hb3⟩; have hS3 := PtSt.next HS.out hb3; have p0 : w3.cell? ⟨w1.heap.size, 0, none⟩ = some (.int .i64 ((n : Int) + 1)) := hS3.pg.cell 0 (by simp); have p1 : w3.cell? ⟨w1.heap.size, 1, none⟩ = some (.slice qa' l'.length qc') := hS3.pg.cell 1 (by simp); have t0 : w3.cell? ⟨w.heap.size, 0, none⟩ = some (.slice lv.a lv.n lv.cap) := hS3.tr.cell 0 (by simp))
    obtain ⟨j2, s2, ps2, qa2, qc2, l2, hp2, he2, hc2⟩ := HBE1.out w3 hS3.bel
    refine hc2.mono ?_
    rintro e w4 ⟨rfl, hb4⟩
    have hS4 := hS3.next hb4
    have r0 : w4.cell? ⟨w1.heap.size, 0, none⟩ = some (.int .i64 ((n : Int) + 1)) := hS4.pg.cell 0 (by simp)
    have r1 : w4.cell? ⟨w1.heap.size, 1, none⟩ = some (.slice qa' l'.length qc') := hS4.pg.cell 1 (by simp)
    have f0 : w4.frozen? ⟨w1.heap.size, 0, none⟩ = false := hS4.pg.frozen 0
    have f1 : w4.frozen? ⟨w1.heap.size, 1, none⟩ = false := hS4.pg.frozen 1
    have HO4 : Hid (OwnB w4 (w1.heap.size + 1) (.slice a' n' c') (pre ++ frameB (n + 1) l')) := owns_below (owns_below HO.out hb3) hb4
    have HS5 : Hid (PtSt w w1.heap.size [.slice lv.a lv.n lv.cap] [.int .i64 (n : Int), .slice qa2 l2.length qc2] ((w4.setCell ⟨w1.heap.size, 0, none⟩ (.int .i64 (n : Int))).setCell ⟨w1.heap.size, 1, none⟩ (.slice qa2 l2.length qc2))) := hS4.turn hz1 _ _
    have HO5 : Hid (OwnB ((w4.setCell ⟨w1.heap.size, 0, none⟩ (.int .i64 (n : Int))).setCell ⟨w1.heap.size, 1, none⟩ (.slice qa2 l2.length qc2)) (w1.heap.size + 1) (.slice a' n' c') (pre ++ frameB (n + 1) l')) := OwnB.turn HO4.out hS4.pg (by decide) _ _
    have HP2 : Hid (RPage lvls n j2 s2 ps2 (⟨qa2, l2.length, qc2⟩, l2)) := hp2
    have HE3 : Hid (pointF (lvN lvls) key m l = (pre ++ frameB (n + 1) l') ++ pointF (lvN lvls) key n l2) := by
     unfold Hid
     rw [HE.out, HE2.out, he2, List.append_assoc]
    have HLN : Hid ((pre ++ frameB (n + 1) l').length + (frameB n l2).length ≤ 140737488355328) := by
     have h1 := HTOT.out
     rw [HE3.out, List.length_append] at h1
     have h2 := frameB_length n l2 (HLE.out _ _ _ _ _ hp2).2 (HLE.out _ _ _ _ _ hp2).1
     unfold Hid; omega
    clear hS4 hS3 hb3 hb4 he2 hp2 hc2 HE2 HE HO HS
    go_wp2_with fail
    refine (HFR.out _ n j2 s2 ps2 qa2 qc2 l2 (by exact HS5.out.bel) (by omega) HP2.out).mono ?_
    rintro e w6 ⟨a6, n6, c6, rfl, ho6, hb6⟩
    obtain ⟨hs6, hn6', hnil6⟩ := OwnB.sl ho6
    have HO6 : Hid (OwnB w6 (w1.heap.size + 1) (.slice a' n' c') (pre ++ frameB (n + 1) l')) := owns_below HO5.out hb6
    have HS6 : Hid (PtSt w w1.heap.size [.slice lv.a lv.n lv.cap] [.int .i64 (n : Int), .slice qa2 l2.length qc2] w6) := HS5.out.next hb6
    have HN6 : Hid (n6 = (frameB n l2).length) := hn6'
    have HB6 : Hid (w1.heap.size + 1 ≤ w6.heap.size) := by have := HS6.out.pg.lt; unfold Hid; omega
    clear ho6 hb6 hn6'
    go_wp2_with (at_builtin; refine wp_appendB (by rfl) (.tmp 27) (.tmp 29) (by rfl) (w1.heap.size + 1) _ (pre ++ frameB (n + 1) l') (by rfl) HO6.out a6 n6 c6 (frameB n l2) (by rfl) HN6.out hs6 hnil6 HLN.out HB6.out ?_; intro a7 n7 c7 w7 hn7 ho7 hs7 hf7 hat7; have HO7 : Hid (OwnB w7 (w1.heap.size + 1) (.slice a7 n7 c7) _) := ho7; have HS7 : Hid (PtSt w _ _ _ w7) := PtSt.frame HS6.out HO6.out (by omega) hf7; clear hn7 ho7 hs7 hf7 hat7)
    have m1 : w7.cell? ⟨w1.heap.size, 0, none⟩ = some (.int .i64 (n : Int)) := HS7.out.pg.cell 0 (by simp)
    refine ⟨⟨n, j2, s2, ps2, qa2, qc2, l2, pre ++ frameB (n + 1) l', a7, n7, c7, by omega, rfl, HP2, HS7, HO7, HE3⟩, ?_⟩
    rw [m1, P0.out]
    simp
   ·have hpe : placeN l' key = l'.length := by omega
    have HE2 : Hid (pointF (lvN lvls) key (n + 1) l' = frameB (n + 1) l') := by unfold Hid; rw [pointF, if_neg hpl, List.append_nil]
    rw [hpe] at HFI1
    clear hS hpe hpl hple
    go_wp2_with (go_at_call 33; refine HFI1.out.mono ?_; rintro e w3 ⟨rfl, hb3⟩; have hS3 := PtSt.next HS.out hb3; have p0 : w3.cell? ⟨w1.heap.size, 0, none⟩ = some (.int .i64 ((n : Int) + 1)) := hS3.pg.cell 0 (by simp); have p1 : w3.cell? ⟨w1.heap.size, 1, none⟩ = some (.slice qa' l'.length qc') := hS3.pg.cell 1 (by simp))
    go_ret
    refine ⟨a', n', c', rfl, ?_, hS3.bel⟩
    rw [HE.out, HE2.out]
    exact owns_base (owns_below HO.out hb3) (fun k hk => by have := (HO.out.lt k hk).1; omega)
end Go.Proofs.YtekegfbjbainhaaGreat


namespace Go.Proofs.YtekegfbjbainhaaGreat
open Go.RowKit
def prfB (p : List ItR) (fr tu : List UInt8) : List UInt8 := rangeF (grownN p) fr tu (rootLevel p) (rootPage p)
def epochBad (n : Nat) (e : Int) : Bool := decide (e < 0) || decide ((n : Int) ≤ e)
def prvE (n : Nat) (e : Int) (key : List UInt8) : Nat := if epochBad n e = true then 4 else if keyOk key = false then 1 else 0
def rngOk (fr tu : List UInt8) : Bool := keyOk fr && keyOk tu && Op.bytesLess fr tu
def rngE (n : Nat) (e : Int) (fr tu : List UInt8) : Nat := if epochBad n e = true then 4 else if rngOk fr tu = false then 1 else 0
def pastAt (pp : List (List ItR)) (e : Int) : List ItR := pp.getD e.toNat []
def prvB (pp : List (List ItR)) (e : Int) (key : List UInt8) : List UInt8 := if prvE pp.length e key = 0 then prfB (pastAt pp e) key key else []
def rngB (pp : List (List ItR)) (e : Int) (fr tu : List UInt8) : List UInt8 := if rngE pp.length e fr tu = 0 then prfB (pastAt pp e) fr tu else []
def PastR (p : List ItR) : Prop := RiseK p ∧ (∀ x ∈ p, ItOk x) ∧ p.length ≤ 60
theorem point_prf (l : List ItR) (h : PastR l) (key : List UInt8) : pointF (grownN l) key (rootLevel l) (rootPage l) = prfB l key key := by
 unfold prfB
 have hL := grown_lv l h.1 h.2.1 h.2.2
 refine point_range hL key (fun p hp => rising_place p key hp) _ _ ?_
 have e : rootPage l = pageAt (grownN l) (rootLevel l) 0 := by
  unfold rootPage pageAt rootLevel
  cases ((grownN l)[(grownN l).length - 1]?.getD []) <;> rfl
 rw [e]
 exact (pageAt_ok hL _ _).2.2
set_option maxRecDepth 100000 in
set_option maxHeartbeats 1000000 in
theorem refProve_epoch (rb : Nat) (now past roots : SlR) (nowL : List ItR) (pastL : List (SlR × List ItR)) (rootsL : List (List UInt8)) (e : Int) (kv : Value) (w : World) (h : RefAt w rb 0 now past roots nowL pastL rootsL) (hp : pastL.length ≤ 40) (he : epochBad pastL.length e = true) :
  Calls Tryz.prog 47 #[.pointer (some ⟨rb, 0, none⟩), .int .i64 e, kv] w fun r w' => r = .returned (.tuple #[.slice none 0 0, .int .i64 4]) ∧ Below w.heap.size w w' := by
 have hn := (owns_cap (a := past.a) (n' := past.n) (cap := past.cap) h.hpast).1
 have c1 : w.cell? ⟨rb, 1, none⟩ = some (.slice past.a past.n past.cap) := RowV.cell h.row 1 (by simp)
 have hpI : (past.n : Int) ≤ 40 := by omega
 by_cases h0 : e < 0
 ·clear hn h he
  go_enter Tryz.func47, Tryz.ntmps47
  go_wp2
  go_ret2
  exact ⟨rfl, Below.refl _ _⟩
 ·have h1 : (past.n : Int) ≤ e := by
   unfold epochBad at he
   simp [h0] at he
   omega
  clear hn h he
  go_enter Tryz.func47, Tryz.ntmps47
  go_wp2
  go_ret2
  exact ⟨rfl, Below.refl _ _⟩
theorem epoch_in {n : Nat} {e : Int} (h : epochBad n e = false) : ∃ k : Nat, e = k ∧ k < n := by
 unfold epochBad at h
 simp at h
 exact ⟨e.toNat, by omega, by omega⟩
set_option maxRecDepth 100000 in
set_option maxHeartbeats 1000000 in
theorem refProve_arg (rb : Nat) (now past roots : SlR) (nowL : List ItR) (pastL : List (SlR × List ItR)) (rootsL : List (List UInt8)) (k : Nat) (sk : SlR) (key : List UInt8) (w : World) (h : RefAt w rb 0 now past roots nowL pastL rootsL) (hp : pastL.length ≤ 40) (hk : k < pastL.length) (hK : BS w sk key) (hkm : key.length ≤ maxLen) (ha : keyOk key = false) :
  Calls Tryz.prog 47 #[.pointer (some ⟨rb, 0, none⟩), .int .i64 (k : Int), sk.val] w fun r w' => r = .returned (.tuple #[.slice none 0 0, .int .i64 1]) ∧ Below w.heap.size w w' := by
 have hn := (owns_cap (a := past.a) (n' := past.n) (cap := past.cap) h.hpast).1
 have c1 : w.cell? ⟨rb, 1, none⟩ = some (.slice past.a past.n past.cap) := RowV.cell h.row 1 (by simp)
 have hpI : (past.n : Int) ≤ 40 := by omega
 have hkI : (k : Int) < past.n := by omega
 have HKF : Hid (Calls _ _ _ _ _) := keyFits_any sk.a sk.n sk.cap w (by rw [hK.n]; exact hkm)
 have hkb : (decide (1 ≤ sk.n) && decide (sk.n ≤ 12)) = false := by rw [hK.n]; exact ha
 rw [hkb] at HKF
 clear hn h hkb hK
 unfold SlR.val
 go_enter Tryz.func47, Tryz.ntmps47
 go_wp2_with (go_at_call 31; refine HKF.out.mono ?_; rintro e w1 ⟨rfl, hw1⟩; obtain rfl : w = w1 := hw1.symm)
 go_ret2
 exact ⟨rfl, Below.refl _ _⟩
set_option maxRecDepth 100000 in
set_option maxHeartbeats 1000000 in
theorem refProve_ok (rb : Nat) (now past roots : SlR) (nowL : List ItR) (pastL : List (SlR × List ItR)) (rootsL : List (List UInt8)) (k : Nat) (sk : SlR) (key : List UInt8) (w : World) (h : RefAt w rb 0 now past roots nowL pastL rootsL) (hp : pastL.length ≤ 40) (hk : k < pastL.length) (hP : PastR pastL[k].2) (hK : BS w sk key) (ha : keyOk key = true) :
  Calls Tryz.prog 47 #[.pointer (some ⟨rb, 0, none⟩), .int .i64 (k : Int), sk.val] w fun r w' => ∃ a' n' c', r = .returned (.tuple #[.slice a' n' c', .int .i64 0]) ∧ OwnB w' w.heap.size (.slice a' n' c') (prfB pastL[k].2 key key) ∧ Below w.heap.size w w' := by
 obtain ⟨hps, hn⟩ := SlV.ofOwn (s := past) h.hpast
 have c1 : w.cell? ⟨rb, 1, none⟩ = some (.slice past.a past.n past.cap) := RowV.cell h.row 1 (by simp)
 obtain ⟨b, o, hpa, hb, hcell⟩ := hps k (by simpa using hk)
 have c2 : w.cell? ⟨b, o + k, none⟩ = some (.slice pastL[k].1.a pastL[k].1.n pastL[k].1.cap) := by rw [hcell]; simp [SlR.val]
 have hpI : (past.n : Int) ≤ 40 := by omega
 have hkI : (k : Int) < past.n := by omega
 have hk12 : 1 ≤ key.length ∧ key.length ≤ 12 := by unfold keyOk at ha; simpa using ha
 have HKF : Hid (Calls _ _ _ _ _) := keyFits_any sk.a sk.n sk.cap w (by rw [hK.n]; unfold maxLen; omega)
 have hkb : (decide (1 ≤ sk.n) && decide (sk.n ≤ 12)) = true := by rw [hK.n]; exact ha
 rw [hkb] at HKF
 obtain ⟨hits, hitn⟩ := SlV.ofOwn (s := pastL[k].1) (h.hpok pastL[k] (List.getElem_mem hk))
 have HGR : Hid (Calls _ _ _ _ _) := grown_any pastL[k].1 pastL[k].2 w hitn (by have := hP.2.2; omega) hP.2.1 hits
 have HCV : Hid (∀ W, Below w.heap.size w W → (convert 38 9 (.slice sk.a sk.n sk.cap)).run Tryz.prog W = .ok (.string ⟨key.toArray⟩) W) := fun W hW => run_string_SlB (P := Tryz.prog) W 38 9 5 sk.a sk.n sk.cap key Tryz.underlying38 Tryz.underlying5 Tryz.underlying9 hK.n (hK.below hW).sl hK.nil
 have HPP : Hid (PastR pastL[k].2) := hP
 generalize pastL[k] = pk at *
 obtain ⟨pa, pn, pc⟩ := past
 simp only at hpa hpI hkI c1
 subst hpa
 clear hn h hkb hK hps hcell hits hitn hP ha hk12
 unfold SlR.val
 go_enter Tryz.func47, Tryz.ntmps47
 go_wp2_with (go_at_call 31; refine HKF.out.mono ?_; rintro e w1 ⟨rfl, hw1⟩; obtain rfl : w = w1 := hw1.symm; clear hw1)
 refine HGR.out.mono ?_
 rintro e w1 ⟨lv, rfl, lvls, ho1, hok1, hN1, hb1⟩
 obtain ⟨m, s, q, ql, rest, hm1, hm2, hm3, hm4, hm5, _, _⟩ := lvls_last hN1 HPP.out.2.1 (by have := HPP.out.2.2; omega)
 have hbA : Below w1.heap.size w1 (w1.alloc (.cells #[.slice lv.a lv.n lv.cap] 146)) := (Below.refl _ _).alloc (Nat.le_refl _) _
 have hcv := HCV.out (w1.alloc (.cells #[.slice lv.a lv.n lv.cap] 146)) (hb1.alloc hb1.size _)
 have HPT : Hid (Calls _ _ _ _ _) := refPoint_any lv lvls w.heap.size m s (q, ql) rest key (w1.alloc (.cells #[.slice lv.a lv.n lv.cap] 146)) (by rw [hN1]; exact grown_lv _ HPP.out.1 HPP.out.2.1 HPP.out.2.2) hm1 hm2 (RTree.below ⟨ho1, hok1⟩ hbA) hm3
 rw [hN1, ← hm4, ← hm5, point_prf _ HPP.out] at HPT
 unfold strV at HPT
 have HB1 : Hid (Below w.heap.size w w1) := hb1
 clear ho1 hok1 hN1 hb1 hm1 hm2 hm3 hm4 hm5 hbA
 go_wp2_with fail
 refine HPT.out.mono ?_
 rintro e w2 ⟨a2, n2, c2', rfl, ho2, hb2⟩
 go_wp2
 go_ret2
 refine ⟨a2, n2, c2', rfl, owns_base ho2 (fun k hk => by have := (ho2.lt k hk).1; have := HB1.out.size; simp at *; omega), (HB1.out.alloc HB1.out.size _).trans (hb2.mono (by have := HB1.out.size; simp; omega))⟩
end Go.Proofs.YtekegfbjbainhaaGreat


namespace Go.Proofs.YtekegfbjbainhaaGreat
open Go.RowKit
theorem appendPages_any (lvls : List (List (List ItR))) (L : List (List Nd)) (hT : TreeRep lvls L) (hL : LvlsOk lvls) (sf st : SlR) (fr tu : List UInt8) : ∀ (n j : Nat) (nds : List Nd) (x : Nd) (v : SlR) (l : List UInt8) (base : Nat) (w : World), L[n]? = some nds → nds[j]? = some x → TrAt w base L → BLow w base sf fr → BLow w base st tu → base ≤ w.heap.size → OwnB w base v.val l → l.length + (rangeF lvls fr tu n (pageAt lvls n j)).length ≤ 140737488355328 →
  Calls Tryz.prog 126 #[v.val, .pointer (some ⟨x.b, 0, none⟩), sf.val, st.val] w fun e w' => ∃ v' : SlR, e = .returned v'.val ∧ OwnB w' base v'.val (l ++ rangeF lvls fr tu n (pageAt lvls n j)) ∧ Frame (fun k => v.val.ownBlock = some k) w w' ∧ (∀ k, v'.val.ownBlock = some k → k < w.heap.size → v.val.ownBlock = some k)
 | 0, j, nds, x, v, l, base, w, h1, h2, hA, hF, hS, hb, ho, hlen => by
  obtain ⟨e1, e2, _⟩ := hT.node h1 h2
  obtain ⟨h60, hok, _⟩ := pageAt_ok hL 0 j
  have hbl := hT.low' h1 h2
  have h6 : (codeB 0 (pageAt lvls 0 j)).length ≤ 6000 := by
   have := frameB_length 0 _ hok h60
   simp only [frameB, List.length_cons] at this
   omega
  have hfl : (rangeF lvls fr tu 0 (pageAt lvls 0 j)).length = 2 + (codeB 0 (pageAt lvls 0 j)).length := by
   simp only [rangeF, frameB, List.length_cons]; omega
  have h := pages_step L sf st fr tu x v l (codeB 0 (pageAt lvls 0 j)) [] [] base w hA ⟨nds, List.mem_of_getElem? h1, List.mem_of_getElem? h2⟩ hF hS hb ho (by rw [e1, e2, code_norm]) h6 (by rw [hbl]; rfl) (by simp) (fun W _ i _ h => absurd h (Nat.not_lt_zero _)) rfl (by simp; omega) (fun t _ ht => absurd ht (Nat.not_lt_zero _))
  rw [List.flatten_nil, List.append_nil] at h
  exact h
 | n + 1, j, nds, x, v, l, base, w, h1, h2, hA, hF, hS, hb, ho, hlen => by
  obtain ⟨e1, e2, _⟩ := hT.node h1 h2
  obtain ⟨h60, hok, _⟩ := pageAt_ok hL (n + 1) j
  obtain ⟨hbl, hdn⟩ := hT.down hL h1 h2
  have h6 : (codeB (n + 1) (pageAt lvls (n + 1) j)).length ≤ 6000 := by
   have := frameB_length (n + 1) _ hok h60
   simp only [frameB, List.length_cons] at this
   omega
  have hbeh : behindF lvls fr tu n (pageAt lvls (n + 1) j) (pageAt lvls (n + 1) j).length = ((selI (pageAt lvls (n + 1) j) fr tu (pageAt lvls (n + 1) j).length).map (fun i => rangeF lvls fr tu n (pageAt lvls n (belowAt (pageAt lvls (n + 1) j) i)))).flatten := by
   rw [behind_places]; rfl
  have hfl : (rangeF lvls fr tu (n + 1) (pageAt lvls (n + 1) j)).length = 2 + (codeB (n + 1) (pageAt lvls (n + 1) j)).length + (behindF lvls fr tu n (pageAt lvls (n + 1) j) (pageAt lvls (n + 1) j).length).length := by
   rw [rangeF_succ]
   simp only [frameB, List.length_append, List.length_cons]; omega
  have h := pages_step L sf st fr tu x v l (codeB (n + 1) (pageAt lvls (n + 1) j)) (pageAt lvls (n + 1) j) ((selI (pageAt lvls (n + 1) j) fr tu (pageAt lvls (n + 1) j).length).map (fun i => rangeF lvls fr tu n (pageAt lvls n (belowAt (pageAt lvls (n + 1) j) i)))) base w hA ⟨nds, List.mem_of_getElem? h1, List.mem_of_getElem? h2⟩ hF hS hb ho (by rw [e1, e2, code_norm]) h6 hbl.symm (by omega)
   (fun W hW i hi1 hi2 => by
    obtain ⟨nds', y, g1, g2, g3, g4⟩ := hdn i hi2
    have hy := hW.ok nds' (List.mem_of_getElem? g1) y (List.mem_of_getElem? g2)
    rw [List.getElem?_eq_getElem hi1] at g3
    have g3' := Option.some.inj g3
    rw [g3']
    refine ⟨y.la, hy.row.cellP 0 _ (by simp [ndC]), hy.row.lt, ?_⟩
    have := hy.la
    rw [g4] at this
    exact this)
   (by rw [sel_places]; simp) (by rw [← hbeh]; omega)
   (fun t ht ht2 v2 l2 W hA2 hF2 hS2 hb2 ho2 hl2 => by
    have hti : t < (selI (pageAt lvls (n + 1) j) fr tu (pageAt lvls (n + 1) j).length).length := by simpa using ht2
    have hit := selI_lt (List.getElem_mem hti)
    obtain ⟨nds', y, g1, g2, g3, g4⟩ := hdn _ hit
    have es : (selF (pageAt lvls (n + 1) j) fr tu x.bl (pageAt lvls (n + 1) j).length)[t] = y.b := by
     have e : (selF (pageAt lvls (n + 1) j) fr tu x.bl (pageAt lvls (n + 1) j).length)[t]? = some y.b := by
      rw [sel_places, List.getElem?_map, List.getElem?_eq_getElem hti]
      simp only [Option.map_some, List.getD_eq_getElem?_getD]
      rw [g3]; rfl
     exact (List.getElem?_eq_some_iff.1 e).2
    rw [es]
    simp only [List.getElem_map] at hl2 ⊢
    exact appendPages_any lvls L hT hL sf st fr tu n _ nds' y v2 l2 base W g1 g2 hA2 hF2 hS2 hb2 ho2 hl2)
  rw [← hbeh] at h
  rw [rangeF_succ, ← List.append_assoc]
  exact h
theorem TreeRep.root {p : List ItR} {L : List (List Nd)} (h : TreeRep (grownN p) L) {ℓ : Nat} (hl : L.length = ℓ + 1) (fr tu : List UInt8) : prfB p fr tu = rangeF (grownN p) fr tu ℓ (pageAt (grownN p) ℓ 0) := by
 have e : (grownN p).length = ℓ + 1 := by
  have := congrArg List.length h.its
  simp only [List.length_map] at this
  omega
 have e2 : rootPage p = pageAt (grownN p) ℓ 0 := by
  unfold rootPage pageAt
  rw [e, show ℓ + 1 - 1 = ℓ by omega]
  cases ((grownN p)[ℓ]?.getD []) <;> rfl
 unfold prfB
 rw [e2, show rootLevel p = ℓ by unfold rootLevel; omega]
set_option maxRecDepth 100000 in
set_option maxHeartbeats 400000 in
theorem ofRange_any (p : List ItR) (hP : PastR p) (L : List (List Nd)) (hT : TreeRep (grownN p) L) (ℓ : Nat) (nd : Nd) (hl : L.length = ℓ + 1) (hr : L[ℓ]? = some [nd]) (sf st : SlR) (fr tu : List UInt8) (w : World) (hA : ∀ nds ∈ L, ∀ x ∈ nds, NdOk w x) (hF : BS w sf fr) (hS : BS w st tu) :
  Calls Tryz.prog 92 #[.pointer (some ⟨nd.b, 0, none⟩), sf.val, st.val] w fun e w' => ∃ v' : SlR, e = .returned v'.val ∧ OwnB w' w.heap.size v'.val (prfB p fr tu) ∧ Below w.heap.size w w' := by
 have hL := grown_lv p hP.1 hP.2.1 hP.2.2
 have hℓ : ℓ ≤ 6 := by
  have := congrArg List.length hT.its
  simp only [List.length_map] at this
  have := hL.len
  omega
 have HC : Hid (Calls _ _ _ _ _) := appendPages_any (grownN p) L hT hL sf st fr tu ℓ 0 [nd] nd ⟨none, 0, 0⟩ [] w.heap.size w hr rfl ⟨hA, fun nds hn x hx => (hA nds hn x hx).lt⟩ ⟨hF, hF.lt⟩ ⟨hS, hS.lt⟩ (Nat.le_refl _) (World.ownsRow_nil _ _ _ _) (by
  have := range_small hL fr tu ℓ hℓ _ (pageAt_ok hL ℓ 0).1 (pageAt_ok hL ℓ 0).2.1
  simp; omega)
 rw [List.nil_append, ← hT.root hl] at HC
 unfold SlR.val at HC ⊢
 clear hA hF hS hL
 go_enter Tryz.func92, Tryz.ntmps92
 go_wp2_with (go_at_call 126; refine HC.out.mono ?_; rintro e w1 ⟨v1, rfl, ho1, hf1, hv1⟩)
 go_ret
 exact ⟨v1, rfl, ho1, hf1.below (Nat.le_refl _) (fun k hk => by cases hk)⟩
set_option maxRecDepth 100000 in
set_option maxHeartbeats 400000 in
theorem ofKey_any (p : List ItR) (hP : PastR p) (L : List (List Nd)) (hT : TreeRep (grownN p) L) (ℓ : Nat) (nd : Nd) (hl : L.length = ℓ + 1) (hr : L[ℓ]? = some [nd]) (sk : SlR) (key : List UInt8) (w : World) (hA : ∀ nds ∈ L, ∀ x ∈ nds, NdOk w x) (hK : BS w sk key) :
  Calls Tryz.prog 89 #[.pointer (some ⟨nd.b, 0, none⟩), sk.val] w fun e w' => ∃ v' : SlR, e = .returned v'.val ∧ OwnB w' w.heap.size v'.val (prfB p key key) ∧ Below w.heap.size w w' := by
 have HC : Hid (Calls _ _ _ _ _) := ofRange_any p hP L hT ℓ nd hl hr sk sk key key w hA hK hK
 unfold SlR.val at HC ⊢
 clear hA hK
 go_enter Tryz.func89, Tryz.ntmps89
 go_wp2_with (go_at_call 92; refine HC.out.mono ?_; rintro e w1 ⟨v1, rfl, ho1, hb1⟩)
 go_ret
 exact ⟨v1, rfl, ho1, hb1⟩
end Go.Proofs.YtekegfbjbainhaaGreat


namespace Go.Proofs.YtekegfbjbainhaaGreat
open Go.RowKit
def it0 : ItR := ⟨[], [], 0⟩
def selE (p : List ItR) (fr tu : List UInt8) (k : Nat) : List ItR := (List.range k).flatMap (fun i => if withB p i fr tu = true then [p.getD i it0] else [])
theorem selE_yes (p : List ItR) (fr tu : List UInt8) (k : Nat) (h : withB p k fr tu = true) : selE p fr tu (k + 1) = selE p fr tu k ++ [p.getD k it0] := by
 unfold selE
 rw [List.range_succ, List.flatMap_append]
 simp [h]
theorem selE_no (p : List ItR) (fr tu : List UInt8) (k : Nat) (h : withB p k fr tu = false) : selE p fr tu (k + 1) = selE p fr tu k := by
 unfold selE
 rw [List.range_succ, List.flatMap_append]
 simp [h]
def stepU (rec : List ItR → List UInt8 → Option (List ItR × List UInt8)) (lv : Nat) (s : List ItR × List UInt8) (x : ItR) : Option (List ItR × List UInt8) :=
 match pgO (some s.2) x.more with
 | none => none
 | some ((l, its), r) => if l = lv then (rec its r).map (fun e => (s.1 ++ e.1, e.2)) else none
def readU (fr tu : List UInt8) : Nat → List ItR → List UInt8 → Option (List ItR × List UInt8)
 | 0, its, r => some (its, r)
 | lv + 1, its, r => (selE its fr tu its.length).foldlM (stepU (readU fr tu lv) lv) ([], r)
def chkF (key : List UInt8) : Nat → List ItR → List UInt8 → Option ((Nat × List ItR) × List UInt8)
 | 0, its, r => some ((0, its), r)
 | lv + 1, its, r => if placeN its key < its.length then (match pgO (some r) (its.getD (placeN its key) it0).more with
  | none => none
  | some ((l, its'), r') => if l = lv then chkF key lv its' r' else none) else some ((lv + 1, its), r)
def ansF (key : List UInt8) : Option ((Nat × List ItR) × List UInt8) → Option (Option (List UInt8))
 | none => none
 | some ((lv, its), r) => if r = [] then some (if lv = 0 then (its.find? (fun x => x.key == key)).map (·.more) else none) else none
def checkF (root key proof : List UInt8) : Option (Option (List UInt8)) :=
 match pgO (some proof) root with
 | none => none
 | some ((lv, its), r) => ansF key (chkF key lv its r)
def inR (fr tu : List UInt8) (x : ItR) : Bool := !(Op.bytesLess x.key fr) && Op.bytesLess x.key tu
def rangeC (root fr tu proof : List UInt8) : Option (List ItR) :=
 match pgO (some proof) root with
 | none => none
 | some ((lv, its), r) => match readU fr tu lv its r with
  | none => none
  | some (es, r') => if r' = [] then some (es.filter (inR fr tu)) else none
structure PageOk (lv : Nat) (its : List ItR) : Prop where
 le6 : lv ≤ 6
 len : its.length ≤ 60
 rise : RiseK its
 key : ∀ x ∈ its, 1 ≤ x.key.length ∧ x.key.length ≤ 12
 low : lv = 0 → ∀ x ∈ its, x.more.length ≤ 12
 high : lv ≠ 0 → ∀ x ∈ its, x.more.length = 8
theorem takeB_some {n : Nat} {o : Option (List UInt8)} {r : List UInt8} (h : takeR n o = some r) : (takeB n o).length = n := by
 cases o with
 | none => cases h
 | some l =>
  have h' : (if n ≤ l.length then some (l.drop n) else none) = some r := h
  show (if n ≤ l.length then l.take n else []).length = n
  split at h'
  ·rename_i hn; rw [if_pos hn, List.length_take]; omega
  ·cases h'
theorem rise_push {its : List ItR} {x : ItR} (h : RiseK its) (hb : behindK its x.key = true) : RiseK (its ++ [x]) := by
 unfold RiseK at *
 rw [List.pairwise_append]
 refine ⟨h, List.pairwise_singleton _ _, fun a ha b hb' => ?_⟩
 simp only [List.mem_singleton] at hb'
 subst hb'
 obtain ⟨l, y, rfl⟩ : ∃ l y, its = l ++ [y] := by
  rcases List.eq_nil_or_concat its with rfl | ⟨l, y, rfl⟩
  ·cases ha
  ·exact ⟨l, y, by simp⟩
 have hy : Op.bytesLess y.key b.key = true := by simpa [behindK] using hb
 rcases List.mem_append.1 ha with hl | hl
 ·have := (List.pairwise_append.1 h).2.2 a hl y (by simp)
  exact less_trans this hy
 ·simp only [List.mem_singleton] at hl; subst hl; exact hy
theorem itemsO_ok (lv : Nat) : ∀ (n : Nat) (its : List ItR) (o : Option (List UInt8)) (res : List ItR), itemsO lv n its o = some res → RiseK its → (∀ x ∈ its, (1 ≤ x.key.length ∧ x.key.length ≤ 12) ∧ (lv = 0 → x.more.length ≤ 12) ∧ (lv ≠ 0 → x.more.length = 8)) →
  RiseK res ∧ res.length = its.length + n ∧ ∀ x ∈ res, (1 ≤ x.key.length ∧ x.key.length ≤ 12) ∧ (lv = 0 → x.more.length ≤ 12) ∧ (lv ≠ 0 → x.more.length = 8)
 | 0, its, o, res, h, h1, h2 => by
  unfold itemsO at h
  split at h
  ·cases h; exact ⟨h1, by simp, h2⟩
  ·cases h
 | n + 1, its, none, res, h, h1, h2 => by rw [itemsO_none] at h; cases h
 | n + 1, its, some l, res, h, h1, h2 => by
  unfold itemsO at h
  split at h
  case isFalse => cases h
  case isTrue hf =>
   have hr : ∃ r, entR lv (some l) = some r := by
    cases e : entR lv (some l) with
    | none => rw [e, itemsO_none] at h; cases h
    | some r => exact ⟨r, rfl⟩
   obtain ⟨r, hr⟩ := hr
   have ho : ∃ r2, entO (some l) = some r2 := by
    cases e : entO (some l) with
    | none => unfold entR at hr; rw [e] at hr; split at hr <;> cases hr
    | some r => exact ⟨r, rfl⟩
   obtain ⟨r2, ho⟩ := ho
   have hk : (entK (some l)).length = oneV (some l) := by unfold entK; unfold entO at ho; exact takeB_some ho
   unfold entFine at hf
   simp only [Bool.and_eq_true, decide_eq_true_eq, Bool.not_eq_true', Bool.and_eq_false_iff] at hf
   obtain ⟨⟨⟨hf0, hf1⟩, hf2⟩, hf3⟩ := hf
   have := itemsO_ok lv n _ _ res h (rise_push h1 hf3) (fun x hx => by
    rcases List.mem_append.1 hx with hx | hx
    ·exact h2 x hx
    ·simp only [List.mem_singleton] at hx; subst hx
     refine ⟨by show 1 ≤ (entK (some l)).length ∧ (entK (some l)).length ≤ 12; omega, fun e => ?_, fun e => ?_⟩
     ·subst e
      show (entM 0 (some l)).length ≤ 12
      have e1 : entM 0 (some l) = takeB (oneV (entO (some l))) (takeR 1 (entO (some l))) := by unfold entM; rw [if_pos rfl]
      rw [e1]
      have := takeB_length (oneV (entO (some l))) (takeR 1 (entO (some l)))
      rcases hf0 with hf0 | hf0
      ·simp at hf0
      ·have : ¬ 12 < oneV (entO (some l)) := by simpa using hf0
       omega
     ·show (entM lv (some l)).length = 8
      have e1 : entM lv (some l) = takeB 8 (entO (some l)) := by unfold entM; rw [if_neg e]
      rw [e1]
      unfold entR at hr; rw [if_neg e] at hr
      exact takeB_some hr)
   refine ⟨this.1, by rw [this.2.1]; simp; omega, this.2.2⟩
theorem pageF_ok {b : List UInt8} {lv : Nat} {its : List ItR} (h : pageF b = some (lv, its)) : PageOk lv its := by
 unfold pageF at h
 split at h
 case isFalse => cases h
 case isTrue hc =>
  cases e : itemsO (oneV (some b)) (oneV (takeR 1 (some b))) [] (takeR 1 (takeR 1 (some b))) with
  | none => rw [e] at h; cases h
  | some l =>
   rw [e] at h
   simp only [Option.map_some, Option.some.injEq, Prod.mk.injEq] at h
   obtain ⟨rfl, rfl⟩ := h
   obtain ⟨h1, h2, h3⟩ := itemsO_ok _ _ [] _ l e List.Pairwise.nil (fun x hx => by cases hx)
   exact ⟨hc.1, by rw [h2]; simp; omega, h1, fun x hx => (h3 x hx).1, fun e x hx => (h3 x hx).2.1 e, fun e x hx => (h3 x hx).2.2 e⟩
theorem pgO_ok {o : Option (List UInt8)} {d : List UInt8} {lv : Nat} {its : List ItR} {r : List UInt8} (h : pgO o d = some ((lv, its), r)) : PageOk lv its := by
 unfold pgO at h
 split at h
 ·cases h
 ·split at h
  ·cases h
  ·rename_i p hp
   split at h
   ·simp only [Option.some.injEq, Prod.mk.injEq] at h
    rw [h.1] at hp
    exact pageF_ok hp
   ·cases h
theorem selE_self {p : List ItR} (hr : RiseK p) (key : List UInt8) : selE p key key p.length = if placeN p key < p.length then [p.getD (placeN p key) it0] else [] := by
 unfold selE
 rw [flat_single _ (placeN p key) p.length]
 ·split
  ·rename_i hlt
   rw [with_self hr key _ hlt (rising_place p key hr)]
   simp
  ·rfl
 ·intro i hi hm
  rw [with_self hr key i hi (rising_place p key hr)]
  simp [hm]
theorem chk_read (key : List UInt8) : ∀ (lv : Nat) (its : List ItR) (r : List UInt8), RiseK its → readU key key lv its r = (chkF key lv its r).map (fun q => (if q.1.1 = 0 then q.1.2 else [], q.2))
 | 0, its, r, _ => rfl
 | lv + 1, its, r, h => by
  unfold readU chkF
  rw [selE_self h]
  split
  ·simp only [List.foldlM_cons, List.foldlM_nil]
   unfold stepU
   cases e : pgO (some r) (its.getD (placeN its key) it0).more with
   | none => rfl
   | some q =>
    obtain ⟨⟨l, its'⟩, r'⟩ := q
    simp only
    by_cases hl : l = lv
    ·subst hl
     simp only [if_true]
     rw [chk_read key l its' r' (pgO_ok e).rise]
     cases chkF key l its' r' <;> simp
    ·simp only [if_neg hl]; rfl
  ·simp
end Go.Proofs.YtekegfbjbainhaaGreat
