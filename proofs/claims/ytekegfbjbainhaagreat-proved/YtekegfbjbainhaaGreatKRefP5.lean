/- The reference's proof of a key, walked. -/
import Derived.Test.YtekegfbjbainhaaGreatKJoin21
namespace Go.Proofs.YtekegfbjbainhaaGreat
set_option linter.unusedVariables false
set_option linter.unusedSimpArgs false
open Go.RowKit

/-- What stands while the proof of a key is put together. -/
structure PtSt (w : World) (pb : Nat) (T P : List Value) (W : World) : Prop where
  bel : Below w.heap.size w W
  tr : RowV W w.heap.size 146 T
  pg : RowV W pb 80 P
theorem PtSt.next {w W W' : World} {pb : Nat} {T P : List Value} (h : PtSt w pb T P W) (hb : Below W.heap.size W W') : PtSt w pb T P W' := ⟨h.bel.trans (hb.mono h.bel.size), h.tr.below h.tr.lt hb, h.pg.below h.pg.lt hb⟩
theorem PtSt.frame {w W W' : World} {pb : Nat} {T P : List Value} {v : Value} {l : List UInt8} {base : Nat} (h : PtSt w pb T P W) (ho : OwnB W base v l) (hb : w.heap.size ≤ base) (hf : Frame (fun k => v.ownBlock = some k) W W') : PtSt w pb T P W' :=
  ⟨h.bel.trans (hf.below h.bel.size (fun k hk => by have := (ho.lt k hk).1; omega)), h.tr.of_block (hf.block _ h.tr.lt (fun e => owns_ne ho h.tr (by decide) e)), h.pg.of_block (hf.block _ h.pg.lt (fun e => owns_ne ho h.pg (by decide) e))⟩
/-- Another page is looked at. -/
theorem PtSt.turn {w W : World} {pb : Nat} {T : List Value} {p0 p1 : Value} (h : PtSt w pb T [p0, p1] W) (hpb : w.heap.size < pb) (x y : Value) : PtSt w pb T [x, y] ((W.setCell ⟨pb, 0, none⟩ x).setCell ⟨pb, 1, none⟩ y) :=
  ⟨(h.bel.setCell (by show w.heap.size ≤ pb; omega) _).setCell (by show w.heap.size ≤ pb; omega) _, (h.tr.other (by show w.heap.size ≠ pb; omega) _).other (by show w.heap.size ≠ pb; omega) _, by simpa using (h.pg.set 0 x).set 1 y⟩
theorem OwnB.turn {W : World} {base pb t : Nat} {v : Value} {l : List UInt8} {P : List Value} (ho : OwnB W base v l) (hp : RowV W pb t P) (ht : 5 ≠ t) (x y : Value) : OwnB ((W.setCell ⟨pb, 0, none⟩ x).setCell ⟨pb, 1, none⟩ y) base v l :=
  owns_frame ho (((Frame.refl (fun k => k = pb) W).setCell (p := ⟨pb, 0, none⟩) rfl x).setCell (p := ⟨pb, 1, none⟩) rfl y) (fun k hk e => owns_ne ho hp ht (by rw [hk, e]))

theorem pointF_length {lvls : List (List (List ItR))} (h : LvlsOk lvls) (key : List UInt8) : ∀ (n : Nat) (p : List ItR), p.length ≤ 60 → (∀ x ∈ p, ItOk x) → (pointF lvls key n p).length ≤ 1600 * (n + 1)
  | 0, p, h60, hok => by
    have := frameB_length 0 p hok h60
    simpa [pointF] using this
  | n + 1, p, h60, hok => by
    have h1 := frameB_length (n + 1) p hok h60
    have h2 := pointF_length h key n (pageAt lvls n (belowAt p (placeN p key))) (pageAt_ok h n _).1 (pageAt_ok h n _).2.1
    rw [pointF, List.length_append]
    split
    · omega
    · simp; omega

set_option maxRecDepth 100000 in
set_option maxHeartbeats 2000000 in
theorem refPoint_any (lv : SlR) (lvls : List LevR) (base m : Nat) (s : SlR) (q0 : SlR × List ItR) (rest : List (SlR × List ItR)) (key : List UInt8) (w : World) (hL : LvlsOk (lvN lvls)) (hm : lvls.length = m + 1) (hm6 : m ≤ 6) (hR : RTree w base lv lvls) (hq0 : lvls[m]? = some (s, q0 :: rest)) :
    Calls Tryz.prog 90 #[.agg #[.slice lv.a lv.n lv.cap], strV key] w fun e w' => ∃ a' n' c', e = .returned (.slice a' n' c') ∧ OwnB w' w.heap.size (.slice a' n' c') (pointF (lvN lvls) key m q0.2) ∧ Below w.heap.size w w' := by
  have hbT : Below w.heap.size w (w.alloc (.cells #[.slice lv.a lv.n lv.cap] 146)) := (Below.refl _ _).alloc (Nat.le_refl _) _
  have hlast : RPage lvls m 0 s (q0 :: rest) q0 := ⟨hq0, rfl⟩
  have HRT : Hid (Calls _ _ _ _ _) := root_any lv lvls m s q0.1 q0.2 rest base (w.alloc (.cells #[.slice lv.a lv.n lv.cap] 146)) (hR.below hbT).own hm (by omega) hq0 (by
    have h1 := (hR.below hbT).ok m (by omega)
    rw [(List.getElem?_eq_some_iff.1 hq0).2] at h1
    exact h1)
  have HTR : Hid (RowV (w.alloc (.cells #[.slice lv.a lv.n lv.cap] 146)) w.heap.size 146 [.slice lv.a lv.n lv.cap]) := RowV.new w _ _
  have HBT : Hid (Below w.heap.size w (w.alloc (.cells #[.slice lv.a lv.n lv.cap] 146))) := hbT
  -- what a page is asked, wherever it lies
  have HFR : Hid (∀ (W : World) (n j : Nat) (s' : SlR) (ps' : List (SlR × List ItR)) (qa : Option Addr) (qc : Nat) (l : List ItR), Below w.heap.size w W → n ≤ 6 → RPage lvls n j s' ps' (⟨qa, l.length, qc⟩, l) → Calls Tryz.prog 124 #[.agg #[.int .i64 (n : Int), .slice qa l.length qc]] W fun e w' => ∃ a' n' c', e = .returned (.slice a' n' c') ∧ OwnB w' W.heap.size (.slice a' n' c') (frameB n l) ∧ Below W.heap.size W w') := fun W n j s' ps' qa qc l hb hn hp =>
    framed_any n qa l.length qc l W rfl (by have := (hp.ok hL).1; simp only at this; omega) (by omega) (hp.ok hL).2.1 (hp.sl (hR.below hb)).1
  have HFI : Hid (∀ (W : World) (n j : Nat) (s' : SlR) (ps' : List (SlR × List ItR)) (qa : Option Addr) (qc : Nat) (l : List ItR), Below w.heap.size w W → RPage lvls (n + 1) j s' ps' (⟨qa, l.length, qc⟩, l) → Calls Tryz.prog 33 #[.agg #[.int .i64 ((n : Int) + 1), .slice qa l.length qc], .string ⟨key.toArray⟩] W fun e w' => e = .returned (.int .i64 (placeN l key : Int)) ∧ Below W.heap.size W w') := fun W n j s' ps' qa qc l hb hp => by
    have := firstR_any (n + 1) qa qc l key W (by have := (hp.ok hL).1; simp only at this; omega) (hp.sl (hR.below hb)).1
    rw [show ((n + 1 : Nat) : Int) = (n : Int) + 1 by omega] at this
    exact this
  have HBE : Hid (∀ (W : World) (n j : Nat) (s' : SlR) (ps' : List (SlR × List ItR)) (qa : Option Addr) (qc : Nat) (l : List ItR) (i : Nat) (hi : i < l.length), Below w.heap.size w W → n ≤ 6 → RPage lvls (n + 1) j s' ps' (⟨qa, l.length, qc⟩, l) → ∃ (j2 : Nat) (s2 : SlR) (ps2 : List (SlR × List ItR)) (qa2 : Option Addr) (qc2 : Nat) (l2 : List ItR), RPage lvls n j2 s2 ps2 (⟨qa2, l2.length, qc2⟩, l2) ∧ pageAt (lvN lvls) n (belowAt l i) = l2 ∧
      Calls Tryz.prog 125 #[.agg #[.slice lv.a lv.n lv.cap], .agg #[.int .i64 ((n : Int) + 1), .slice qa l.length qc], .int .i64 (i : Int)] W fun e w' => e = .returned (.agg #[.int .i64 (n : Int), .slice qa2 l2.length qc2]) ∧ Below W.heap.size W w') := fun W n j s' ps' qa qc l i hi hb hn hp => by
    obtain ⟨s2, ps2, ⟨⟨qa2, qn2, qc2⟩, l2⟩, hp2, he2, hc2⟩ := hp.down hL i hi
    have hn2 := (hp2.sl (hR.below hb)).2
    simp only at hn2 he2
    subst hn2
    refine ⟨_, s2, ps2, qa2, qc2, l2, hp2, he2, ?_⟩
    exact below_any lv lvls base n s2 ps2 qa qc l i hi _ W (hR.below hb) hp2.lv (by omega) (by have := (hp.ok hL).1; simp only at this; omega) (hp.sl (hR.below hb)).1 (by omega) hp2.pg
  have HLE : Hid (∀ (n j : Nat) (s' : SlR) (ps' : List (SlR × List ItR)) (q : SlR × List ItR), RPage lvls n j s' ps' q → q.2.length ≤ 60 ∧ (∀ x ∈ q.2, ItOk x)) := fun n j s' ps' q hp => ⟨(hp.ok hL).1, (hp.ok hL).2.1⟩
  have hn0 := (hlast.sl hR).2
  have HTOT : Hid ((pointF (lvN lvls) key m q0.2).length ≤ 12000) := by
    have := pointF_length hL key m q0.2 (hlast.ok hL).1 (hlast.ok hL).2.1
    unfold Hid; omega
  have hm6I : (m : Int) ≤ 6 := by omega
  obtain ⟨⟨qa, qn, qc⟩, l⟩ := q0
  simp only at hn0 HTOT HRT ⊢
  subst hn0
  have HL0 : Hid (RPage lvls m 0 s ((⟨qa, l.length, qc⟩, l) :: rest) (⟨qa, l.length, qc⟩, l)) := hlast
  have hll : (l.length : Int) ≤ 60 := by have := (hlast.ok hL).1; simp only at this; omega
  clear hR hlast hq0 hbT
  unfold strV
  go_enter Tryz.func90, Tryz.ntmps90
  go_wp2_with fail
  refine HRT.out.mono ?_
  rintro e w1 ⟨rfl, hb1⟩
  have hz1 : w.heap.size < w1.heap.size := by have := hb1.size; simp at this; omega
  have HS2 : Hid (PtSt w w1.heap.size [.slice lv.a lv.n lv.cap] [.int .i64 (m : Int), .slice qa l.length qc] (w1.alloc (.cells #[.int .i64 (m : Int), .slice qa l.length qc] 80))) :=
    ⟨(HBT.out.trans (hb1.mono (by simp))).alloc (by omega) _, (HTR.out.below HTR.out.lt hb1).alloc _, RowV.new w1 _ _⟩
  clear hb1
  go_wp2_with fail
  refine (HFR.out _ m 0 s _ qa qc l (by exact HS2.out.bel) hm6 HL0.out).mono ?_
  rintro e w2 ⟨a2, n2, c2, rfl, ho2, hb2⟩
  have HS3 : Hid (PtSt w w1.heap.size [.slice lv.a lv.n lv.cap] [.int .i64 (m : Int), .slice qa l.length qc] w2) := HS2.out.next hb2
  have HO3 : Hid (OwnB w2 (w1.heap.size + 1) (.slice a2 n2 c2) (frameB m l)) := by unfold Hid; simpa using ho2
  clear ho2 hb2
  go_wp2
  go_loopw [6, 7] (fun b _ wr => ∃ (n j : Nat) (s' : SlR) (ps' : List (SlR × List ItR)) (qa' : Option Addr) (qc' : Nat) (l' : List ItR) (pre : List UInt8) (a' : Option Addr) (n' c' : Nat), n ≤ 6 ∧ b = .slice a' n' c' ∧ Hid (RPage lvls n j s' ps' (⟨qa', l'.length, qc'⟩, l')) ∧ Hid (PtSt w w1.heap.size [.slice lv.a lv.n lv.cap] [.int .i64 (n : Int), .slice qa' l'.length qc'] wr) ∧ Hid (OwnB wr (w1.heap.size + 1) (.slice a' n' c') (pre ++ frameB n l')) ∧ Hid (pointF (lvN lvls) key m l = pre ++ pointF (lvN lvls) key n l'))
    (fun _ _ wr => match wr.cell? ⟨w1.heap.size, 0, none⟩ with | some (.int _ x) => x.toNat | _ => 0)
  case atStart => exact ⟨m, 0, s, _, qa, qc, l, [], a2, n2, c2, hm6, rfl, HL0, HS3, HO3, rfl⟩
  case round =>
    obtain ⟨n, j, s', ps', qa', qc', l', pre, a', n', c', hn6, rfl, HP, HS, HO, HE⟩ := hrel
    have hS := HS.out
    cases n with
    | zero =>
      have p0 : wr.cell? ⟨w1.heap.size, 0, none⟩ = some (.int .i64 0) := hS.pg.cell 0 (by simp)
      clear hS
      go_wp2
      go_ret
      refine ⟨a', n', c', rfl, ?_, HS.out.bel⟩
      rw [HE.out]
      exact owns_base HO.out (fun k hk => by have := (HO.out.lt k hk).1; omega)
    | succ n =>
      have e1 : ((n + 1 : Nat) : Int) = (n : Int) + 1 := by omega
      have hll' : (l'.length : Int) ≤ 60 := by have := (HLE.out _ _ _ _ _ HP.out).1; simp only at this; omega
      rw [e1] at hS HS
      have p0 : wr.cell? ⟨w1.heap.size, 0, none⟩ = some (.int .i64 ((n : Int) + 1)) := hS.pg.cell 0 (by simp)
      have p1 : wr.cell? ⟨w1.heap.size, 1, none⟩ = some (.slice qa' l'.length qc') := hS.pg.cell 1 (by simp)
      have P0 : Hid (wr.cell? ⟨w1.heap.size, 0, none⟩ = some (.int .i64 ((n : Int) + 1))) := p0
      have HFI1 : Hid (Calls _ _ _ _ _) := HFI.out wr n j s' ps' qa' qc' l' hS.bel HP.out
      have hple := placeN_le l' key
      have hnI : (n : Int) ≤ 5 := by omega
      by_cases hpl : placeN l' key < l'.length
      · have HE2 : Hid (pointF (lvN lvls) key (n + 1) l' = frameB (n + 1) l' ++ pointF (lvN lvls) key n (pageAt (lvN lvls) n (belowAt l' (placeN l' key)))) := by unfold Hid; rw [pointF, if_pos hpl]
        have HBE1 : Hid (∀ (W : World), Below w.heap.size w W → ∃ (j2 : Nat) (s2 : SlR) (ps2 : List (SlR × List ItR)) (qa2 : Option Addr) (qc2 : Nat) (l2 : List ItR), RPage lvls n j2 s2 ps2 (⟨qa2, l2.length, qc2⟩, l2) ∧ pageAt (lvN lvls) n (belowAt l' (placeN l' key)) = l2 ∧ Calls _ _ _ W _) := fun W hb => HBE.out W n j s' ps' qa' qc' l' (placeN l' key) hpl hb (by omega) HP.out
        generalize placeN l' key = k at *
        have hne : ((k : Int) == (l'.length : Int)) = false := by simp; omega
        have hkI : (k : Int) < l'.length := by omega
        have hkI0 : (k : Int) ≠ l'.length := by omega
        clear hS
        go_wp2_with (go_at_call 33; refine HFI1.out.mono ?_; rintro e w3 ⟨rfl, hb3⟩; have hS3 := PtSt.next HS.out hb3; have p0 : w3.cell? ⟨w1.heap.size, 0, none⟩ = some (.int .i64 ((n : Int) + 1)) := hS3.pg.cell 0 (by simp); have p1 : w3.cell? ⟨w1.heap.size, 1, none⟩ = some (.slice qa' l'.length qc') := hS3.pg.cell 1 (by simp); have t0 : w3.cell? ⟨w.heap.size, 0, none⟩ = some (.slice lv.a lv.n lv.cap) := hS3.tr.cell 0 (by simp))
        obtain ⟨j2, s2, ps2, qa2, qc2, l2, hp2, he2, hc2⟩ := HBE1.out w3 hS3.bel
        refine hc2.mono ?_
        rintro e w4 ⟨rfl, hb4⟩
        have hS4 := hS3.next hb4
        have r0 : w4.cell? ⟨w1.heap.size, 0, none⟩ = some (.int .i64 ((n : Int) + 1)) := hS4.pg.cell 0 (by simp)
        have r1 : w4.cell? ⟨w1.heap.size, 1, none⟩ = some (.slice qa' l'.length qc') := hS4.pg.cell 1 (by simp)
        have f0 : w4.frozen? ⟨w1.heap.size, 0, none⟩ = false := hS4.pg.frozen 0
        have f1 : w4.frozen? ⟨w1.heap.size, 1, none⟩ = false := hS4.pg.frozen 1
        have HO4 : Hid (OwnB w4 (w1.heap.size + 1) (.slice a' n' c') (pre ++ frameB (n + 1) l')) := owns_below (owns_below HO.out hb3) hb4
        have HS5 : Hid (PtSt w w1.heap.size [.slice lv.a lv.n lv.cap] [.int .i64 (n : Int), .slice qa2 l2.length qc2] ((w4.setCell ⟨w1.heap.size, 0, none⟩ (.int .i64 (n : Int))).setCell ⟨w1.heap.size, 1, none⟩ (.slice qa2 l2.length qc2))) := hS4.turn hz1 _ _
        have HO5 : Hid (OwnB ((w4.setCell ⟨w1.heap.size, 0, none⟩ (.int .i64 (n : Int))).setCell ⟨w1.heap.size, 1, none⟩ (.slice qa2 l2.length qc2)) (w1.heap.size + 1) (.slice a' n' c') (pre ++ frameB (n + 1) l')) := OwnB.turn HO4.out hS4.pg (by decide) _ _
        have HP2 : Hid (RPage lvls n j2 s2 ps2 (⟨qa2, l2.length, qc2⟩, l2)) := hp2
        have HE3 : Hid (pointF (lvN lvls) key m l = (pre ++ frameB (n + 1) l') ++ pointF (lvN lvls) key n l2) := by
          unfold Hid
          rw [HE.out, HE2.out, he2, List.append_assoc]
        have HLN : Hid ((pre ++ frameB (n + 1) l').length + (frameB n l2).length ≤ 140737488355328) := by
          have h1 := HTOT.out
          rw [HE3.out, List.length_append] at h1
          have h2 := frameB_length n l2 (HLE.out _ _ _ _ _ hp2).2 (HLE.out _ _ _ _ _ hp2).1
          unfold Hid; omega
        clear hS4 hS3 hb3 hb4 he2 hp2 hc2 HE2 HE HO HS
        go_wp2_with fail
        refine (HFR.out _ n j2 s2 ps2 qa2 qc2 l2 (by exact HS5.out.bel) (by omega) HP2.out).mono ?_
        rintro e w6 ⟨a6, n6, c6, rfl, ho6, hb6⟩
        obtain ⟨hs6, hn6', hnil6⟩ := OwnB.sl ho6
        have HO6 : Hid (OwnB w6 (w1.heap.size + 1) (.slice a' n' c') (pre ++ frameB (n + 1) l')) := owns_below HO5.out hb6
        have HS6 : Hid (PtSt w w1.heap.size [.slice lv.a lv.n lv.cap] [.int .i64 (n : Int), .slice qa2 l2.length qc2] w6) := HS5.out.next hb6
        have HN6 : Hid (n6 = (frameB n l2).length) := hn6'
        have HB6 : Hid (w1.heap.size + 1 ≤ w6.heap.size) := by have := HS6.out.pg.lt; unfold Hid; omega
        clear ho6 hb6 hn6'
        go_wp2_with (at_builtin; refine wp_appendB (by rfl) (.tmp 27) (.tmp 29) (by rfl) (w1.heap.size + 1) _ (pre ++ frameB (n + 1) l') (by rfl) HO6.out a6 n6 c6 (frameB n l2) (by rfl) HN6.out hs6 hnil6 HLN.out HB6.out ?_; intro a7 n7 c7 w7 hn7 ho7 hs7 hf7 hat7; have HO7 : Hid (OwnB w7 (w1.heap.size + 1) (.slice a7 n7 c7) _) := ho7; have HS7 : Hid (PtSt w _ _ _ w7) := PtSt.frame HS6.out HO6.out (by omega) hf7; clear hn7 ho7 hs7 hf7 hat7)
        have m1 : w7.cell? ⟨w1.heap.size, 0, none⟩ = some (.int .i64 (n : Int)) := HS7.out.pg.cell 0 (by simp)
        refine ⟨⟨n, j2, s2, ps2, qa2, qc2, l2, pre ++ frameB (n + 1) l', a7, n7, c7, by omega, rfl, HP2, HS7, HO7, HE3⟩, ?_⟩
        rw [m1, P0.out]
        simp
      · have hpe : placeN l' key = l'.length := by omega
        have HE2 : Hid (pointF (lvN lvls) key (n + 1) l' = frameB (n + 1) l') := by unfold Hid; rw [pointF, if_neg hpl, List.append_nil]
        rw [hpe] at HFI1
        clear hS hpe hpl hple
        go_wp2_with (go_at_call 33; refine HFI1.out.mono ?_; rintro e w3 ⟨rfl, hb3⟩; have hS3 := PtSt.next HS.out hb3; have p0 : w3.cell? ⟨w1.heap.size, 0, none⟩ = some (.int .i64 ((n : Int) + 1)) := hS3.pg.cell 0 (by simp); have p1 : w3.cell? ⟨w1.heap.size, 1, none⟩ = some (.slice qa' l'.length qc') := hS3.pg.cell 1 (by simp))
        go_ret
        refine ⟨a', n', c', rfl, ?_, hS3.bel⟩
        rw [HE.out, HE2.out]
        exact owns_base (owns_below HO.out hb3) (fun k hk => by have := (HO.out.lt k hk).1; omega)
end Go.Proofs.YtekegfbjbainhaaGreat
