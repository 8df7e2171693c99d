import Derived.Test.YtekegfbjbainhaaGreatKJoin21
import Derived.Deep.CutBlock
import Derived.Test.YtekegfbjbainhaaGreatKJoin18
set_option linter.unusedVariables false
set_option linter.unusedSimpArgs false

namespace Go.Proofs.YtekegfbjbainhaaGreat
open Go.RowKit
attribute [local go_sem ↓] Go.wp_at_zero Go.wp_at_succ
def chkR (root key proof : List UInt8) : Nat × Option (List UInt8) :=
 if keyOk key = true then (match checkF root key proof with
  | none => (5, none)
  | some a => (0, a)) else (1, none)
theorem Tryz.sizeAnswer : (Tryz.prog.info? 49).map (·.size) = some 2 := by kernel_rfl
def blkOf (s : SlR) (k : Nat) : Prop := ∃ x, s.a = some x ∧ x.block = k
def chkPost (w : World) (q : Nat × Option (List UInt8)) (e : Ending) (w' : World) : Prop := ∃ v : SlR, e = .returned (.tuple #[.agg #[.bool q.2.isSome, v.val], .int .i64 (q.1 : Int)]) ∧ Below w.heap.size w w' ∧ BS w' v (q.2.getD [])
structure ChkSt (W wr : World) (K : Nat → Prop) (rb pb lvl : Nat) (cur : SlR) (o : Option (List UInt8)) : Prop where
 be : Below W.heap.size W wr
 rd : RdO wr K rb o
 pg : RowV wr pb 80 [.int .i64 (lvl : Int), cur.val]
 n1 : W.heap.size ≤ rb
 n2 : W.heap.size ≤ pb
 kk : ∀ k, K k → k < W.heap.size
theorem ChkSt.ne {W wr : World} {K : Nat → Prop} {rb pb lvl : Nat} {cur : SlR} {o : Option (List UInt8)} (h : ChkSt W wr K rb pb lvl cur o) : pb ≠ rb := h.rd.rowNe h.pg (by decide)
theorem ChkSt.below {W wr w' : World} {K : Nat → Prop} {rb pb lvl : Nat} {cur : SlR} {o : Option (List UInt8)} (h : ChkSt W wr K rb pb lvl cur o) (hb : Below wr.heap.size wr w') : ChkSt W w' K rb pb lvl cur o :=
 ⟨h.be.trans (hb.mono h.be.size), h.rd.below hb, h.pg.below h.pg.lt hb, h.n1, h.n2, h.kk⟩
theorem ChkSt.read {W wr w' : World} {K : Nat → Prop} {rb pb lvl : Nat} {cur : SlR} {o o' : Option (List UInt8)} (h : ChkSt W wr K rb pb lvl cur o) (hf : Frame (fun k => k = rb) wr w') (hr : RdO w' K rb o') : ChkSt W w' K rb pb lvl cur o' :=
 ⟨h.be.trans (hf.below h.be.size (fun k hk => by have := h.n1; omega)), hr, RowV.of_block h.pg (hf.block _ h.pg.lt (fun e => h.ne e)), h.n1, h.n2, h.kk⟩
theorem ChkSt.bad {W wr : World} {K : Nat → Prop} {rb pb lvl : Nat} {cur : SlR} {o : Option (List UInt8)} (h : ChkSt W wr K rb pb lvl cur o) : ChkSt W (wr.setCell ⟨rb, 1, none⟩ (.bool true)) K rb pb lvl cur none :=
 h.read ((Frame.refl (fun k => k = rb) _).setCell (p := ⟨rb, 1, none⟩) rfl _) h.rd.bad
theorem ChkSt.put {W wr : World} {K : Nat → Prop} {rb pb lvl lvl' : Nat} {cur cur' : SlR} {o : Option (List UInt8)} (h : ChkSt W wr K rb pb lvl cur o) : ChkSt W ((wr.setCell ⟨pb, 0, none⟩ (.int .i64 (lvl' : Int))).setCell ⟨pb, 1, none⟩ cur'.val) K rb pb lvl' cur' o ∧ Frame (fun k => k = pb) wr ((wr.setCell ⟨pb, 0, none⟩ (.int .i64 (lvl' : Int))).setCell ⟨pb, 1, none⟩ cur'.val) := by
 have hf : Frame (fun k => k = pb) wr ((wr.setCell ⟨pb, 0, none⟩ (.int .i64 (lvl' : Int))).setCell ⟨pb, 1, none⟩ cur'.val) := ((Frame.refl (fun k => k = pb) wr).setCell (p := ⟨pb, 0, none⟩) rfl _).setCell (p := ⟨pb, 1, none⟩) rfl _
 exact ⟨⟨h.be.trans (hf.below h.be.size (fun k hk => by have := h.n2; omega)), h.rd.frame hf (fun e => h.ne e.symm) (fun k hk e => by have := h.kk k hk; have := h.n2; omega), by simpa using (RowV.set h.pg 0 (.int .i64 (lvl' : Int))).set 1 cur'.val, h.n1, h.n2, h.kk⟩, hf⟩
def ChkR (W wr : World) (key : List UInt8) (R : Option ((Nat × List ItR) × List UInt8)) (lvl : Nat) (cur : SlR) (o : Option (List UInt8)) : Prop :=
 (o = none ∧ R = none) ∨ ∃ r its, o = some r ∧ PageOk lvl its ∧ OwnI wr W.heap.size cur.val its ∧ R = chkF key lvl its r
def ChkE (W wr : World) (R : Option ((Nat × List ItR) × List UInt8)) (lvl : Nat) (cur : SlR) (o : Option (List UInt8)) : Prop :=
 (o = none ∧ R = none) ∨ ∃ r its, o = some r ∧ PageOk lvl its ∧ OwnI wr W.heap.size cur.val its ∧ R = some ((lvl, its), r)
def mChk (rb pb : Nat) (w : World) : Nat := match w.cell? ⟨rb, 1, none⟩, w.cell? ⟨pb, 0, none⟩ with
 | some (.bool false), some (.int _ l) => l.toNat + 1
 | _, _ => 0
theorem ChkSt.meas {W wr : World} {K : Nat → Prop} {rb pb lvl : Nat} {cur : SlR} {o : Option (List UInt8)} (h : ChkSt W wr K rb pb lvl cur o) : mChk rb pb wr = if o.isSome = true then lvl + 1 else 0 := by
 obtain ⟨s, l, bad, hr, e⟩ := h.rd
 have h1 : wr.cell? ⟨rb, 1, none⟩ = some (.bool bad) := RowV.cell hr.row 1 (by simp)
 have h2 : wr.cell? ⟨pb, 0, none⟩ = some (.int .i64 (lvl : Int)) := RowV.cell h.pg 0 (by simp)
 unfold mChk
 rw [h1, h2, e]
 cases bad <;> simp
set_option maxRecDepth 100000 in
set_option maxHeartbeats 4000000 in
theorem checkR_any (sk sp : SlR) (key proof root : List UInt8) (w : World) (hr : root.length = 8) (hk : BS w sk key) (hp : BS w sp proof) (hpc : sp.n ≤ sp.cap) (hkm : key.length ≤ maxLen) :
  Calls Tryz.prog 17 #[dV root, sk.val, sp.val] w (chkPost w (chkR root key proof)) := by
 obtain ⟨x0, x1, x2, x3, x4, x5, x6, x7, rfl⟩ := list8 root hr
 have hB2 : Below w.heap.size w ((w.alloc (.cells #[.int .u8 (x0.toNat : Int), .int .u8 (x1.toNat : Int), .int .u8 (x2.toNat : Int), .int .u8 (x3.toNat : Int), .int .u8 (x4.toNat : Int), .int .u8 (x5.toNat : Int), .int .u8 (x6.toNat : Int), .int .u8 (x7.toNat : Int)] 36)).alloc (.cells #[.bool false, .slice none 0 0] 49)) := ((Below.refl _ _).alloc (Nat.le_refl _) _).alloc (by simp) _
 have HKF : Hid (Calls _ _ _ _ _) := keyFits_any sk.a sk.n sk.cap ((w.alloc (.cells #[.int .u8 (x0.toNat : Int), .int .u8 (x1.toNat : Int), .int .u8 (x2.toNat : Int), .int .u8 (x3.toNat : Int), .int .u8 (x4.toNat : Int), .int .u8 (x5.toNat : Int), .int .u8 (x6.toNat : Int), .int .u8 (x7.toNat : Int)] 36)).alloc (.cells #[.bool false, .slice none 0 0] 49)) (by rw [hk.n]; exact hkm)
 have hkb : (decide (1 ≤ sk.n) && decide (sk.n ≤ 12)) = keyOk key := by rw [hk.n]; rfl
 rw [hkb] at HKF
 have hdv : dV [x0, x1, x2, x3, x4, x5, x6, x7] = .agg #[.int .u8 (x0.toNat : Int), .int .u8 (x1.toNat : Int), .int .u8 (x2.toNat : Int), .int .u8 (x3.toNat : Int), .int .u8 (x4.toNat : Int), .int .u8 (x5.toNat : Int), .int .u8 (x6.toNat : Int), .int .u8 (x7.toNat : Int)] := rfl
 rw [hdv]
 unfold SlR.val
 have HK : Hid (BS w sk key) := hk
 have HP : Hid (BS w sp proof) := hp
 have HPC : Hid (sp.n ≤ sp.cap) := hpc
 have HB2 : Hid (Below w.heap.size w _) := hB2
 clear hk hp hpc hkm hkb hdv hr hB2
 cases hkf : keyOk key with
 | false =>
  rw [hkf] at HKF
  have HQ : Hid (chkR [x0, x1, x2, x3, x4, x5, x6, x7] key proof = (1, none)) := by unfold Hid chkR; rw [if_neg (by rw [hkf]; simp)]
  rw [HQ.out]
  go_enter Tryz.func17, Tryz.ntmps17
  go_wp2_with (go_at_call 31; refine HKF.out.mono ?_; rintro r w1 ⟨rfl, hw1⟩; subst hw1)
  exact ret_agg2 (k := 6) (k2 := 7) (cs := [.bool false, .slice none 0 0]) rfl rfl rfl (RowV.new_at _ _ _ _ (by simp)) Tryz.underlying49 rfl Tryz.sizeAnswer rfl ⟨⟨none, 0, 0⟩, rfl, HB2.out, (SubS.nil _ (fun _ => False)).bs⟩
 | true =>
  rw [hkf] at HKF
  obtain ⟨q, hq⟩ : ∃ q, chkR [x0, x1, x2, x3, x4, x5, x6, x7] key proof = q := ⟨_, rfl⟩
  rw [hq]
  have HQ : Hid (q = (match checkF [x0, x1, x2, x3, x4, x5, x6, x7] key proof with
   | none => (5, none)
   | some a => (0, a))) := by unfold Hid; rw [← hq]; unfold chkR; rw [if_pos hkf]
  clear hq
  go_enter Tryz.func17, Tryz.ntmps17
  go_upto_region 4 with (go_at_call 31; refine HKF.out.mono ?_; rintro r w1 ⟨rfl, hw1⟩; subst hw1)
  have HD0 : Hid (RowV ((w.alloc (.cells #[.int .u8 (x0.toNat : Int), .int .u8 (x1.toNat : Int), .int .u8 (x2.toNat : Int), .int .u8 (x3.toNat : Int), .int .u8 (x4.toNat : Int), .int .u8 (x5.toNat : Int), .int .u8 (x6.toNat : Int), .int .u8 (x7.toNat : Int)] 36)).alloc (.cells #[.bool false, .slice none 0 0] 49)) w.heap.size 36 ([x0, x1, x2, x3, x4, x5, x6, x7].map u8c)) := (RowV.new w 36 ([x0, x1, x2, x3, x4, x5, x6, x7].map u8c)).alloc _
  have HA0 : Hid (RowV ((w.alloc (.cells #[.int .u8 (x0.toNat : Int), .int .u8 (x1.toNat : Int), .int .u8 (x2.toNat : Int), .int .u8 (x3.toNat : Int), .int .u8 (x4.toNat : Int), .int .u8 (x5.toNat : Int), .int .u8 (x6.toNat : Int), .int .u8 (x7.toNat : Int)] 36)).alloc (.cells #[.bool false, .slice none 0 0] 49)) (w.heap.size + 1) 49 [.bool false, .slice none 0 0]) := RowV.new_at _ _ _ _ (by simp)
  have HWZ : Hid (((w.alloc (.cells #[.int .u8 (x0.toNat : Int), .int .u8 (x1.toNat : Int), .int .u8 (x2.toNat : Int), .int .u8 (x3.toNat : Int), .int .u8 (x4.toNat : Int), .int .u8 (x5.toNat : Int), .int .u8 (x6.toNat : Int), .int .u8 (x7.toNat : Int)] 36)).alloc (.cells #[.bool false, .slice none 0 0] 49)).heap.size = w.heap.size + 2) := by unfold Hid; simp
  clear HKF
  generalize (w.alloc (.cells #[.int .u8 (x0.toNat : Int), .int .u8 (x1.toNat : Int), .int .u8 (x2.toNat : Int), .int .u8 (x3.toNat : Int), .int .u8 (x4.toNat : Int), .int .u8 (x5.toNat : Int), .int .u8 (x6.toNat : Int), .int .u8 (x7.toNat : Int)] 36)).alloc (.cells #[.bool false, .slice none 0 0] 49) = W at *
  have hb3 : Below W.heap.size W (W.alloc (.cells #[.slice sp.a sp.n sp.cap, .bool false] 77)) := (Below.refl _ _).alloc (Nat.le_refl _) _
  have hD3 := RowV.below HD0.out HD0.out.lt hb3
  have hcv := run_string_SlB (P := Tryz.prog) (W.alloc (.cells #[.slice sp.a sp.n sp.cap, .bool false] 77)) 38 9 5 (some ⟨w.heap.size, 0, none⟩) 8 8 [x0, x1, x2, x3, x4, x5, x6, x7] Tryz.underlying38 Tryz.underlying5 Tryz.underlying9 rfl (SlB.of_row hD3) (fun h => by cases h)
  have hKK : ∀ k, blkOf sp k → k < W.heap.size := fun k ⟨x, hx, e⟩ => by have := HP.out.lt x hx; have := HB2.out.size; omega
  have hrd : RdO (W.alloc (.cells #[.slice sp.a sp.n sp.cap, .bool false] 77)) (blkOf sp) W.heap.size (some proof) :=
   ⟨sp, proof, false, ⟨RowV.new W _ _, ⟨(HP.out.below HB2.out).below hb3, HPC.out, fun x hx => ⟨x, hx, rfl⟩⟩, fun e => by have := hKK _ e; omega⟩, rfl⟩
  have HPG : Hid (Calls _ _ _ _ _) := rpage_any (blkOf sp) W.heap.size (some proof) [x0, x1, x2, x3, x4, x5, x6, x7] _ hrd (fun k hk => by have := hKK k hk; simp; omega)
  have HKK : Hid (∀ k, blkOf sp k → k < W.heap.size) := hKK
  have HB3 : Hid (Below W.heap.size W _) := hb3
  clear hD3 hb3 hrd hKK HPC HP
  go_wp2_with fail
  refine HPG.out.mono ?_
  rintro e w4 ⟨lvl, cur, rfl, hlvl, hf4, hr4, hown⟩
  have hb4 : Below W.heap.size W w4 := HB3.out.trans (hf4.below (by simp) (fun k hk => by omega))
  have hb5 : Below w4.heap.size w4 (w4.alloc (.cells #[.int .i64 (lvl : Int), cur.val] 80)) := (Below.refl _ _).alloc (Nat.le_refl _) _
  have HS5 : Hid (ChkSt W (w4.alloc (.cells #[.int .i64 (lvl : Int), cur.val] 80)) (blkOf sp) W.heap.size w4.heap.size lvl cur ((pgO (some proof) [x0, x1, x2, x3, x4, x5, x6, x7]).map (·.2))) :=
   ⟨hb4.trans (hb5.mono hb4.size), hr4.below hb5, RowV.new w4 _ _, Nat.le_refl _, hb4.size, HKK.out⟩
  obtain ⟨R, hR⟩ : ∃ R, R = (match pgO (some proof) [x0, x1, x2, x3, x4, x5, x6, x7] with
   | none => none
   | some ((lv, its), r) => chkF key lv its r) := ⟨_, rfl⟩
  have HRR : Hid (checkF [x0, x1, x2, x3, x4, x5, x6, x7] key proof = ansF key R) := by
   unfold Hid checkF; rw [hR]
   cases pgO (some proof) [x0, x1, x2, x3, x4, x5, x6, x7] with
   | none => rfl
   | some q => rfl
  have HC5 : Hid (ChkR W (w4.alloc (.cells #[.int .i64 (lvl : Int), cur.val] 80)) key R lvl cur ((pgO (some proof) [x0, x1, x2, x3, x4, x5, x6, x7]).map (·.2))) := by
   unfold Hid ChkR; rw [hR]
   cases e : pgO (some proof) [x0, x1, x2, x3, x4, x5, x6, x7] with
   | none => exact Or.inl ⟨rfl, rfl⟩
   | some q =>
    obtain ⟨⟨lv, its⟩, r⟩ := q
    obtain ⟨rfl, ho⟩ := hown lv its r e
    exact Or.inr ⟨r, its, rfl, pgO_ok e, owns_base (owns_below ho hb5) (fun k hk => by have := (ho.lt k hk).1; simp at this; omega), rfl⟩
  rw [HRR.out] at HQ
  generalize ((pgO (some proof) [x0, x1, x2, x3, x4, x5, x6, x7]).map (·.2)) = o5 at *
  have hpb : W.heap.size < w4.heap.size := by have := hf4.size; simp at this; omega
  clear hf4 hr4 hown hb4 hb5 hR HPG HB3 hcv HRR
  unfold SlR.val at HS5 HC5 ⊢
  go_upto_block 0 with fail
  generalize w4.alloc (.cells #[.int .i64 (lvl : Int), .slice cur.a cur.n cur.cap] 80) = W5 at *
  generalize w4.heap.size = pb at *
  have HKS : Hid (BS w sk key) := HK
  go_cut [] (fun wx => ∃ (lvl : Nat) (cur : SlR) (o : Option (List UInt8)), lvl < 256 ∧ Hid (ChkSt W wx (blkOf sp) W.heap.size pb lvl cur o) ∧ Hid (ChkE W wx R lvl cur o))
  case first =>
   go_wp2_with fail
   go_loopw [11, 12] (fun _ _ wr => ∃ (lvl : Nat) (cur : SlR) (o : Option (List UInt8)), lvl < 256 ∧ Hid (ChkSt W wr (blkOf sp) W.heap.size pb lvl cur o) ∧ Hid (ChkR W wr key R lvl cur o)) (fun _ _ wr => mChk W.heap.size pb wr)
   case atStart => exact ⟨lvl, cur, o5, hlvl, HS5, HC5⟩
   case round =>
    obtain ⟨lvl, cur, o, hlvl, HS, HC⟩ := hrel
    obtain ⟨s', l', bad, hrd, ho⟩ := HS.out.rd
    have r1 : wr.cell? ⟨W.heap.size, 1, none⟩ = some (.bool bad) := RowV.cell hrd.row 1 (by simp)
    have d0 := HS.out.pg.cell 0 (by simp)
    have d1 := HS.out.pg.cell 1 (by simp)
    simp only [List.getElem_cons_zero, List.getElem_cons_succ, SlR.val] at d0 d1
    cases bad with
    | true =>
     have HE : Hid (ChkE W wr R lvl cur o) := by
      rcases HC.out with h | ⟨r, its, h, _⟩
      ·exact Or.inl h
      ·rw [h] at ho; simp at ho
     clear HS5 HC5 HC hrd ho
     go_wp2_with fail
     go_meet
     case rel => exact ⟨lvl, cur, o, hlvl, HS, HE⟩
    | false =>
     obtain ⟨r, its, hor, HPO, HOW, HRC⟩ : ∃ r its, o = some r ∧ Hid (PageOk lvl its) ∧ Hid (OwnI wr W.heap.size cur.val its) ∧ Hid (R = chkF key lvl its r) := by
      rcases HC.out with ⟨h, _⟩ | h
      ·rw [h] at ho; simp at ho
      ·exact h
     subst hor
     clear HS5 HC5 HC ho hrd
     by_cases hl0 : lvl = 0
     ·subst hl0
      go_wp2_with fail
      go_meet
      case rel => exact ⟨0, cur, some r, hlvl, HS, Or.inr ⟨r, its, rfl, HPO.out, HOW.out, HRC.out⟩⟩
     ·have hl0I : (0 : Int) < lvl := by omega
      obtain ⟨hs1, hcn⟩ := SlV.ofOwn (s := cur) HOW.out
      have hbs : BS wr sk key := (HKS.out.below HB2.out).below HS.out.be
      have hcv := run_string_SlB (P := Tryz.prog) wr 38 9 5 sk.a sk.n sk.cap key Tryz.underlying38 Tryz.underlying5 Tryz.underlying9 hbs.n hbs.sl hbs.nil
      have HFR : Hid (Calls _ _ _ _ _) := firstR_any lvl cur.a cur.cap its key wr (by have := HPO.out.len; omega) hs1
      rw [← hcn] at HFR
      unfold strV at HFR
      have HCN : Hid (cur.n = its.length) := hcn
      clear hs1 hbs hcn
      go_wp2_with fail
      refine HFR.out.mono ?_
      rintro e w2 ⟨rfl, hb2⟩
      have HS2 : Hid (ChkSt W w2 (blkOf sp) W.heap.size pb lvl cur (some r)) := HS.out.below hb2
      have ho2 : OwnI w2 W.heap.size cur.val its := owns_below HOW.out hb2
      have HO2 : Hid (OwnI w2 W.heap.size cur.val its) := ho2
      have d0 := HS2.out.pg.cell 0 (by simp)
      have d1 := HS2.out.pg.cell 1 (by simp)
      simp only [List.getElem_cons_zero, List.getElem_cons_succ, SlR.val] at d0 d1
      have hple := placeN_le its key
      have HL60 : Hid (its.length ≤ 60) := HPO.out.len
      by_cases hlt : placeN its key < its.length
      ·have hli := (SlV.ofOwn (s := cur) ho2).1
       obtain ⟨bb, oo, hca, hbb, z0, z1, z2⟩ := SlI.cells hli _ hlt
       unfold strV at z1
       have HGD : Hid ((its.getD (placeN its key) it0).more = its[placeN its key].more) := by unfold Hid; rw [List.getD_eq_getElem?_getD, List.getElem?_eq_getElem hlt]; rfl
       have HPG2 : Hid (Calls _ _ _ _ _) := rpage_any (blkOf sp) W.heap.size (some r) its[placeN its key].more w2 HS2.out.rd (fun k hk => Nat.lt_of_lt_of_le (HS2.out.kk k hk) HS2.out.be.size)
       have HRC2 : Hid (R = match pgO (some r) its[placeN its key].more with
         | none => none
         | some ((l, its'), r') => if l + 1 = lvl then chkF key l its' r' else none) := by
        unfold Hid
        obtain ⟨m, rfl⟩ : ∃ m, lvl = m + 1 := ⟨lvl - 1, by omega⟩
        rw [HRC.out, chkF, if_pos hlt, HGD.out]
        cases pgO (some r) its[placeN its key].more with
        | none => rfl
        | some q =>
         obtain ⟨⟨l, its'⟩, r'⟩ := q
         simp only [Nat.add_right_cancel_iff]
         by_cases hl : l = m
         ·subst hl; simp
         ·simp [hl]
       generalize its[placeN its key].more = mo at *
       generalize hpn : placeN its key = p at *
       have hpI : (p : Int) < cur.n := by rw [HCN.out]; omega
       have hpE : ((p : Int) == cur.n) = false := by simp; rw [HCN.out]; omega
       obtain ⟨ca, cn, cc⟩ := cur
       simp only at hca
       subst hca
       clear hpn hlt hple HGD hli ho2 hb2 HFR hcv z0 z2 HCN HOW HRC
       go_wp2_with fail
       refine HPG2.out.mono ?_
       rintro e w3 ⟨lvl2, cur2, rfl, hlvl2, hf3, hr3, hown3⟩
       have HS3 : Hid (ChkSt W w3 (blkOf sp) W.heap.size pb lvl ⟨some ⟨bb, oo, none⟩, cn, cc⟩ ((pgO (some r) mo).map (·.2))) := HS2.out.read hf3 hr3
       have hb4 : Below w3.heap.size w3 (w3.alloc (.cells #[.int .i64 (lvl2 : Int), .slice cur2.a cur2.n cur2.cap] 80)) := (Below.refl _ _).alloc (Nat.le_refl _) _
       have HS4 : Hid (ChkSt W (w3.alloc (.cells #[.int .i64 (lvl2 : Int), .slice cur2.a cur2.n cur2.cap] 80)) (blkOf sp) W.heap.size pb lvl ⟨some ⟨bb, oo, none⟩, cn, cc⟩ ((pgO (some r) mo).map (·.2))) := HS3.out.below hb4
       have hq4 : RowV (w3.alloc (.cells #[.int .i64 (lvl2 : Int), .slice cur2.a cur2.n cur2.cap] 80)) w3.heap.size 80 [.int .i64 (lvl2 : Int), .slice cur2.a cur2.n cur2.cap] := RowV.new w3 _ _
       have HOWN : Hid (∀ (lv : Nat) (its : List ItR) (r' : List UInt8), pgO (some r) mo = some ((lv, its), r') → lvl2 = lv ∧ OwnI (w3.alloc (.cells #[.int .i64 (lvl2 : Int), .slice cur2.a cur2.n cur2.cap] 80)) W.heap.size cur2.val its) := fun lv its r' e => by
        obtain ⟨e1, h⟩ := hown3 lv its r' e
        exact ⟨e1, owns_base (owns_below h hb4) (fun k hk => Nat.le_trans HS2.out.be.size (h.lt k hk).1)⟩
       have hz : w3.heap.size < (w3.alloc (.cells #[.int .i64 (lvl2 : Int), .slice cur2.a cur2.n cur2.cap] 80)).heap.size := by simp
       have hp3 : pb < w3.heap.size := HS3.out.pg.lt
       have hr3' : W.heap.size < w3.heap.size := HS3.out.rd.lt
       clear hf3 hr3 hown3 HPG2 hb4 HS2 HS3 d0 d1 z1
       unfold SlR.val
       go_upto_region 10 with fail
       generalize w3.alloc (.cells #[.int .i64 (lvl2 : Int), .slice cur2.a cur2.n cur2.cap] 80) = W4 at *
       generalize w3.heap.size = qb at *
       have d0 := HS4.out.pg.cell 0 (by simp)
       have d1 := HS4.out.pg.cell 1 (by simp)
       have fd0 := HS4.out.pg.frozen 0
       have fd1 := HS4.out.pg.frozen 1
       have q0 := hq4.cell 0 (by simp)
       have q1 := hq4.cell 1 (by simp)
       obtain ⟨s4, l4, bad4, hrd4, ho4⟩ := HS4.out.rd
       have fr1 := hrd4.row.frozen 1
       have r14 : W4.cell? ⟨W.heap.size, 1, none⟩ = some (.bool bad4) := RowV.cell hrd4.row 1 (by simp)
       simp only [List.getElem_cons_zero, List.getElem_cons_succ, SlR.val] at d0 d1 q0 q1
       have hnpr := HS4.out.ne
       have hnqp : qb ≠ pb := by omega
       have hnqr : qb ≠ W.heap.size := by omega
       have hl256 : (lvl : Int) < 256 := by omega
       clear hq4 hrd4 ho4
       by_cases heq : lvl2 + 1 = lvl
       ·have hneI : ((lvl2 : Int) == (lvl : Int) - 1) = true := by simp; omega
        have HPT : Hid (ChkSt W ((W4.setCell ⟨pb, 0, none⟩ (.int .i64 (lvl2 : Int))).setCell ⟨pb, 1, none⟩ (.slice cur2.a cur2.n cur2.cap)) (blkOf sp) W.heap.size pb lvl2 cur2 ((pgO (some r) mo).map (·.2))) := (ChkSt.put (lvl' := lvl2) (cur' := cur2) HS4.out).1
        have HCR : Hid (ChkR W ((W4.setCell ⟨pb, 0, none⟩ (.int .i64 (lvl2 : Int))).setCell ⟨pb, 1, none⟩ (.slice cur2.a cur2.n cur2.cap)) key R lvl2 cur2 ((pgO (some r) mo).map (·.2))) := by
         unfold Hid ChkR
         rw [HRC2.out]
         cases e : pgO (some r) mo with
         | none => exact Or.inl ⟨rfl, rfl⟩
         | some q =>
          obtain ⟨⟨l, its'⟩, r'⟩ := q
          obtain ⟨rfl, how⟩ := HOWN.out l its' r' e
          refine Or.inr ⟨r', its', rfl, pgO_ok e, ?_, ?_⟩
          ·exact owns_frame how (ChkSt.put (lvl' := lvl2) (cur' := cur2) HS4.out).2 (fun k hk e => owns_ne how HS4.out.pg (by decide) (by rw [hk, e]))
          ·simp only [heq, if_true]
        go_wp2_with fail
        go_roundw
        case measure =>
         rw [HPT.out.meas, HS.out.meas]
         simp only [Option.isSome_some, if_true]
         split <;> omega
        case rel => exact ⟨lvl2, cur2, _, hlvl2, HPT, HCR⟩
       ·have hneI : ((lvl2 : Int) == (lvl : Int) - 1) = false := by simp; omega
        have HPT : Hid (ChkSt W (((W4.setCell ⟨W.heap.size, 1, none⟩ (.bool true)).setCell ⟨pb, 0, none⟩ (.int .i64 (lvl2 : Int))).setCell ⟨pb, 1, none⟩ (.slice cur2.a cur2.n cur2.cap)) (blkOf sp) W.heap.size pb lvl2 cur2 none) := (ChkSt.put (lvl' := lvl2) (cur' := cur2) HS4.out.bad).1
        have HCR : Hid (ChkR W (((W4.setCell ⟨W.heap.size, 1, none⟩ (.bool true)).setCell ⟨pb, 0, none⟩ (.int .i64 (lvl2 : Int))).setCell ⟨pb, 1, none⟩ (.slice cur2.a cur2.n cur2.cap)) key R lvl2 cur2 none) := by
         refine Or.inl ⟨rfl, ?_⟩
         rw [HRC2.out]
         cases e : pgO (some r) mo with
         | none => rfl
         | some q =>
          obtain ⟨⟨l, its'⟩, r'⟩ := q
          obtain ⟨rfl, how⟩ := HOWN.out l its' r' e
          simp only [if_neg heq]
        go_wp2_with fail
        go_roundw
        case measure =>
         rw [HPT.out.meas, HS.out.meas]
         simp
        case rel => exact ⟨lvl2, cur2, _, hlvl2, HPT, HCR⟩
      ·have hpe : placeN its key = its.length := by omega
       have HRE : Hid (R = some ((lvl, its), r)) := by
        unfold Hid
        obtain ⟨m, rfl⟩ : ∃ m, lvl = m + 1 := ⟨lvl - 1, by omega⟩
        rw [HRC.out, chkF, if_neg hlt]
       have hpE : ((placeN its key : Int) == cur.n) = true := by simp; rw [HCN.out]; omega
       go_wp2_with fail
       go_meet
       case rel => exact ⟨lvl, cur, some r, hlvl, HS2, Or.inr ⟨r, its, rfl, HPO.out, HO2.out, HRE.out⟩⟩
  case rest =>
   obtain ⟨lvl, cur, o, hlvl, HS, HE⟩ := hcut
   clear HS5 HC5
   obtain ⟨s', l', bad, hrd, ho⟩ := HS.out.rd
   have r0 : wc.cell? ⟨W.heap.size, 0, none⟩ = some (.slice s'.a s'.n s'.cap) := RowV.cell hrd.row 0 (by simp)
   have r1 : wc.cell? ⟨W.heap.size, 1, none⟩ = some (.bool bad) := RowV.cell hrd.row 1 (by simp)
   have HSN : Hid (s'.n = l'.length) := hrd.sub.bs.n
   have HAN : Hid (RowV wc (w.heap.size + 1) 49 [.bool false, .slice none 0 0]) := RowV.below HA0.out HA0.out.lt HS.out.be
   have a0 := HAN.out.cell 0 (by simp)
   have a1 := HAN.out.cell 1 (by simp)
   have fa0 := HAN.out.frozen 0
   have fa1 := HAN.out.frozen 1
   simp only [List.getElem_cons_zero, List.getElem_cons_succ] at a0 a1
   have HBW : Hid (Below w.heap.size w wc) := HB2.out.trans (HS.out.be.mono HB2.out.size)
   have HFA : Hid (∀ (wx : World) (v v' : Value), Below wc.heap.size wc wx → RowV ((wx.setCell ⟨w.heap.size + 1, 0, none⟩ v).setCell ⟨w.heap.size + 1, 1, none⟩ v') (w.heap.size + 1) 49 [v, v'] ∧ Below w.heap.size w ((wx.setCell ⟨w.heap.size + 1, 0, none⟩ v).setCell ⟨w.heap.size + 1, 1, none⟩ v') ∧ Frame (fun k => k = w.heap.size + 1) wx ((wx.setCell ⟨w.heap.size + 1, 0, none⟩ v).setCell ⟨w.heap.size + 1, 1, none⟩ v')) := fun wx v v' hx => by
    have hf : Frame (fun k => k = w.heap.size + 1) wx ((wx.setCell ⟨w.heap.size + 1, 0, none⟩ v).setCell ⟨w.heap.size + 1, 1, none⟩ v') := ((Frame.refl (fun k => k = w.heap.size + 1) wx).setCell (p := ⟨w.heap.size + 1, 0, none⟩) rfl _).setCell (p := ⟨w.heap.size + 1, 1, none⟩) rfl _
    have hb := HBW.out.trans (hx.mono HBW.out.size)
    exact ⟨by simpa using (RowV.set (RowV.below HAN.out HAN.out.lt hx) 0 v).set 1 v', hb.trans (hf.below hb.size (fun k hk => by omega)), hf⟩
   cases bad with
   | true =>
    have HQ5 : Hid (q = (5, none)) := by
     unfold Hid; rw [HQ.out]
     rcases HE.out with ⟨_, h⟩ | ⟨r, its, h, _⟩
     ·rw [h]; rfl
     ·rw [h] at ho; simp at ho
    clear hrd ho HE
    go_wp2
    obtain ⟨h1, h2, h3⟩ := HFA.out wc (.bool false) (.slice none 0 0) (Below.refl _ _)
    exact ret_agg2 (k := 6) (k2 := 7) (cs := [.bool false, .slice none 0 0]) rfl rfl rfl h1 Tryz.underlying49 rfl Tryz.sizeAnswer rfl (by rw [HQ5.out]; exact ⟨⟨none, 0, 0⟩, rfl, h2, (SubS.nil _ (fun _ => False)).bs⟩)
   | false =>
    obtain ⟨its, HPO, HOW, HRC⟩ : ∃ its, Hid (PageOk lvl its) ∧ Hid (OwnI wc W.heap.size cur.val its) ∧ Hid (R = some ((lvl, its), l')) := by
     rcases HE.out with ⟨h, _⟩ | ⟨r, its, h, h2, h3, h4⟩
     ·rw [h] at ho; simp at ho
     ·rw [h] at ho; simp at ho; subst ho; exact ⟨its, h2, h3, h4⟩
    clear hrd ho HE
    by_cases hz : s'.n = 0
    ·have HZ : Hid (l' = []) := List.length_eq_zero_iff.1 (by have := HSN.out; omega)
     have HQ0 : Hid (q = (0, if lvl = 0 then (its.find? (fun x => x.key == key)).map (·.more) else none)) := by
      unfold Hid; rw [HQ.out, HRC.out, HZ.out]; rfl
     have hzI : (s'.n : Int) = 0 := by omega
     have d0 := HS.out.pg.cell 0 (by simp)
     have d1 := HS.out.pg.cell 1 (by simp)
     simp only [List.getElem_cons_zero, List.getElem_cons_succ, SlR.val] at d0 d1
     obtain ⟨hs1, hcn⟩ := SlV.ofOwn (s := cur) HOW.out
     have HSI : Hid (SlI wc cur.a its) := hs1
     have HCN : Hid (cur.n = its.length) := hcn
     have HL60 : Hid (its.length ≤ 60) := HPO.out.len
     have HP12' : Hid (lvl = 0 → ∀ x ∈ its, x.more.length ≤ 12) := HPO.out.low
     have HKW : Hid (BS wc sk key) := HKS.out.below HBW.out
     clear hs1 hcn
     clear HRC HZ HPO HOW
     go_wp2
     go_loopw [13] (fun i wr => ∃ k : Nat, k ≤ its.length ∧ i = .int .i64 (k : Int) ∧ Hid (Below wc.heap.size wc wr) ∧ Hid (∀ j (hj : j < its.length), j < k → (its[j].key == key) = false) ∧ (lvl ≠ 0 → k = 0)) (fun i _ => its.length - (intOf i).toNat)
     case atStart => exact ⟨0, by omega, by simp, Below.refl _ _, fun j hj h => by omega, fun _ => rfl⟩
     case round =>
      obtain ⟨k, hk, rfl, HBR, HNO, hk0⟩ := hrel
      have hk60 : (k : Int) ≤ 60 := by have := HL60.out; omega
      have HS2 : Hid (ChkSt W wr (blkOf sp) W.heap.size pb lvl cur o) := HS.out.below HBR.out
      have HAR : Hid (RowV wr (w.heap.size + 1) 49 [.bool false, .slice none 0 0]) := RowV.below HAN.out HAN.out.lt HBR.out
      have d0 := HS2.out.pg.cell 0 (by simp)
      have d1 := HS2.out.pg.cell 1 (by simp)
      have a0 := HAR.out.cell 0 (by simp)
      have a1 := HAR.out.cell 1 (by simp)
      have fa0 := HAR.out.frozen 0
      have fa1 := HAR.out.frozen 1
      simp only [List.getElem_cons_zero, List.getElem_cons_succ, SlR.val] at d0 d1 a0 a1
      by_cases hgo : k < its.length ∧ lvl = 0
      ·obtain ⟨hlt, rfl⟩ := hgo
       have HP12 : Hid (∀ x ∈ its, x.more.length ≤ 12) := HP12'.out rfl
       have hkI : (k : Int) < cur.n := by rw [HCN.out]; omega
       obtain ⟨bb, oo, hca, hbb, z0, z1, z2⟩ := SlI.cells (SlV.below_all HSI.out HBR.out) k hlt
       have hbs := fun (n : Nat) => (HKW.out.below HBR.out).below (w' := wr.drewN n) (by have hb := Below.refl wr.heap.size wr; exact ⟨hb.os, hb.tape, hb.output, hb.size, hb.block⟩)
       have hcv := fun (n : Nat) => run_string_SlB (P := Tryz.prog) (wr.drewN n) 38 9 5 sk.a sk.n sk.cap key Tryz.underlying38 Tryz.underlying5 Tryz.underlying9 (hbs n).n (hbs n).sl (hbs n).nil
       unfold strV at z0 z1
       obtain ⟨ca, cn, cc⟩ := cur
       simp only at hca hkI
       subst hca
       by_cases hke : its[k].key = key
       ·have HQ1 : Hid (q = (0, some its[k].more)) := by
         unfold Hid; rw [HQ0.out, if_pos rfl]
         have : its.find? (fun x => x.key == key) = some its[k] := by
          rw [List.find?_eq_some_iff_getElem]
          exact ⟨by simp [hke], k, hlt, rfl, fun j hj => by have := HNO.out j (by omega) hj; simpa using this⟩
         rw [this]; rfl
        have HMO : Hid (its[k].more.length ≤ 12) := HP12.out _ (List.getElem_mem hlt)
        have hke2 : (its[k].key == key) = true := by simpa using hke
        generalize its[k].key = lk at *
        generalize its[k].more = mo at *
        clear hbs hke HNO HSI
        go_upto_region 18 with fail
        go_quiet (fail)
        have HBQ : Hid (Below wc.heap.size wc (wr.drewN nq)) := ⟨HBR.out.os, HBR.out.tape, HBR.out.output, HBR.out.size, HBR.out.block⟩
        have z1q : (wr.drewN nq).cell? ⟨bb, oo + k * 3 + 1, none⟩ = some (.string ⟨mo.toArray⟩) := z1
        have d1q : (wr.drewN nq).cell? ⟨pb, 1, none⟩ = some (.slice (some ⟨bb, oo, none⟩) cn cc) := d1
        have HAQ : Hid (RowV (wr.drewN nq) (w.heap.size + 1) 49 [.bool false, .slice none 0 0]) := RowV.below HAN.out HAN.out.lt HBQ.out
        generalize wr.drewN nq = wq at *
        clear d0 d1 z0 z1 z2 hcv HS2 HAR a0 a1 fa0 fa1
        have hnN : w.heap.size + 1 < wq.heap.size := HAQ.out.lt
        have aq0 := HAQ.out.cell 0 (by simp)
        have aq1 := HAQ.out.cell 1 (by simp)
        have faq0 := HAQ.out.frozen 0
        have faq1 := HAQ.out.frozen 1
        simp only [List.getElem_cons_zero, List.getElem_cons_succ] at aq0 aq1
        have hcy := fun w => run_bytes_of_string (P := Tryz.prog) w 9 38 5 ⟨mo.toArray⟩ Tryz.underlying9 Tryz.underlying38 Tryz.underlying5
        go_wp2
        obtain ⟨h1, h2, h3⟩ := HFA.out wq (.bool true) (.slice (some ⟨wq.heap.size, 0, none⟩) mo.length (grownCap wq mo.length 0 5)) HBQ.out
        refine ret_agg2 (k := 6) (k2 := 7) (cs := [.bool true, .slice (some ⟨wq.heap.size, 0, none⟩) mo.length (grownCap wq mo.length 0 5)]) rfl rfl rfl (RowV.of_block (RowV.alloc h1 _) rfl) Tryz.underlying49 rfl Tryz.sizeAnswer rfl ?_
        rw [HQ1.out]
        refine ⟨⟨some ⟨wq.heap.size, 0, none⟩, mo.length, grownCap wq mo.length 0 5⟩, rfl, (h2.alloc h2.size _).drew, ?_⟩
        have hb := BS.ofString ((wq.setCell ⟨w.heap.size + 1, 0, none⟩ (.bool true)).setCell ⟨w.heap.size + 1, 1, none⟩ (.slice (some ⟨wq.heap.size, 0, none⟩) mo.length (grownCap wq mo.length 0 5))) ⟨mo.toArray⟩ (grownCap wq mo.length 0 5) 5 ((bytesRow ⟨mo.toArray⟩ (grownCap wq mo.length 0 5)).size, (bytesRow ⟨mo.toArray⟩ (grownCap wq mo.length 0 5)).size + 1)
        have hb2 := hb.drew
        simpa [ba_size] using hb2
       ·have hkf2 : (its[k].key == key) = false := by simpa using hke
        have HMS : Hid (its.length - (intOf (.int .i64 ((k : Int) + 1))).toNat < its.length - (intOf (.int .i64 (k : Int))).toNat) := by unfold Hid; simp [intOf]; omega
        have HNO2 : Hid (∀ j (hj : j < its.length), j < k + 1 → (its[j].key == key) = false) := fun j hj h => by
         by_cases e : j = k
         ·subst e; exact hkf2
         ·exact HNO.out j hj (by omega)
        generalize its[k].key = lk at *
        clear hbs hke HNO HSI z1 z2
        go_upto_region 18 with fail
        go_quiet (fail)
        have HBQ : Hid (Below wc.heap.size wc (wr.drewN nq)) := ⟨HBR.out.os, HBR.out.tape, HBR.out.output, HBR.out.size, HBR.out.block⟩
        go_wp2
        have hw : wrap64 ((k : Int) + 1) = (k : Int) + 1 := by simp only [wrap64]; omega
        refine ⟨⟨k + 1, hlt, ?_, HBQ, HNO2, fun e => absurd rfl e⟩, ?_⟩
        ·go_num
        ·first | exact HMS.out | (rw [hw]; exact HMS.out)
      ·have HQ1 : Hid (q = (0, none)) := by
        unfold Hid; rw [HQ0.out]
        by_cases hl0 : lvl = 0
        ·have hkn : k = its.length := by omega
         rw [if_pos hl0, List.find?_eq_none.2 (fun x hx => by
          obtain ⟨j, hj, rfl⟩ := List.mem_iff_getElem.1 hx
          have := HNO.out j hj (by omega); simpa using this)]
         rfl
        ·rw [if_neg hl0]
       have HEND : Hid (∀ X : World, X = (wr.setCell ⟨w.heap.size + 1, 0, none⟩ (.bool false)).setCell ⟨w.heap.size + 1, 1, none⟩ (.slice none 0 0) → RowV X (w.heap.size + 1) 49 [.bool false, .slice none 0 0] ∧ chkPost w q (.returned (.tuple #[.agg #[.bool false, .slice none 0 0], .int .i64 0])) X) := fun X e => by
        subst e
        obtain ⟨h1, h2, h3⟩ := HFA.out wr (.bool false) (.slice none 0 0) HBR.out
        exact ⟨h1, by rw [HQ1.out]; exact ⟨⟨none, 0, 0⟩, rfl, h2, (SubS.nil _ (fun _ => False)).bs⟩⟩
       by_cases hkl : k < its.length
       ·have hkI : (k : Int) < cur.n := by rw [HCN.out]; omega
        have hl0e : ((lvl : Int) == 0) = false := by have : ¬ lvl = 0 := fun e => hgo ⟨hkl, e⟩; simp; omega
        go_wp2
        exact ret_agg2 (k := 6) (k2 := 7) (cs := [.bool false, .slice none 0 0]) rfl rfl rfl (HEND.out _ rfl).1 Tryz.underlying49 rfl Tryz.sizeAnswer rfl (HEND.out _ rfl).2
       ·have hkI : ¬ (k : Int) < cur.n := by rw [HCN.out]; omega
        go_wp2
        exact ret_agg2 (k := 6) (k2 := 7) (cs := [.bool false, .slice none 0 0]) rfl rfl rfl (HEND.out _ rfl).1 Tryz.underlying49 rfl Tryz.sizeAnswer rfl (HEND.out _ rfl).2
    ·have HQ5 : Hid (q = (5, none)) := by
      unfold Hid; rw [HQ.out, HRC.out]
      have : l' ≠ [] := fun e => by have := HSN.out; rw [e] at this; simp at this; omega
      simp [ansF, this]
     have hzI : (0 : Int) < s'.n := by omega
     go_wp2
     obtain ⟨h1, h2, h3⟩ := HFA.out wc (.bool false) (.slice none 0 0) (Below.refl _ _)
     exact ret_agg2 (k := 6) (k2 := 7) (cs := [.bool false, .slice none 0 0]) rfl rfl rfl h1 Tryz.underlying49 rfl Tryz.sizeAnswer rfl (by rw [HQ5.out]; exact ⟨⟨none, 0, 0⟩, rfl, h2, (SubS.nil _ (fun _ => False)).bs⟩)
end Go.Proofs.YtekegfbjbainhaaGreat


namespace Go.Proofs.YtekegfbjbainhaaGreat
open Go.RowKit
theorem takeR_len {n : Nat} {o : Option (List UInt8)} {r : List UInt8} (h : takeR n o = some r) : ∃ l, o = some l ∧ r.length + n = l.length := by
 cases o with
 | none => cases h
 | some l =>
  have h' : (if n ≤ l.length then some (l.drop n) else none) = some r := h
  split at h'
  ·cases h'; exact ⟨l, rfl, by rw [List.length_drop]; omega⟩
  ·cases h'
theorem entR_len {lv : Nat} {l r : List UInt8} (h : entR lv (some l) = some r) : r.length + 1 ≤ l.length := by
 have ho : ∃ l2, entO (some l) = some l2 ∧ r.length ≤ l2.length := by
  unfold entR at h
  split at h
  ·obtain ⟨l1, h1, e1⟩ := takeR_len h
   obtain ⟨l2, h2, e2⟩ := takeR_len h1
   exact ⟨l2, h2, by omega⟩
  ·obtain ⟨l2, h2, e2⟩ := takeR_len h
   exact ⟨l2, h2, by omega⟩
 obtain ⟨l2, h2, e2⟩ := ho
 unfold entO at h2
 obtain ⟨l3, h3, e3⟩ := takeR_len h2
 obtain ⟨l4, h4, e4⟩ := takeR_len h3
 cases h4
 omega
theorem itemsO_len (lv : Nat) : ∀ (n : Nat) (its : List ItR) (l : List UInt8) (res : List ItR), itemsO lv n its (some l) = some res → n ≤ l.length
 | 0, _, _, _, _ => Nat.zero_le _
 | n + 1, its, l, res, h => by
  unfold itemsO at h
  split at h
  ·cases e : entR lv (some l) with
   | none => rw [e, itemsO_none] at h; cases h
   | some r =>
    rw [e] at h
    have h1 := itemsO_len lv n _ r res h
    have h2 := entR_len e
    omega
  ·cases h
theorem pageF_len {b : List UInt8} {lv : Nat} {its : List ItR} (h : pageF b = some (lv, its)) : its.length + 2 ≤ b.length := by
 unfold pageF at h
 split at h
 case isFalse => cases h
 case isTrue hc =>
  cases e : itemsO (oneV (some b)) (oneV (takeR 1 (some b))) [] (takeR 1 (takeR 1 (some b))) with
  | none => rw [e] at h; cases h
  | some l =>
   rw [e] at h
   simp only [Option.map_some, Option.some.injEq, Prod.mk.injEq] at h
   obtain ⟨rfl, rfl⟩ := h
   obtain ⟨h1, h2, h3⟩ := itemsO_ok _ _ [] _ l e List.Pairwise.nil (fun x hx => by cases hx)
   cases e2 : takeR 1 (takeR 1 (some b)) with
   | none => rw [e2, itemsO_none] at e; cases e
   | some r =>
    rw [e2] at e
    have h4 := itemsO_len _ _ _ _ _ e
    obtain ⟨l1, g1, e1⟩ := takeR_len e2
    obtain ⟨l2, g2, e3⟩ := takeR_len g1
    cases g2
    rw [h2]; simp; omega
theorem pgO_len {s d : List UInt8} {lv : Nat} {its : List ItR} {r : List UInt8} (h : pgO (some s) d = some ((lv, its), r)) : its.length + r.length + 4 ≤ s.length := by
 unfold pgO at h
 split at h
 ·cases h
 ·rename_i r' hr
  split at h
  ·cases h
  ·rename_i p hp
   split at h
   ·simp only [Option.some.injEq, Prod.mk.injEq] at h
    obtain ⟨rfl, rfl⟩ := h
    have h1 := pageF_len hp
    obtain ⟨l1, g1, e1⟩ := takeR_len hr
    obtain ⟨l2, g2, e2⟩ := takeR_len g1
    obtain ⟨l3, g3, e3⟩ := takeR_len g2
    cases g3
    have h2 : (pgB (some s)).length = pgN (some s) := takeB_some hr
    omega
   ·cases h
theorem readU_len (fr tu : List UInt8) : ∀ (lv : Nat) (its : List ItR) (r : List UInt8) (es : List ItR) (r' : List UInt8), readU fr tu lv its r = some (es, r') → es.length + r'.length ≤ its.length + r.length
 | 0, its, r, es, r', h => by
  have h' : some (its, r) = some (es, r') := h
  simp only [Option.some.injEq, Prod.mk.injEq] at h'
  obtain ⟨rfl, rfl⟩ := h'
  omega
 | lv + 1, its, r, es, r', h => by
  have key : ∀ (sel : List ItR) (s : List ItR × List UInt8), sel.foldlM (stepU (readU fr tu lv) lv) s = some (es, r') → es.length + r'.length ≤ s.1.length + s.2.length := by
   intro sel
   induction sel with
   | nil => intro s hs; simp only [List.foldlM_nil] at hs; cases hs; exact Nat.le_refl _
   | cons x xs ih =>
    intro s hs
    simp only [List.foldlM_cons] at hs
    cases e : stepU (readU fr tu lv) lv s x with
    | none => rw [e] at hs; cases hs
    | some t =>
     rw [e] at hs
     have h1 := ih t hs
     unfold stepU at e
     split at e
     ·cases e
     ·rename_i l its' r1 hp
      split at e
      ·cases e2 : readU fr tu lv its' r1 with
       | none => rw [e2] at e; cases e
       | some q =>
        obtain ⟨q1, q2⟩ := q
        rw [e2] at e
        simp only [Option.map_some, Option.some.injEq] at e
        subst e
        have h2 := readU_len fr tu lv its' r1 q1 q2 e2
        have h3 := pgO_len hp
        simp at h1
        omega
      ·cases e
  have := key _ _ h
  simp at this
  omega
def entC (e : SlR × SlR) : List Value := [e.1.val, e.2.val]
def entsC (l : List (SlR × SlR)) : List Value := l.flatMap entC
theorem entsC_length (l : List (SlR × SlR)) : (entsC l).length = l.length * 2 := flat_length entC 2 l (fun _ _ => rfl)
theorem entsC_append (l m : List (SlR × SlR)) : entsC (l ++ m) = entsC l ++ entsC m := by simp [entsC]
theorem entsC_one (l : List (SlR × SlR)) : ∀ u ∈ entsC l, u.oneCell' = true := fun u hu => by
 obtain ⟨x, _, hx⟩ := List.mem_flatMap.1 hu
 simp only [entC, SlR.val, List.mem_cons, List.not_mem_nil, or_false] at hx
 rcases hx with rfl | rfl <;> rfl
theorem Tryz.infoEnt : (Tryz.prog.info? 164).map (fun i => (i.zero, i.size, i.bytes)) = some (some (.agg #[.slice none 0 0, .slice none 0 0]), 2, 48) := by kernel_rfl
structure EntsR (w : World) (base : Nat) (v : SlR) (es : List (SlR × SlR)) (l : List ItR) : Prop where
 own : w.ownsRow base 164 2 v.val es.length (entsC es)
 len : es.length = l.length
 bs : ∀ i (h1 : i < es.length) (h2 : i < l.length), BS w es[i].1 l[i].key ∧ BS w es[i].2 l[i].more
 ge : ∀ e ∈ es, ∀ x, (e.1.a = some x ∨ e.2.a = some x) → base ≤ x.block ∧ v.val.ownBlock ≠ some x.block
theorem EntsR.nil (w : World) (base : Nat) : EntsR w base ⟨none, 0, 0⟩ [] [] := ⟨World.ownsRow_nil _ _ _ _, rfl, fun i h => absurd h (Nat.not_lt_zero _), fun e he => (by cases he)⟩
theorem EntsR.frame {w w' : World} {S : Nat → Prop} {base : Nat} {v : SlR} {es : List (SlR × SlR)} {l : List ItR} (h : EntsR w base v es l) (hf : Frame S w w') (hS : ∀ k, S k → k < base) : EntsR w' base v es l :=
 ⟨owns_frame h.own hf (fun k hk e => by have := (h.own.lt k hk).1; have := hS k e; omega), h.len, fun i h1 h2 =>
  ⟨(h.bs i h1 h2).1.frame hf (fun x hx e => by have := (h.ge _ (List.getElem_mem h1) x (Or.inl hx)).1; have := hS _ e; omega),
   (h.bs i h1 h2).2.frame hf (fun x hx e => by have := (h.ge _ (List.getElem_mem h1) x (Or.inr hx)).1; have := hS _ e; omega)⟩, h.ge⟩
theorem EntsR.below {w w' : World} {base : Nat} {v : SlR} {es : List (SlR × SlR)} {l : List ItR} (h : EntsR w base v es l) (hf : Below w.heap.size w w') : EntsR w' base v es l := h.frame (Frame.of_below_all (S := fun _ => False) hf) (fun _ e => e.elim)
theorem EntsR.toBase {w : World} {base base' : Nat} {v : SlR} {es : List (SlR × SlR)} {l : List ItR} (h : EntsR w base v es l) (hb : base' ≤ base) : EntsR w base' v es l :=
 ⟨owns_base h.own (fun k hk => Nat.le_trans hb (h.own.lt k hk).1), h.len, h.bs, fun e he x hx => ⟨Nat.le_trans hb (h.ge e he x hx).1, (h.ge e he x hx).2⟩⟩
theorem EntsR.push {w w' : World} {base : Nat} {v v' : SlR} {es es2 : List (SlR × SlR)} {l l2 : List ItR} (h : EntsR w base v es l) (h2 : es2.length = l2.length) (hb : ∀ i (h1 : i < es2.length) (h2 : i < l2.length), BS w es2[i].1 l2[i].key ∧ BS w es2[i].2 l2[i].more)
  (hg : ∀ e ∈ es2, ∀ x, (e.1.a = some x ∨ e.2.a = some x) → base ≤ x.block ∧ v.val.ownBlock ≠ some x.block)
  (ho : w'.ownsRow base 164 2 v'.val (es.length + es2.length) (entsC es ++ entsC es2)) (hf : Frame (fun k => v.val.ownBlock = some k) w w') (hat : v'.val.ownBlock = v.val.ownBlock ∨ v'.val.ownBlock = some w.heap.size) : EntsR w' base v' (es ++ es2) (l ++ l2) := by
 have hlt : ∀ e, e ∈ es ++ es2 → ∀ x, (e.1.a = some x ∨ e.2.a = some x) → x.block < w.heap.size ∧ base ≤ x.block ∧ v.val.ownBlock ≠ some x.block := fun e he x hx => by
  rcases List.mem_append.1 he with he | he
  ·obtain ⟨i, hi, rfl⟩ := List.mem_iff_getElem.1 he
   refine ⟨?_, h.ge _ he x hx⟩
   rcases hx with hx | hx
   ·exact (h.bs i hi (by rw [← h.len]; exact hi)).1.lt x hx
   ·exact (h.bs i hi (by rw [← h.len]; exact hi)).2.lt x hx
  ·obtain ⟨i, hi, rfl⟩ := List.mem_iff_getElem.1 he
   refine ⟨?_, hg _ he x hx⟩
   rcases hx with hx | hx
   ·exact (hb i hi (by rw [← h2]; exact hi)).1.lt x hx
   ·exact (hb i hi (by rw [← h2]; exact hi)).2.lt x hx
 refine ⟨by rw [List.length_append, entsC_append]; exact ho, by rw [List.length_append, List.length_append, h.len, h2], fun i h1 h3 => ?_, fun e he x hx => ?_⟩
 ·have hm := List.getElem_mem h1
  have hB : BS w (es ++ es2)[i].1 (l ++ l2)[i].key ∧ BS w (es ++ es2)[i].2 (l ++ l2)[i].more := by
   by_cases hi : i < es.length
   ·rw [List.getElem_append_left hi, List.getElem_append_left (by rw [← h.len]; exact hi)]
    exact h.bs i hi (by rw [← h.len]; exact hi)
   ·have e1 : l.length ≤ i := by rw [← h.len]; omega
    rw [List.getElem_append_right (by omega), List.getElem_append_right e1]
    simp only [← h.len]
    exact hb _ _ _
  exact ⟨hB.1.frame hf (fun x hx e => (hlt _ hm x (Or.inl hx)).2.2 e), hB.2.frame hf (fun x hx e => (hlt _ hm x (Or.inr hx)).2.2 e)⟩
 ·obtain ⟨g1, g2, g3⟩ := hlt e he x hx
  refine ⟨g2, ?_⟩
  rcases hat with e' | e'
  ·rw [e']; exact g3
  ·rw [e']; intro e2; have e3 : w.heap.size = x.block := Option.some.inj e2; omega
end Go.Proofs.YtekegfbjbainhaaGreat


namespace Go.Proofs.YtekegfbjbainhaaGreat
open Go.RowKit
def patE (kb : Nat) : Nat → Value := fun j => if j % 2 = 0 then .slice (some ⟨kb, 0, none⟩) 2 2 else .slice none 0 0
structure MkAt (w : World) (m kb : Nat) : Prop where
 c0 : w.cell? ⟨kb, 0, none⟩ = some (.int .u8 ((m : Int) % 251))
 c1 : w.cell? ⟨kb, 1, none⟩ = some (.int .u8 9)
 lt : kb < w.heap.size
theorem MkAt.frame {w w' : World} {S : Nat → Prop} {m kb : Nat} (h : MkAt w m kb) (hf : Frame S w w') (hS : ¬ S kb) : MkAt w' m kb :=
 ⟨by rw [World.cell?_of_block (w := w) (w' := w') (a := ⟨kb, 0, none⟩) (hf.block kb h.lt hS)]; exact h.c0, by rw [World.cell?_of_block (w := w) (w' := w') (a := ⟨kb, 1, none⟩) (hf.block kb h.lt hS)]; exact h.c1, Nat.lt_of_lt_of_le h.lt hf.size⟩
theorem MkAt.below {w w' : World} {m kb : Nat} (h : MkAt w m kb) (hb : Below w.heap.size w w') : MkAt w' m kb := h.frame (Frame.of_below_all (S := fun _ => False) hb) (fun e => e)
set_option maxRecDepth 100000 in
set_option maxHeartbeats 1000000 in
theorem allEntries_any (s : SlR) (m kb : Nat) (w : World) (h : PatSl w (patE kb) 2 s) (hk : MkAt w m kb) (hn : s.n ≤ 140737488355328) (hm : m ≤ 140737488355328) :
  Calls Tryz.prog 59 #[s.val, .int .i64 (m : Int)] w fun e w' => e = .returned (.bool true) ∧ w' = w := by
 have hmI : (m : Int) ≤ 140737488355328 := by omega
 have hm0 : (0 : Int) ≤ m := by omega
 have hnI : (s.n : Int) ≤ 140737488355328 := by omega
 have HP : Hid (PatSl w (patE kb) 2 s) := h
 have q0 := hk.c0
 have q1 := hk.c1
 clear h hk
 unfold SlR.val
 go_enter Tryz.func59, Tryz.ntmps59
 go_wp2
 go_loop [5] (fun i => ∃ k : Nat, k ≤ s.n ∧ i = .int .i64 k) (fun i => s.n - (intOf i).toNat)
 case atStart => exact ⟨0, by omega, rfl⟩
 case round =>
  obtain ⟨k, hk, rfl⟩ := hrel
  by_cases hlt : k < s.n
  ·have hltI : (k : Int) < s.n := by omega
   obtain ⟨g, ha, hg, hc⟩ := HP.out (k * 2) (by omega)
   obtain ⟨g', ha', hg', hc'⟩ := HP.out (k * 2 + 1) (by omega)
   rw [ha] at ha'; cases ha'
   have e0 : w.cell? ⟨g, k * 2, none⟩ = some (.slice (some ⟨kb, 0, none⟩) 2 2) := by rw [hc]; unfold patE; rw [if_pos (by omega)]
   have e1 : w.cell? ⟨g, k * 2 + 1, none⟩ = some (.slice none 0 0) := by rw [hc']; unfold patE; rw [if_neg (by omega)]
   rw [ha]
   clear hc hc'
   go_wp2
   go_round
   case rel => exact ⟨k + 1, by omega, by go_num⟩
   case measure => simp [intOf]; omega
  ·have hltI : ¬ (k : Int) < s.n := by omega
   go_wp2
   go_ret
   exact ⟨rfl, rfl⟩
set_option maxRecDepth 100000 in
set_option maxHeartbeats 1000000 in
theorem stillE_any (r : BkR) (m kb : Nat) (w : World) (h : BkOk w (patE kb) 2 r) (hk : MkAt w m kb) (hm : m ≤ 140737488355328) :
  Calls Tryz.prog 26 #[.agg (bkC r m).toArray] w fun e w' => e = .returned (.bool true) ∧ Below w.heap.size w w' := by
 have hb : Below w.heap.size w (w.alloc (.cells #[.slice r.l.a r.l.n r.l.cap, .slice r.one.a r.one.n r.one.cap, .slice r.two.a r.two.n r.two.cap, .slice r.three.a r.three.n r.three.cap, .int .i64 (m : Int)] 65)) := (Below.refl _ _).alloc (Nat.le_refl _) _
 have h' := h.below hb
 have hk' := hk.below hb
 have H1 : Hid (Calls _ _ _ _ _) := allEntries_any r.l m kb _ h'.l hk' (by have := h.nl; omega) hm
 have H2 : Hid (Calls _ _ _ _ _) := allEntries_any r.one m kb _ h'.one hk' (by have := h.n1; omega) hm
 have H3 : Hid (Calls _ _ _ _ _) := allEntries_any r.two m kb _ h'.two hk' (by have := h.n2; omega) hm
 have H4 : Hid (Calls _ _ _ _ _) := allEntries_any r.three m kb _ h'.three hk' (by have := h.n3; omega) hm
 clear h h' hb hk hk'
 unfold bkC
 unfold SlR.val at H1 H2 H3 H4 ⊢
 go_enter Tryz.func26, Tryz.ntmps26
 go_wp2_with fail
 refine H1.out.mono ?_
 rintro e w1 ⟨rfl, rfl⟩
 go_wp2_with fail
 refine H2.out.mono ?_
 rintro e w1 ⟨rfl, rfl⟩
 go_wp2_with fail
 refine H3.out.mono ?_
 rintro e w1 ⟨rfl, rfl⟩
 go_wp2_with fail
 refine H4.out.mono ?_
 rintro e w1 ⟨rfl, rfl⟩
 go_wp2
 go_ret
 exact ⟨rfl, by go_grown⟩
end Go.Proofs.YtekegfbjbainhaaGreat


namespace Go.Proofs.YtekegfbjbainhaaGreat
open Go.RowKit
theorem Tryz.sizeEnts : (Tryz.prog.info? 65).map (·.size) = some 5 := by kernel_rfl
theorem patE_one (kb : Nat) : ∀ j, (patE kb j).oneCell' = true := fun j => by unfold patE; split <;> rfl
theorem patE_shift (kb k q : Nat) : patL (fun j => patE kb (k * 2 + j)) (q * 2) = patL (patE kb) (q * 2) := by
 unfold patL
 refine List.map_congr_left (fun j _ => ?_)
 unfold patE
 have : (k * 2 + j) % 2 = j % 2 := by omega
 rw [this]
theorem mark_moreE {W : World} {base k kb : Nat} {v : Value} (q : Nat) (h : W.ownsRow base 164 2 v k (patL (patE kb) (k * 2))) : (W.alloc (.cells (patL (patE kb) (q * 2)).toArray 164)).ownsRow base 164 2 v k (patL (patE kb) (k * 2)) ∧ SlV (W.alloc (.cells (patL (patE kb) (q * 2)).toArray 164)) (some ⟨W.heap.size, 0, none⟩) (patL (fun j => patE kb (k * 2 + j)) (q * 2)) := by
 refine ⟨h.alloc _, ?_⟩
 rw [patE_shift]
 exact SlV.alloc_new W _ _
theorem patE_set2 (kb : Nat) (xs : List Value) (k : Nat) (h : k * 2 + 1 < xs.length) : ((patL (patE kb) (k * 2) ++ xs.drop (k * 2)).set (k * 2) (.slice (some ⟨kb, 0, none⟩) 2 2)).set (k * 2 + 1) (.slice none 0 0) = patL (patE kb) ((k + 1) * 2) ++ xs.drop ((k + 1) * 2) := by
 have e0 : (.slice (some ⟨kb, 0, none⟩) 2 2 : Value) = patE kb (k * 2) := by unfold patE; rw [if_pos (by omega)]
 have e1 : (.slice none 0 0 : Value) = patE kb (k * 2 + 1) := by unfold patE; rw [if_neg (by omega)]
 rw [e0, e1, pat_set _ _ _ (by omega), pat_set _ _ _ (by omega), show (k + 1) * 2 = k * 2 + 1 + 1 by omega]
def ownEPost (w : World) (v : SlR) (m : Nat) (e : Ending) (w' : World) : Prop := ∃ (r : BkR) (kb : Nat), e = .returned (.agg (bkC r m).toArray) ∧ BkOk w' (patE kb) 2 r ∧ MkAt w' m kb ∧ Frame (fun k => v.val.ownBlock = some k) w w' ∧ (∀ k, bkF r k → v.val.ownBlock = some k ∨ w.heap.size + 1 < k) ∧ kb = w.heap.size + 1
set_option maxRecDepth 100000 in
set_option maxHeartbeats 4000000 in
theorem ownEntries_any (v : SlR) (n : Nat) (xs : List Value) (base m : Nat) (w : World) (ho : w.ownsRow base 164 2 v.val n xs) (hL : n ≤ 1000000000) (hm : m ≤ 140737488355328) (hb : base ≤ w.heap.size) :
  Calls Tryz.prog 110 #[v.val, .int .i64 (m : Int)] w (ownEPost w v m) := by
 have hcp := owns_cap (a := v.a) (n' := v.n) (cap := v.cap) ho
 obtain ⟨va, vn, vc⟩ := v
 unfold SlR.val at ho ⊢
 simp only at ho hcp
 obtain ⟨h1, h2, h3, h4⟩ := hcp
 subst h1
 have hmI : (m : Int) ≤ 140737488355328 := by omega
 have hm0 : (0 : Int) ≤ m := by omega
 have hA : Below w.heap.size w (((w.alloc (.cells #[.slice none 0 0, .slice none 0 0, .slice none 0 0, .slice none 0 0, .int .i64 0] 65)).alloc (.cells #[.int .u8 ((m : Int) % 251), .int .u8 9] 5)).alloc (.cells #[.slice (some ⟨w.heap.size + 1, 0, none⟩) 2 2, .slice none 0 0] 164)) := (((Below.refl _ _).alloc (Nat.le_refl _) _).alloc (by simp) _).alloc (by simp; omega) _
 have hxl : xs.length = vn * 2 := ho.1
 have HR0 : Hid (RowV (((w.alloc (.cells #[.slice none 0 0, .slice none 0 0, .slice none 0 0, .slice none 0 0, .int .i64 0] 65)).alloc (.cells #[.int .u8 ((m : Int) % 251), .int .u8 9] 5)).alloc (.cells #[.slice (some ⟨w.heap.size + 1, 0, none⟩) 2 2, .slice none 0 0] 164)) w.heap.size 65 [.slice none 0 0, .slice none 0 0, .slice none 0 0, .slice none 0 0, .int .i64 0]) := ((RowV.new w _ _).alloc _).alloc _
 have HK0 : Hid (RowV (((w.alloc (.cells #[.slice none 0 0, .slice none 0 0, .slice none 0 0, .slice none 0 0, .int .i64 0] 65)).alloc (.cells #[.int .u8 ((m : Int) % 251), .int .u8 9] 5)).alloc (.cells #[.slice (some ⟨w.heap.size + 1, 0, none⟩) 2 2, .slice none 0 0] 164)) (w.heap.size + 1) 5 [.int .u8 ((m : Int) % 251), .int .u8 9]) := (RowV.new_at _ _ _ _ (by simp)).alloc _
 have HX0 : Hid (RowV (((w.alloc (.cells #[.slice none 0 0, .slice none 0 0, .slice none 0 0, .slice none 0 0, .int .i64 0] 65)).alloc (.cells #[.int .u8 ((m : Int) % 251), .int .u8 9] 5)).alloc (.cells #[.slice (some ⟨w.heap.size + 1, 0, none⟩) 2 2, .slice none 0 0] 164)) (w.heap.size + 1 + 1) 164 [.slice (some ⟨w.heap.size + 1, 0, none⟩) 2 2, .slice none 0 0]) := RowV.new_at _ _ _ _ (by simp)
 have HO0 : Hid ((((w.alloc (.cells #[.slice none 0 0, .slice none 0 0, .slice none 0 0, .slice none 0 0, .int .i64 0] 65)).alloc (.cells #[.int .u8 ((m : Int) % 251), .int .u8 9] 5)).alloc (.cells #[.slice (some ⟨w.heap.size + 1, 0, none⟩) 2 2, .slice none 0 0] 164)).ownsRow base 164 2 (.slice va vn vc) vn xs) := owns_below ho hA
 have HF0 : Hid (Frame (fun k => (Value.slice va vn vc).ownBlock = some k) w (((w.alloc (.cells #[.slice none 0 0, .slice none 0 0, .slice none 0 0, .slice none 0 0, .int .i64 0] 65)).alloc (.cells #[.int .u8 ((m : Int) % 251), .int .u8 9] 5)).alloc (.cells #[.slice (some ⟨w.heap.size + 1, 0, none⟩) 2 2, .slice none 0 0] 164))) := Frame.of_below_all hA
 have HVL : Hid (∀ k, (Value.slice va vn vc).ownBlock = some k → base ≤ k ∧ k < w.heap.size) := ho.lt
 have hnI : (vn : Int) ≤ 1000000000 := by omega
 have HAD : Hid (va = none ∧ vn = 0 ∧ vc = 0 ∨ ∃ g, va = some ⟨g, 0, none⟩ ∧ base ≤ g ∧ g < w.heap.size) := h4
 have HB : Hid (base ≤ w.heap.size) := hb
 have HL : Hid (vn ≤ 1000000000) := hL
 have HXL : Hid (xs.length = vn * 2) := hxl
 clear hA ho h2 h3 h4 hb hL hxl
 go_enter Tryz.func110, Tryz.ntmps110
 go_upto_region 2 with fail
 generalize ((w.alloc (.cells #[.slice none 0 0, .slice none 0 0, .slice none 0 0, .slice none 0 0, .int .i64 0] 65)).alloc (.cells #[.int .u8 ((m : Int) % 251), .int .u8 9] 5)).alloc (.cells #[.slice (some ⟨w.heap.size + 1, 0, none⟩) 2 2, .slice none 0 0] 164) = W at *
 generalize hxb : w.heap.size + 1 + 1 = xb at *
 generalize hkb : w.heap.size + 1 = kb at *
 have HXB : Hid (xb = w.heap.size + 2) := by unfold Hid; omega
 have HKB : Hid (kb = w.heap.size + 1) := by unfold Hid; omega
 have hne1 : xb ≠ w.heap.size := by have := HXB.out; omega
 clear hxb hkb
 go_wp2
 go_loopw [6] (fun i wr => ∃ k : Nat, k ≤ vn ∧ i = .int .i64 k ∧ Hid (wr.ownsRow base 164 2 (.slice va vn vc) vn (patL (patE kb) (k * 2) ++ xs.drop (k * 2))) ∧ Hid (Frame (fun k => (Value.slice va vn vc).ownBlock = some k) w wr) ∧ Hid (RowV wr w.heap.size 65 [.slice none 0 0, .slice none 0 0, .slice none 0 0, .slice none 0 0, .int .i64 0]) ∧ Hid (RowV wr kb 5 [.int .u8 ((m : Int) % 251), .int .u8 9]) ∧ Hid (RowV wr xb 164 [.slice (some ⟨kb, 0, none⟩) 2 2, .slice none 0 0])) (fun i _ => vn - (intOf i).toNat)
 case atStart => exact ⟨0, by omega, by simp, by unfold Hid; simpa [patL] using HO0.out, HF0, HR0, HK0, HX0⟩
 case round =>
  obtain ⟨k, hk, rfl, HO, HF, HR, HK, HX⟩ := hrel
  have x0 := HX.out.cell 0 (by simp)
  have x1 := HX.out.cell 1 (by simp)
  simp only [List.getElem_cons_zero, List.getElem_cons_succ] at x0 x1
  have hkM : (k : Int) ≤ 1000000000 := by omega
  by_cases hlt : k < vn
  ·have hltI : (k : Int) < vn := by omega
   obtain ⟨g, hva, hbg, hgw⟩ : ∃ g, va = some ⟨g, 0, none⟩ ∧ base ≤ g ∧ g < w.heap.size := by
    rcases HAD.out with ⟨_, h0, _⟩ | h
    ·omega
    ·exact h
   subst hva
   have hkx : k * 2 + 1 < xs.length := by have := HXL.out; omega
   have hlen : (patL (patE kb) (k * 2) ++ xs.drop (k * 2)).length = xs.length := by rw [List.length_append, patL_length, List.length_drop]; omega
   obtain ⟨u0, hu0⟩ : ∃ u, (patL (patE kb) (k * 2) ++ xs.drop (k * 2))[k * 2]? = some u := ⟨_, List.getElem?_eq_getElem (by rw [hlen]; omega)⟩
   obtain ⟨u1, hu1⟩ : ∃ u, (patL (patE kb) (k * 2) ++ xs.drop (k * 2))[k * 2 + 1]? = some u := ⟨_, List.getElem?_eq_getElem (by rw [hlen]; omega)⟩
   have c0 := World.ownsRow.cellAt HO.out (k * 2) (by omega)
   have c1 := World.ownsRow.cellAt HO.out (k * 2 + 1) (by omega)
   rw [hu0] at c0
   rw [hu1] at c1
   have f0 := World.ownsRow.frozenAt HO.out (k * 2)
   have f1 := World.ownsRow.frozenAt HO.out (k * 2 + 1)
   have HO' : Hid (((wr.setCell ⟨g, k * 2, none⟩ (.slice (some ⟨kb, 0, none⟩) 2 2)).setCell ⟨g, k * 2 + 1, none⟩ (.slice none 0 0)).ownsRow base 164 2 (.slice (some ⟨g, 0, none⟩) vn vc) vn (patL (patE kb) ((k + 1) * 2) ++ xs.drop ((k + 1) * 2))) := by
    have h1 := (World.ownsRow.stored HO.out (k * 2) (.slice (some ⟨kb, 0, none⟩) 2 2)).1
    have h2 := (World.ownsRow.stored h1 (k * 2 + 1) (.slice none 0 0)).1
    rw [patE_set2 kb xs k hkx] at h2
    exact h2
   have hft : Frame (fun q => (Value.slice (some ⟨g, 0, none⟩) vn vc).ownBlock = some q) wr ((wr.setCell ⟨g, k * 2, none⟩ (.slice (some ⟨kb, 0, none⟩) 2 2)).setCell ⟨g, k * 2 + 1, none⟩ (.slice none 0 0)) := ((Frame.refl (fun q => (Value.slice (some ⟨g, 0, none⟩) vn vc).ownBlock = some q) wr).setCell (p := ⟨g, k * 2, none⟩) rfl _).setCell (p := ⟨g, k * 2 + 1, none⟩) rfl _
   have hno : ∀ q, w.heap.size ≤ q → ¬ (Value.slice (some ⟨g, 0, none⟩) vn vc).ownBlock = some q := fun q hq e => by have := (HVL.out q e).2; omega
   have HF' : Hid (Frame (fun k => (Value.slice (some ⟨g, 0, none⟩) vn vc).ownBlock = some k) w ((wr.setCell ⟨g, k * 2, none⟩ (.slice (some ⟨kb, 0, none⟩) 2 2)).setCell ⟨g, k * 2 + 1, none⟩ (.slice none 0 0))) := HF.out.trans hft
   have HR' : Hid (RowV ((wr.setCell ⟨g, k * 2, none⟩ (.slice (some ⟨kb, 0, none⟩) 2 2)).setCell ⟨g, k * 2 + 1, none⟩ (.slice none 0 0)) w.heap.size 65 [.slice none 0 0, .slice none 0 0, .slice none 0 0, .slice none 0 0, .int .i64 0]) := RowV.of_block HR.out (hft.block _ HR.out.lt (hno _ (Nat.le_refl _)))
   have HK' : Hid (RowV ((wr.setCell ⟨g, k * 2, none⟩ (.slice (some ⟨kb, 0, none⟩) 2 2)).setCell ⟨g, k * 2 + 1, none⟩ (.slice none 0 0)) kb 5 [.int .u8 ((m : Int) % 251), .int .u8 9]) := RowV.of_block HK.out (hft.block _ HK.out.lt (hno _ (by have := HKB.out; omega)))
   have HX' : Hid (RowV ((wr.setCell ⟨g, k * 2, none⟩ (.slice (some ⟨kb, 0, none⟩) 2 2)).setCell ⟨g, k * 2 + 1, none⟩ (.slice none 0 0)) xb 164 [.slice (some ⟨kb, 0, none⟩) 2 2, .slice none 0 0]) := RowV.of_block HX.out (hft.block _ HX.out.lt (hno _ (by have := HXB.out; omega)))
   clear hbg hgw hft hno hlen hu0 hu1
   go_wp2
   exact ⟨⟨k + 1, by omega, by go_num, HO', HF', HR', HK', HX'⟩, by simp [intOf]; omega⟩
  ·obtain rfl : k = vn := by omega
   have hltI : ¬ (k : Int) < k := by omega
   have HO1 : Hid (wr.ownsRow base 164 2 (.slice va k vc) k (patL (patE kb) (k * 2))) := by
    have := HO.out
    rw [List.drop_eq_nil_of_le (by rw [HXL.out]; exact Nat.le_refl _), List.append_nil] at this
    exact this
   clear HO
   have hva := HVL.out
   have HN1 : Hid (∀ q, (Value.slice va k vc).ownBlock = some q → q < w.heap.size) := fun q hq => (HVL.out q hq).2
   have HKR : Hid (∀ (W1 W2 : World) (b : Nat) (T : Nat) (l : List Value), w.heap.size ≤ b → RowV W1 b T l → Frame (fun q => (Value.slice va k vc).ownBlock = some q) W1 W2 → RowV W2 b T l) := fun W1 W2 b T l hb h hf => h.of_block (hf.block _ h.lt (fun e => by have := HN1.out _ e; omega))
   have HBW : Hid (base ≤ wr.heap.size) := Nat.le_trans HB.out HF.out.size
   have hkb1 : w.heap.size ≤ kb := by have := HKB.out; omega
   have hxb1 : w.heap.size ≤ xb := by have := HXB.out; omega
   clear hva
   go_wp2_with (first
    | (at_builtin; have ox1 : (wr.alloc (.cells #[.slice (some ⟨kb, 0, none⟩) 2 2, .slice none 0 0] 164)).ownsRow base 164 2 (.slice va k vc) k (patL (patE kb) (k * 2)) := (mark_moreE 1 HO1.out).1; have sx1 : SlV (wr.alloc (.cells #[.slice (some ⟨kb, 0, none⟩) 2 2, .slice none 0 0] 164)) (some ⟨wr.heap.size, 0, none⟩) (patL (fun j => patE kb (k * 2 + j)) (1 * 2)) := (mark_moreE 1 HO1.out).2; refine wp_appendPat (by rfl) (.tmp 25) (.tmp 27) 63 (by rfl) base 164 _ 2 48 Tryz.underlying63 Tryz.infoEnt rfl (by decide) (patE kb) (.slice va k vc) k (by rfl) ox1 ⟨wr.heap.size, 0, none⟩ 1 1 (by rfl) sx1 (patE_one kb) (by decide) (by have := HL.out; unfold maxLen; omega) (by have := HL.out; omega) (by have := HBW.out; simp; omega) ?_; intro a2 c2 w2 ho2 hf2 hat2 hk2 hv2; have hX2 := HKR.out _ _ xb _ _ hxb1 (RowV.alloc HX.out _) hf2; have y0 := hX2.cell 0 (by simp); have y1 := hX2.cell 1 (by simp); simp only [List.getElem_cons_zero, List.getElem_cons_succ] at y0 y1)
    | (at_builtin; have ox2 : (w2.alloc (.cells #[.slice (some ⟨kb, 0, none⟩) 2 2, .slice none 0 0, .slice (some ⟨kb, 0, none⟩) 2 2, .slice none 0 0] 164)).ownsRow base 164 2 (.slice va k vc) k (patL (patE kb) (k * 2)) := (mark_moreE 2 hv2).1; have sx2 : SlV (w2.alloc (.cells #[.slice (some ⟨kb, 0, none⟩) 2 2, .slice none 0 0, .slice (some ⟨kb, 0, none⟩) 2 2, .slice none 0 0] 164)) (some ⟨w2.heap.size, 0, none⟩) (patL (fun j => patE kb (k * 2 + j)) (2 * 2)) := (mark_moreE 2 hv2).2; refine wp_appendPat (by rfl) (.tmp 29) (.tmp 32) 63 (by rfl) base 164 _ 2 48 Tryz.underlying63 Tryz.infoEnt rfl (by decide) (patE kb) (.slice va k vc) k (by rfl) ox2 ⟨w2.heap.size, 0, none⟩ 2 2 (by rfl) sx2 (patE_one kb) (by decide) (by have := HL.out; unfold maxLen; omega) (by have := HL.out; omega) (by have := (Nat.le_trans HBW.out (Nat.le_trans (by simp) hf2.size) : base ≤ w2.heap.size); simp; omega) ?_; intro a3 c3 w3 ho3 hf3 hat3 hk3 hv3; have hX3 := HKR.out _ _ xb _ _ hxb1 (RowV.alloc hX2 _) hf3; have z0 := hX3.cell 0 (by simp); have z1 := hX3.cell 1 (by simp); simp only [List.getElem_cons_zero, List.getElem_cons_succ] at z0 z1)
    | (at_builtin; have ox3 : (w3.alloc (.cells #[.slice (some ⟨kb, 0, none⟩) 2 2, .slice none 0 0, .slice (some ⟨kb, 0, none⟩) 2 2, .slice none 0 0, .slice (some ⟨kb, 0, none⟩) 2 2, .slice none 0 0] 164)).ownsRow base 164 2 (.slice va k vc) k (patL (patE kb) (k * 2)) := (mark_moreE 3 hv3).1; have sx3 : SlV (w3.alloc (.cells #[.slice (some ⟨kb, 0, none⟩) 2 2, .slice none 0 0, .slice (some ⟨kb, 0, none⟩) 2 2, .slice none 0 0, .slice (some ⟨kb, 0, none⟩) 2 2, .slice none 0 0] 164)) (some ⟨w3.heap.size, 0, none⟩) (patL (fun j => patE kb (k * 2 + j)) (3 * 2)) := (mark_moreE 3 hv3).2; refine wp_appendPat (by rfl) (.tmp 34) (.tmp 38) 63 (by rfl) base 164 _ 2 48 Tryz.underlying63 Tryz.infoEnt rfl (by decide) (patE kb) (.slice va k vc) k (by rfl) ox3 ⟨w3.heap.size, 0, none⟩ 3 3 (by rfl) sx3 (patE_one kb) (by decide) (by have := HL.out; unfold maxLen; omega) (by have := HL.out; omega) (by have := (Nat.le_trans HBW.out (Nat.le_trans (Nat.le_trans (by simp) hf2.size) (Nat.le_trans (by simp) hf3.size)) : base ≤ w3.heap.size); simp; omega) ?_; intro a4 c4 w4 ho4 hf4 hat4 hk4 hv4; have hR4 := HKR.out _ _ _ _ _ (Nat.le_refl _) (RowV.alloc (HKR.out _ _ _ _ _ (Nat.le_refl _) (RowV.alloc (HKR.out _ _ _ _ _ (Nat.le_refl _) (RowV.alloc HR.out _) hf2) _) hf3) _) hf4)
    | (refine wp_storeR (by rfl) 65 (.tmp 4) (.tmp 45) (by rfl) w.heap.size (by rfl) [.slice va k vc, .slice a2 (k + 1) c2, .slice a3 (k + 2) c3, .slice a4 (k + 3) c4, .int .i64 (m : Int)] (by rfl) hR4 rfl Tryz.sizeEnts (fun u hu => bk_one hu) ?_; intro w5 hR5 hf5 hz5))
   have hK4 := HKR.out _ _ _ _ _ hkb1 (RowV.alloc (HKR.out _ _ _ _ _ hkb1 (RowV.alloc (HKR.out _ _ _ _ _ hkb1 (RowV.alloc HK.out _) hf2) _) hf3) _) hf4
   have hwr : xb < wr.heap.size := HX.out.lt
   have z2 := hf2.size
   have z3 := hf3.size
   have z4 := hf4.size
   simp only [World.size_alloc] at z2 z3 z4
   have hb2 : Below w2.heap.size w2 (w2.alloc (.cells #[.slice (some ⟨kb, 0, none⟩) 2 2, .slice none 0 0, .slice (some ⟨kb, 0, none⟩) 2 2, .slice none 0 0] 164)) := (Below.refl _ _).alloc (Nat.le_refl _) _
   have hb3 : Below w3.heap.size w3 (w3.alloc (.cells #[.slice (some ⟨kb, 0, none⟩) 2 2, .slice none 0 0, .slice (some ⟨kb, 0, none⟩) 2 2, .slice none 0 0, .slice (some ⟨kb, 0, none⟩) 2 2, .slice none 0 0] 164)) := (Below.refl _ _).alloc (Nat.le_refl _) _
   have k23 : PatKeep (patE kb) w2 w3 := (PatKeep.below hb2).trans hk3 hb2.size
   have k34 : PatKeep (patE kb) w3 w4 := (PatKeep.below hb3).trans hk4 hb3.size
   have k24 : PatKeep (patE kb) w2 w4 := k23.trans k34 (by omega)
   have hKB := HKB.out
   have hXB := HXB.out
   have g1 : ∀ q, (Value.slice a2 (k + 1) c2).ownBlock = some q → (Value.slice va k vc).ownBlock = some q ∨ w.heap.size + 1 < q := fun q hq => by
    rcases hat2 with e | e
    ·exact Or.inl (by rw [← e]; exact hq)
    ·rw [e] at hq; have := Option.some.inj hq; simp at this; exact Or.inr (by omega)
   have g2 : ∀ q, (Value.slice a3 (k + 2) c3).ownBlock = some q → (Value.slice va k vc).ownBlock = some q ∨ w.heap.size + 1 < q := fun q hq => by
    rcases hat3 with e | e
    ·exact Or.inl (by rw [← e]; exact hq)
    ·rw [e] at hq; have := Option.some.inj hq; simp at this; exact Or.inr (by omega)
   have g3 : ∀ q, (Value.slice a4 (k + 3) c4).ownBlock = some q → (Value.slice va k vc).ownBlock = some q ∨ w.heap.size + 1 < q := fun q hq => by
    rcases hat4 with e | e
    ·exact Or.inl (by rw [← e]; exact hq)
    ·rw [e] at hq; have := Option.some.inj hq; simp at this; exact Or.inr (by omega)
   have hne : ∀ q, ((Value.slice va k vc).ownBlock = some q ∨ w.heap.size + 1 < q) → ¬ q = w.heap.size := fun q hq e => by
    rcases hq with h | h
    ·have := HN1.out q h; omega
    ·omega
   have hfw : Frame (fun q => (Value.slice va k vc).ownBlock = some q) w w4 := (((((HF.out.alloc _).trans hf2).alloc _).trans hf3).alloc _).trans hf4
   have hl60 := HL.out
   have hK5 := RowV.of_block hK4 (hf5.block _ hK4.lt (by omega))
   refine ret_agg (k := 4) (cs := bkC ⟨⟨va, k, vc⟩, ⟨a2, k + 1, c2⟩, ⟨a3, k + 2, c3⟩, ⟨a4, k + 3, c4⟩⟩ m) rfl rfl hR5 Tryz.underlying65 rfl Tryz.sizeEnts rfl ⟨⟨⟨va, k, vc⟩, ⟨a2, k + 1, c2⟩, ⟨a3, k + 2, c3⟩, ⟨a4, k + 3, c4⟩⟩, kb, rfl, ⟨?_, ?_, ?_, ?_, by simp only; omega, by simp only; omega, by simp only; omega, by simp only; omega, ?_⟩, ⟨hK5.cell 0 (by simp), hK5.cell 1 (by simp), hK5.lt⟩, ?_, ?_, hKB⟩
   ·exact (PatSl.own (s := ⟨va, k, vc⟩) hv4).frame hf5 (fun q hq => hne q (Or.inl hq))
   ·exact ((PatSl.own (s := ⟨a2, k + 1, c2⟩) ho2).keep k24 (by omega)).frame hf5 (fun q hq => hne q (g1 q hq))
   ·exact ((PatSl.own (s := ⟨a3, k + 2, c3⟩) ho3).keep k34 (by omega)).frame hf5 (fun q hq => hne q (g2 q hq))
   ·exact (PatSl.own (s := ⟨a4, k + 3, c4⟩) ho4).frame hf5 (fun q hq => hne q (g3 q hq))
   ·intro q hq
    have z5 := hf5.size
    rcases hq with hq | hq | hq | hq
    ·have := (hv4.lt q hq).2; omega
    ·have := (ho2.lt q hq).2; omega
    ·have := (ho3.lt q hq).2; omega
    ·have := (ho4.lt q hq).2; omega
   ·exact Frame.inside hfw hf5 (fun q hlt' e => by omega)
   ·intro q hq
    rcases hq with hq | hq | hq | hq
    ·exact Or.inl hq
    ·exact g1 q hq
    ·exact g2 q hq
    ·exact g3 q hq
end Go.Proofs.YtekegfbjbainhaaGreat
