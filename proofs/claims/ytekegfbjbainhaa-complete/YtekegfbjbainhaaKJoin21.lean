import Derived.Test.YtekegfbjbainhaaKPrC12
set_option linter.unusedVariables false
set_option linter.unusedSimpArgs false

namespace Go.Proofs.Ytekegfbjbainhaa
open Go.RowKit
attribute [local go_sem ↓] Go.wp_at_zero Go.wp_at_succ
def chkPP (w : World) (q : Nat × Option (List UInt8)) (e : Ending) (w' : World) : Prop := ∃ v : SlR, e = .returned (.tuple #[.agg #[.bool q.2.isSome, v.val], .int .i64 (q.1 : Int)]) ∧ Below w.heap.size w w' ∧ OwnB w' w.heap.size v.val (q.2.getD [])
set_option maxRecDepth 100000 in
set_option maxHeartbeats 4000000 in
theorem checkP_any (sk sp : SlR) (key proof root : List UInt8) (w : World) (hr : root.length = 8) (hk : BS w sk key) (hp : BS w sp proof) (hpc : sp.n ≤ sp.cap) (hkm : key.length ≤ maxLen) (hM : proof.length ≤ 1000000000) :
  Calls Try.prog 16 #[dV root, sk.val, sp.val] w (chkPP w (chkR root key proof)) := by
 obtain ⟨d0, d1, d2, d3, d4, d5, d6, d7, rfl⟩ := list8 root hr
 have hB2 : Below w.heap.size w ((w.alloc (.cells #[.int .u8 (d0.toNat : Int), .int .u8 (d1.toNat : Int), .int .u8 (d2.toNat : Int), .int .u8 (d3.toNat : Int), .int .u8 (d4.toNat : Int), .int .u8 (d5.toNat : Int), .int .u8 (d6.toNat : Int), .int .u8 (d7.toNat : Int)] 45)).alloc (.cells #[.bool false, .slice none 0 0] 40)) := ((Below.refl _ _).alloc (Nat.le_refl _) _).alloc (by simp) _
 have HKF : Hid (Calls _ _ _ _ _) := isKey_any sk.a sk.n sk.cap ((w.alloc (.cells #[.int .u8 (d0.toNat : Int), .int .u8 (d1.toNat : Int), .int .u8 (d2.toNat : Int), .int .u8 (d3.toNat : Int), .int .u8 (d4.toNat : Int), .int .u8 (d5.toNat : Int), .int .u8 (d6.toNat : Int), .int .u8 (d7.toNat : Int)] 45)).alloc (.cells #[.bool false, .slice none 0 0] 40)) (by rw [hk.n]; exact hkm)
 have hkb : (decide (1 ≤ sk.n) && decide (sk.n ≤ 12)) = keyOk key := by rw [hk.n]; rfl
 rw [hkb] at HKF
 rw [show dV [d0, d1, d2, d3, d4, d5, d6, d7] = .agg #[.int .u8 (d0.toNat : Int), .int .u8 (d1.toNat : Int), .int .u8 (d2.toNat : Int), .int .u8 (d3.toNat : Int), .int .u8 (d4.toNat : Int), .int .u8 (d5.toNat : Int), .int .u8 (d6.toNat : Int), .int .u8 (d7.toNat : Int)] from rfl]
 unfold SlR.val
 have HB2 : Hid (Below w.heap.size w ((w.alloc (.cells #[.int .u8 (d0.toNat : Int), .int .u8 (d1.toNat : Int), .int .u8 (d2.toNat : Int), .int .u8 (d3.toNat : Int), .int .u8 (d4.toNat : Int), .int .u8 (d5.toNat : Int), .int .u8 (d6.toNat : Int), .int .u8 (d7.toNat : Int)] 45)).alloc (.cells #[.bool false, .slice none 0 0] 40))) := hB2
 have HD0 : Hid (RowV ((w.alloc (.cells #[.int .u8 (d0.toNat : Int), .int .u8 (d1.toNat : Int), .int .u8 (d2.toNat : Int), .int .u8 (d3.toNat : Int), .int .u8 (d4.toNat : Int), .int .u8 (d5.toNat : Int), .int .u8 (d6.toNat : Int), .int .u8 (d7.toNat : Int)] 45)).alloc (.cells #[.bool false, .slice none 0 0] 40)) w.heap.size 45 ([d0, d1, d2, d3, d4, d5, d6, d7].map u8c)) := (RowV.new w 45 ([d0, d1, d2, d3, d4, d5, d6, d7].map u8c)).alloc _
 have HA0 : Hid (RowV ((w.alloc (.cells #[.int .u8 (d0.toNat : Int), .int .u8 (d1.toNat : Int), .int .u8 (d2.toNat : Int), .int .u8 (d3.toNat : Int), .int .u8 (d4.toNat : Int), .int .u8 (d5.toNat : Int), .int .u8 (d6.toNat : Int), .int .u8 (d7.toNat : Int)] 45)).alloc (.cells #[.bool false, .slice none 0 0] 40)) (w.heap.size + 1) 40 [.bool false, .slice none 0 0]) := RowV.new_at _ _ _ _ (by simp)
 have HK : Hid (BS ((w.alloc (.cells #[.int .u8 (d0.toNat : Int), .int .u8 (d1.toNat : Int), .int .u8 (d2.toNat : Int), .int .u8 (d3.toNat : Int), .int .u8 (d4.toNat : Int), .int .u8 (d5.toNat : Int), .int .u8 (d6.toNat : Int), .int .u8 (d7.toNat : Int)] 45)).alloc (.cells #[.bool false, .slice none 0 0] 40)) sk key) := hk.below hB2
 have HRK : Hid (Calls _ _ _ _ _) := readKey_any sk sp key proof [d0, d1, d2, d3, d4, d5, d6, d7] ((w.alloc (.cells #[.int .u8 (d0.toNat : Int), .int .u8 (d1.toNat : Int), .int .u8 (d2.toNat : Int), .int .u8 (d3.toNat : Int), .int .u8 (d4.toNat : Int), .int .u8 (d5.toNat : Int), .int .u8 (d6.toNat : Int), .int .u8 (d7.toNat : Int)] 45)).alloc (.cells #[.bool false, .slice none 0 0] 40)) rfl (hk.below hB2) (hp.below hB2) hpc hM
 rw [show dV [d0, d1, d2, d3, d4, d5, d6, d7] = .agg #[.int .u8 (d0.toNat : Int), .int .u8 (d1.toNat : Int), .int .u8 (d2.toNat : Int), .int .u8 (d3.toNat : Int), .int .u8 (d4.toNat : Int), .int .u8 (d5.toNat : Int), .int .u8 (d6.toNat : Int), .int .u8 (d7.toNat : Int)] from rfl] at HRK
 clear hk hp hpc hkm hkb hr hB2 hM
 obtain ⟨q, hq⟩ : ∃ q, chkR [d0, d1, d2, d3, d4, d5, d6, d7] key proof = q := ⟨_, rfl⟩
 rw [hq]
 have HQ : Hid (chkR [d0, d1, d2, d3, d4, d5, d6, d7] key proof = q) := hq
 clear hq
 go_enter Try.func16, Try.ntmps16
 go_upto_region 1 with fail
 generalize (w.alloc (.cells #[.int .u8 (d0.toNat : Int), .int .u8 (d1.toNat : Int), .int .u8 (d2.toNat : Int), .int .u8 (d3.toNat : Int), .int .u8 (d4.toNat : Int), .int .u8 (d5.toNat : Int), .int .u8 (d6.toNat : Int), .int .u8 (d7.toNat : Int)] 45)).alloc (.cells #[.bool false, .slice none 0 0] 40) = W at *
 cases hkf : keyOk key with
 | false =>
  rw [hkf] at HKF
  have HQ1 : Hid (q = (1, none)) := by unfold Hid; rw [← HQ.out]; unfold chkR; rw [if_neg (by rw [hkf]; simp)]
  have a0 := HA0.out.cell 0 (by simp)
  have a1 := HA0.out.cell 1 (by simp)
  have f0 := HA0.out.frozen 0
  have f1 := HA0.out.frozen 1
  simp only [List.getElem_cons_zero, List.getElem_cons_succ] at a0 a1
  go_wp2_with (go_at_call 36; refine HKF.out.mono ?_; rintro r w1 ⟨rfl, hw1⟩; obtain rfl : W = w1 := hw1.symm; clear hw1)
  have hf : Frame (fun k => k = w.heap.size + 1) W ((W.setCell ⟨w.heap.size + 1, 0, none⟩ (.bool false)).setCell ⟨w.heap.size + 1, 1, none⟩ (.slice none 0 0)) := ((Frame.refl (fun k => k = w.heap.size + 1) W).setCell (p := ⟨w.heap.size + 1, 0, none⟩) rfl _).setCell (p := ⟨w.heap.size + 1, 1, none⟩) rfl _
  exact ret_agg2 (k := 6) (k2 := 7) (cs := [.bool false, .slice none 0 0]) rfl rfl rfl (by simpa using (RowV.set HA0.out 0 (.bool false)).set 1 (.slice none 0 0)) Try.underlying40 rfl Try.sizeAnswer rfl (by rw [HQ1.out]; exact ⟨⟨none, 0, 0⟩, rfl, HB2.out.trans (hf.below HB2.out.size (fun k hk => by omega)), World.ownsRow_nil _ _ _ _⟩)
 | true =>
  rw [hkf] at HKF
  have HQ1 : Hid (q = match checkF [d0, d1, d2, d3, d4, d5, d6, d7] key proof with
    | none => (5, none)
    | some a => (0, a)) := by unfold Hid; rw [← HQ.out]; unfold chkR; rw [if_pos hkf]; cases checkF [d0, d1, d2, d3, d4, d5, d6, d7] key proof <;> rfl
  have k0 : W.cell? ⟨w.heap.size, 0, none⟩ = some (.int .u8 (d0.toNat : Int)) := HD0.out.cell 0 (by simp)
  have k1 : W.cell? ⟨w.heap.size, 1, none⟩ = some (.int .u8 (d1.toNat : Int)) := HD0.out.cell 1 (by simp)
  have k2 : W.cell? ⟨w.heap.size, 2, none⟩ = some (.int .u8 (d2.toNat : Int)) := HD0.out.cell 2 (by simp)
  have k3 : W.cell? ⟨w.heap.size, 3, none⟩ = some (.int .u8 (d3.toNat : Int)) := HD0.out.cell 3 (by simp)
  have k4 : W.cell? ⟨w.heap.size, 4, none⟩ = some (.int .u8 (d4.toNat : Int)) := HD0.out.cell 4 (by simp)
  have k5 : W.cell? ⟨w.heap.size, 5, none⟩ = some (.int .u8 (d5.toNat : Int)) := HD0.out.cell 5 (by simp)
  have k6 : W.cell? ⟨w.heap.size, 6, none⟩ = some (.int .u8 (d6.toNat : Int)) := HD0.out.cell 6 (by simp)
  have k7 : W.cell? ⟨w.heap.size, 7, none⟩ = some (.int .u8 (d7.toNat : Int)) := HD0.out.cell 7 (by simp)
  go_wp2_with (go_at_call 36; refine HKF.out.mono ?_; rintro r w1 ⟨rfl, hw1⟩; obtain rfl : W = w1 := hw1.symm; clear hw1)
  refine HRK.out.mono ?_
  rintro e w3 ⟨hb3, hm⟩
  have HA3 : Hid (RowV w3 (w.heap.size + 1) 40 [.bool false, .slice none 0 0]) := RowV.below HA0.out HA0.out.lt hb3
  have HB3 : Hid (Below w.heap.size w w3) := HB2.out.trans (hb3.mono HB2.out.size)
  have HK3 : Hid (BS w3 sk key) := HK.out.below hb3
  have HW3 : Hid (w.heap.size ≤ W.heap.size) := HB2.out.size
  have HFA : Hid (∀ (wx : World) (v v' : Value), Below w3.heap.size w3 wx → RowV ((wx.setCell ⟨w.heap.size + 1, 0, none⟩ v).setCell ⟨w.heap.size + 1, 1, none⟩ v') (w.heap.size + 1) 40 [v, v'] ∧ Below w.heap.size w ((wx.setCell ⟨w.heap.size + 1, 0, none⟩ v).setCell ⟨w.heap.size + 1, 1, none⟩ v') ∧ Frame (fun k => k = w.heap.size + 1) wx ((wx.setCell ⟨w.heap.size + 1, 0, none⟩ v).setCell ⟨w.heap.size + 1, 1, none⟩ v')) := fun wx v v' hx => by
   have hf : Frame (fun k => k = w.heap.size + 1) wx ((wx.setCell ⟨w.heap.size + 1, 0, none⟩ v).setCell ⟨w.heap.size + 1, 1, none⟩ v') := ((Frame.refl (fun k => k = w.heap.size + 1) wx).setCell (p := ⟨w.heap.size + 1, 0, none⟩) rfl _).setCell (p := ⟨w.heap.size + 1, 1, none⟩) rfl _
   have hb := HB3.out.trans (hx.mono HB3.out.size)
   exact ⟨by simpa using (RowV.set (RowV.below HA3.out HA3.out.lt hx) 0 v).set 1 v', hb.trans (hf.below hb.size (fun k hk => by omega)), hf⟩
  clear k0 k1 k2 k3 k4 k5 k6 k7 HRK HKF hb3 HA0 HD0 HK
  rcases rrd_key [d0, d1, d2, d3, d4, d5, d6, d7] key proof with ⟨hcn, hrn⟩ | ⟨es, hre, hrise, h60, h12, hcf⟩
  ·rw [hrn] at hm
   obtain rfl : e = _ := hm
   have HQ5 : Hid (q = (5, none)) := by unfold Hid; rw [HQ1.out, hcn]
   have a0 := HA3.out.cell 0 (by simp)
   have a1 := HA3.out.cell 1 (by simp)
   have f0 := HA3.out.frozen 0
   have f1 := HA3.out.frozen 1
   simp only [List.getElem_cons_zero, List.getElem_cons_succ] at a0 a1
   clear hcn hrn
   go_wp2
   obtain ⟨h1, h2, h3⟩ := HFA.out w3 (.bool false) (.slice none 0 0) (Below.refl _ _)
   exact ret_agg2 (k := 6) (k2 := 7) (cs := [.bool false, .slice none 0 0]) rfl rfl rfl h1 Try.underlying40 rfl Try.sizeAnswer rfl (by rw [HQ5.out]; exact ⟨⟨none, 0, 0⟩, rfl, h2, World.ownsRow_nil _ _ _ _⟩)
  ·rw [hre] at hm
   obtain ⟨v, ys, rfl, hen⟩ := hm
   have HQ0 : Hid (q = (0, if thereB es key = true then some (es.getD (placeN es key) it0).more else none)) := by unfold Hid; rw [HQ1.out, hcf, ← find_place hrise key]
   have hvn : v.n = ys.length := (SlV.ofOwn (s := v) hen.own).2
   have HFI : Hid (Calls _ _ _ _ _) := find_any v ys es sk key w3 hvn hen.len.symm (by rw [hen.len]; exact h60) (SlV.ofOwn (s := v) hen.own).1 (fun i h1 h2 => ⟨(hen.en i h1 h2).key.bs, ((hen.en i h1 h2).low rfl).1.bs, ((hen.en i h1 h2).low rfl).2⟩) hrise HK3.out
   have HEN : Hid (EnsL 0 w3 (blkOf sp) W.heap.size v ys es) := hen
   have H60 : Hid (es.length ≤ 60) := h60
   have H12 : Hid (∀ x ∈ es, x.more.length ≤ 12) := h12
   have HVN : Hid (v.n = ys.length) := hvn
   clear hre hrise h60 h12 hcf hen hvn
   unfold SlR.val
   unfold SlR.val at HFI
   go_wp2_with fail
   refine HFI.out.mono ?_
   rintro e w4 ⟨rfl, hb4⟩
   have HA4 : Hid (RowV w4 (w.heap.size + 1) 40 [.bool false, .slice none 0 0]) := RowV.below HA3.out HA3.out.lt hb4
   cases hth : thereB es key with
   | false =>
    have HQ5 : Hid (q = (0, none)) := by unfold Hid; rw [HQ0.out, hth]; rfl
    have a0 := HA4.out.cell 0 (by simp)
    have a1 := HA4.out.cell 1 (by simp)
    have f0 := HA4.out.frozen 0
    have f1 := HA4.out.frozen 1
    simp only [List.getElem_cons_zero, List.getElem_cons_succ] at a0 a1
    go_wp2
    obtain ⟨h1, h2, h3⟩ := HFA.out w4 (.bool false) (.slice none 0 0) hb4
    exact ret_agg2 (k := 6) (k2 := 7) (cs := [.bool false, .slice none 0 0]) rfl rfl rfl h1 Try.underlying40 rfl Try.sizeAnswer rfl (by rw [HQ5.out]; exact ⟨⟨none, 0, 0⟩, rfl, h2, World.ownsRow_nil _ _ _ _⟩)
   | true =>
    have hplt := thereB_lt hth
    have HQ5 : Hid (q = (0, some es[placeN es key].more)) := by
     unfold Hid; rw [HQ0.out, hth, if_pos rfl, List.getD_eq_getElem?_getD, List.getElem?_eq_getElem hplt]; rfl
    have HEN4 := HEN.out.below hb4
    have hyx : placeN es key < ys.length := by rw [HEN.out.len]; exact hplt
    obtain ⟨b, o, hca, hbb, hrg⟩ := SlE.range (SlV.ofOwn (s := v) HEN4.own).1 HEN4.d8 _ hyx
    have hen := HEN4.en _ hyx hplt
    have hm12 := H12.out _ (List.getElem_mem hplt)
    have hpI : (placeN es key : Int) < v.n := by rw [HVN.out]; omega
    generalize es[placeN es key].more = mo at *
    generalize es[placeN es key].key = kk at *
    generalize ys[placeN es key] = y at *
    generalize placeN es key = p at *
    have c1 : w4.cell? ⟨b, o + p * 10 + 1, none⟩ = some (.slice y.v.a y.v.n y.v.cap) := hrg 1 _ rfl
    have HCL : Hid (Calls _ _ _ _ _) := cloneO_any y.v mo w4 (hen.low rfl).1.bs (by omega)
    have HB4 : Hid (Below w3.heap.size w3 w4) := hb4
    obtain ⟨va, vn, vc⟩ := v
    simp only at hca hpI
    subst hca
    unfold SlR.val at HCL
    clear hrg hen HEN4 hyx hplt hth HFI hb4 hm12
    go_wp2_with fail
    refine HCL.out.mono ?_
    rintro e w5 ⟨s5, rfl, ho5, hb5⟩
    have HB5 : Hid (Below w3.heap.size w3 w5) := HB4.out.trans (hb5.mono HB4.out.size)
    have HA5 : Hid (RowV w5 (w.heap.size + 1) 40 [.bool false, .slice none 0 0]) := RowV.below HA4.out HA4.out.lt hb5
    have a0 := HA5.out.cell 0 (by simp)
    have a1 := HA5.out.cell 1 (by simp)
    have f0 := HA5.out.frozen 0
    have f1 := HA5.out.frozen 1
    simp only [List.getElem_cons_zero, List.getElem_cons_succ] at a0 a1
    have HO5 : Hid (OwnB w5 w.heap.size s5.val mo) := owns_base ho5 (fun k hk => by have := (ho5.lt k hk).1; have := HB3.out.size; have := HB4.out.size; omega)
    clear ho5 hb5 c1
    go_wp2
    obtain ⟨h1, h2, h3⟩ := HFA.out w5 (.bool true) (.slice s5.a s5.n s5.cap) HB5.out
    exact ret_agg2 (k := 6) (k2 := 7) (cs := [.bool true, .slice s5.a s5.n s5.cap]) rfl rfl rfl h1 Try.underlying40 rfl Try.sizeAnswer rfl (by rw [HQ5.out]; exact ⟨s5, rfl, h2, owns_frame HO5.out h3 (fun k hk e => owns_ne HO5.out HA5.out (by decide) (by rw [hk, e]))⟩)
end Go.Proofs.Ytekegfbjbainhaa


namespace Go.Proofs.Ytekegfbjbainhaa
open Go.RowKit
attribute [local go_sem ↓] Go.wp_at_zero Go.wp_at_succ
def flatE (es : List (SlR × SlR)) : List SlR := es.flatMap (fun e => [e.1, e.2])
def flatL (l : List ItR) : List (List UInt8) := l.flatMap (fun x => [x.key, x.more])
def apartS (a b : SlR) : Prop := ∀ k, a.val.ownBlock = some k → b.val.ownBlock ≠ some k
theorem flatE_length (es : List (SlR × SlR)) : (flatE es).length = es.length * 2 := by
 induction es with
 | nil => rfl
 | cons e es ih => simp only [flatE, List.flatMap_cons, List.length_append] at ih ⊢; rw [ih]; simp; omega
theorem flatL_length (l : List ItR) : (flatL l).length = l.length * 2 := by
 induction l with
 | nil => rfl
 | cons e es ih => simp only [flatL, List.flatMap_cons, List.length_append] at ih ⊢; rw [ih]; simp; omega
structure EntsO (w : World) (base : Nat) (v : SlR) (es : List (SlR × SlR)) (l : List ItR) : Prop where
 own : w.ownsRow base 37 2 v.val es.length (entsC es)
 len : es.length = l.length
 ob : ∀ i (h1 : i < (flatE es).length) (h2 : i < (flatL l).length), OwnB w base (flatE es)[i].val (flatL l)[i]
 pw : (flatE es).Pairwise apartS
theorem EntsO.nil (w : World) (base : Nat) : EntsO w base ⟨none, 0, 0⟩ [] [] := ⟨World.ownsRow_nil _ _ _ _, rfl, fun i h => absurd h (Nat.not_lt_zero _), List.Pairwise.nil⟩
theorem EntsO.frame {w w' : World} {S : Nat → Prop} {base : Nat} {v : SlR} {es : List (SlR × SlR)} {l : List ItR} (h : EntsO w base v es l) (hf : Frame S w w') (hS : ∀ k, S k → k < base) : EntsO w' base v es l :=
 ⟨owns_frame h.own hf (fun k hk e => by have := (h.own.lt k hk).1; have := hS k e; omega), h.len, fun i h1 h2 => owns_frame (h.ob i h1 h2) hf (fun k hk e => by have := ((h.ob i h1 h2).lt k hk).1; have := hS k e; omega), h.pw⟩
theorem EntsO.below {w w' : World} {base : Nat} {v : SlR} {es : List (SlR × SlR)} {l : List ItR} (h : EntsO w base v es l) (hf : Below w.heap.size w w') : EntsO w' base v es l := h.frame (Frame.of_below_all (S := fun _ => False) hf) (fun _ e => e.elim)
theorem EntsO.toBase {w : World} {base base' : Nat} {v : SlR} {es : List (SlR × SlR)} {l : List ItR} (h : EntsO w base v es l) (hb : base' ≤ base) : EntsO w base' v es l :=
 ⟨owns_base h.own (fun k hk => Nat.le_trans hb (h.own.lt k hk).1), h.len, fun i h1 h2 => owns_base (h.ob i h1 h2) (fun k hk => Nat.le_trans hb ((h.ob i h1 h2).lt k hk).1), h.pw⟩
theorem owns_apart {w : World} {base base' e e' size size' n n' : Nat} {v v' : Value} {xs xs' : List Value} (h : w.ownsRow base e size v n xs) (h' : w.ownsRow base' e' size' v' n' xs') (hne : e ≠ e') : ∀ k, v.ownBlock = some k → v'.ownBlock ≠ some k := fun k hk hk' => by
 rcases h.2 with ⟨hv, _⟩ | ⟨g, cap, cur, hv, hg, hb, _⟩
 ·rw [hv] at hk; simp [Value.ownBlock] at hk
 ·rcases h'.2 with ⟨hv', _⟩ | ⟨g', cap', cur', hv', hg', hb', _⟩
  ·rw [hv'] at hk'; simp [Value.ownBlock] at hk'
  ·rw [hv] at hk; rw [hv'] at hk'
   simp [Value.ownBlock] at hk hk'
   subst hk; subst hk'
   rw [hb] at hb'
   simp at hb'
   exact hne hb'.2
theorem EntsO.push {w w' : World} {base N : Nat} {v v' : SlR} {es : List (SlR × SlR)} {l : List ItR} {s1 s2 : SlR} {x : ItR} (h : EntsO w base v es l) (h1 : OwnB w base s1.val x.key) (h2 : OwnB w base s2.val x.more) (hlt : ∀ i (g : i < (flatE es).length), ∀ k, (flatE es)[i].val.ownBlock = some k → k < N) (hn1 : ∀ k, s1.val.ownBlock = some k → N ≤ k) (hn2 : ∀ k, s2.val.ownBlock = some k → N ≤ k) (h12 : apartS s1 s2)
  (ho : w'.ownsRow base 37 2 v'.val (es.length + 1) (entsC es ++ entsC [(s1, s2)])) (hf : Frame (fun k => v.val.ownBlock = some k) w w') : EntsO w' base v' (es ++ [(s1, s2)]) (l ++ [x]) := by
 have eE : flatE (es ++ [(s1, s2)]) = flatE es ++ [s1, s2] := by simp [flatE]
 have eL : flatL (l ++ [x]) = flatL l ++ [x.key, x.more] := by simp [flatL]
 have hll : (flatE es).length = (flatL l).length := by rw [flatE_length, flatL_length, h.len]
 refine ⟨by rw [List.length_append, entsC_append]; exact ho, by rw [List.length_append, List.length_append, h.len]; rfl, fun i g1 g2 => ?_, ?_⟩
 ·have key : OwnB w base (flatE (es ++ [(s1, s2)]))[i].val (flatL (l ++ [x]))[i] := by
   simp only [eE, eL] at g1 g2 ⊢
   by_cases hi : i < (flatE es).length
   ·rw [List.getElem_append_left hi, List.getElem_append_left (by rw [← hll]; exact hi)]
    exact h.ob i hi _
   ·rw [List.getElem_append_right (by omega), List.getElem_append_right (by rw [← hll]; omega)]
    simp only [← hll]
    have hd : i - (flatE es).length = 0 ∨ i - (flatE es).length = 1 := by simp at g1; omega
    rcases hd with e | e
    ·simp only [e]; exact h1
    ·simp only [e]; exact h2
  exact owns_frame key hf (fun k hk e => owns_apart key h.own (by decide) k hk e)
 ·rw [eE, List.pairwise_append]
  refine ⟨h.pw, by simp [h12], fun a ha b hb k hk hk' => ?_⟩
  obtain ⟨i, hi, rfl⟩ := List.mem_iff_getElem.1 ha
  have := hlt i hi k hk
  simp only [List.mem_cons, List.not_mem_nil, or_false] at hb
  rcases hb with rfl | rfl
  ·have := hn1 k hk'; omega
  ·have := hn2 k hk'; omega
def rngPP (w : World) (q : Nat × List ItR) (e : Ending) (w' : World) : Prop := ∃ (v : SlR) (es : List (SlR × SlR)), e = .returned (.tuple #[v.val, .int .i64 (q.1 : Int)]) ∧ Below w.heap.size w w' ∧ EntsO w' w.heap.size v es q.2
theorem rangeC_rrd (root fr tu proof : List UInt8) : rangeC root fr tu proof = (rrd root fr tu proof).map (fun es => es.filter (inR fr tu)) := by
 rw [rangeC_fin]
 unfold rrd finC
 cases rngRd root fr tu proof with
 | none => rfl
 | some q =>
  obtain ⟨es, r⟩ := q
  simp only
  by_cases h : r = []
  ·simp [h]
  ·simp [h]
theorem rrd_ok (root fr tu proof : List UInt8) (es : List ItR) (h : rrd root fr tu proof = some es) : es.length ≤ proof.length := by
 unfold rrd rngRd at h
 cases hp : pgO (some proof) root with
 | none => rw [hp] at h; cases h
 | some q =>
  obtain ⟨⟨lv, its⟩, r⟩ := q
  rw [hp] at h
  simp only at h
  cases hu : readU fr tu lv its r with
  | none => rw [hu] at h; cases h
  | some q2 =>
   obtain ⟨q1, r1⟩ := q2
   rw [hu] at h
   simp only at h
   split at h
   ·cases h
    have h1 := readU_len fr tu lv its r es r1 hu
    have h2 := pgO_len hp
    omega
   ·cases h
theorem readU_ok (fr tu : List UInt8) : ∀ (lv : Nat) (its : List ItR) (r : List UInt8) (es : List ItR) (r' : List UInt8), PageOk lv its → readU fr tu lv its r = some (es, r') → ∀ x ∈ es, x.key.length ≤ 12 ∧ x.more.length ≤ 12
 | 0, its, r, es, r', hok, h => by
  have h' : some (its, r) = some (es, r') := h
  simp only [Option.some.injEq, Prod.mk.injEq] at h'
  obtain ⟨rfl, rfl⟩ := h'
  exact fun x hx => ⟨(hok.key x hx).2, hok.low rfl x hx⟩
 | lv + 1, its, r, es, r', hok, h => by
  have key : ∀ (sel : List ItR) (s : List ItR × List UInt8), (∀ x ∈ s.1, x.key.length ≤ 12 ∧ x.more.length ≤ 12) → sel.foldlM (stepU (readU fr tu lv) lv) s = some (es, r') → ∀ x ∈ es, x.key.length ≤ 12 ∧ x.more.length ≤ 12 := by
   intro sel
   induction sel with
   | nil => intro s h0 hs; simp only [List.foldlM_nil] at hs; cases hs; exact h0
   | cons y ys ih =>
    intro s h0 hs
    simp only [List.foldlM_cons] at hs
    cases e : stepU (readU fr tu lv) lv s y with
    | none => rw [e] at hs; cases hs
    | some t =>
     rw [e] at hs
     refine ih t ?_ hs
     unfold stepU at e
     split at e
     ·cases e
     ·rename_i l its' r1 hp
      split at e
      ·rename_i hl
       subst hl
       cases e2 : readU fr tu l its' r1 with
       | none => rw [e2] at e; cases e
       | some q =>
        obtain ⟨q1, q2⟩ := q
        rw [e2] at e
        simp only [Option.map_some, Option.some.injEq] at e
        subst e
        intro x hx
        rcases List.mem_append.1 hx with hx | hx
        ·exact h0 x hx
        ·exact readU_ok fr tu l its' r1 q1 q2 (pgO_ok hp) e2 x hx
      ·cases e
  exact key _ _ (fun x hx => by cases hx) h
theorem rrd_lens (root fr tu proof : List UInt8) (es : List ItR) (h : rrd root fr tu proof = some es) : ∀ x ∈ es, x.key.length ≤ 12 ∧ x.more.length ≤ 12 := by
 unfold rrd rngRd at h
 cases hp : pgO (some proof) root with
 | none => rw [hp] at h; cases h
 | some q =>
  obtain ⟨⟨lv, its⟩, r⟩ := q
  rw [hp] at h
  simp only at h
  cases hu : readU fr tu lv its r with
  | none => rw [hu] at h; cases h
  | some q2 =>
   obtain ⟨q1, r1⟩ := q2
   rw [hu] at h
   simp only at h
   split at h
   ·cases h
    exact readU_ok fr tu lv its r es r1 (pgO_ok hp) hu
   ·cases h
end Go.Proofs.Ytekegfbjbainhaa
