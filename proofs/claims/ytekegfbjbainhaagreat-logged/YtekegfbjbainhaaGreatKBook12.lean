
import Derived.Test.YtekegfbjbainhaaGreatKJoin20
import Derived.Test.YtekegfbjbainhaaGreatKJoin19
set_option linter.unusedVariables false
set_option linter.unusedSimpArgs false
namespace Go.Proofs.YtekegfbjbainhaaGreat
open Go.RowKit
theorem Tryz.sizeDigsB : (Tryz.prog.info? 62).map (·.size) = some 5 := by kernel_rfl
theorem Tryz.infoDigP : (Tryz.prog.info? 36).map (fun i => (i.zero, i.size, i.bytes)) = some (some (.agg #[.int .u8 0, .int .u8 0, .int .u8 0, .int .u8 0, .int .u8 0, .int .u8 0, .int .u8 0, .int .u8 0]), 8, 8) := by kernel_rfl
theorem patD_mod (m k : Nat) : (fun j => patD m (k * 8 + j)) = fun j => ((signB m).map u8c).getD (j % 8) (.int .u8 0) := funext fun j => by
 unfold patD
 rw [show (k * 8 + j) % 8 = j % 8 by omega]
theorem mark_moreD {W : World} {base k m : Nat} {v : Value} {y0 y1 y2 y3 y4 y5 y6 y7 : UInt8} (hy : signB m = [y0, y1, y2, y3, y4, y5, y6, y7]) (q : Nat) (hq : q = 1 ∨ q = 2 ∨ q = 3) (h : W.ownsRow base 36 8 v k (patL (patD m) (k * 8))) : (W.alloc (.cells (List.replicate q [Value.int .u8 (y0.toNat : Int), Value.int .u8 (y1.toNat : Int), Value.int .u8 (y2.toNat : Int), Value.int .u8 (y3.toNat : Int), Value.int .u8 (y4.toNat : Int), Value.int .u8 (y5.toNat : Int), Value.int .u8 (y6.toNat : Int), Value.int .u8 (y7.toNat : Int)]).flatten.toArray 36)).ownsRow base 36 8 v k (patL (patD m) (k * 8)) ∧ SlV (W.alloc (.cells (List.replicate q [Value.int .u8 (y0.toNat : Int), Value.int .u8 (y1.toNat : Int), Value.int .u8 (y2.toNat : Int), Value.int .u8 (y3.toNat : Int), Value.int .u8 (y4.toNat : Int), Value.int .u8 (y5.toNat : Int), Value.int .u8 (y6.toNat : Int), Value.int .u8 (y7.toNat : Int)]).flatten.toArray 36)) (some ⟨W.heap.size, 0, none⟩) (patL (fun j => patD m (k * 8 + j)) (q * 8)) := by
 refine ⟨h.alloc _, ?_⟩
 have e : patL (fun j => patD m (k * 8 + j)) (q * 8) = (List.replicate q [Value.int .u8 (y0.toNat : Int), Value.int .u8 (y1.toNat : Int), Value.int .u8 (y2.toNat : Int), Value.int .u8 (y3.toNat : Int), Value.int .u8 (y4.toNat : Int), Value.int .u8 (y5.toNat : Int), Value.int .u8 (y6.toNat : Int), Value.int .u8 (y7.toNat : Int)]).flatten := by
  rw [patD_mod, hy]
  rcases hq with rfl | rfl | rfl
  ·rfl
  ·rfl
  ·rfl
 rw [e]
 exact SlV.alloc_new W _ _
theorem patD_set8 (m : Nat) (xs : List Value) (k : Nat) {y0 y1 y2 y3 y4 y5 y6 y7 : UInt8} (hy : signB m = [y0, y1, y2, y3, y4, y5, y6, y7]) (h : k * 8 + 7 < xs.length) :
  ((((((((patL (patD m) (k * 8) ++ xs.drop (k * 8)).set (k * 8) (Value.int .u8 (y0.toNat : Int))).set (k * 8 + 1) (Value.int .u8 (y1.toNat : Int))).set (k * 8 + 2) (Value.int .u8 (y2.toNat : Int))).set (k * 8 + 3) (Value.int .u8 (y3.toNat : Int))).set (k * 8 + 4) (Value.int .u8 (y4.toNat : Int))).set (k * 8 + 5) (Value.int .u8 (y5.toNat : Int))).set (k * 8 + 6) (Value.int .u8 (y6.toNat : Int))).set (k * 8 + 7) (Value.int .u8 (y7.toNat : Int)) = patL (patD m) ((k + 1) * 8) ++ xs.drop ((k + 1) * 8) := by
 have hp : ∀ j, j < 8 → patD m (k * 8 + j) = ([y0, y1, y2, y3, y4, y5, y6, y7].map u8c).getD j (.int .u8 0) := fun j hj => by rw [patD_at m k j hj, hy]
 have e0 : Value.int .u8 (y0.toNat : Int) = patD m (k * 8) := (hp 0 (by omega)).symm
 have e1 : Value.int .u8 (y1.toNat : Int) = patD m (k * 8 + 1) := (hp 1 (by omega)).symm
 have e2 : Value.int .u8 (y2.toNat : Int) = patD m (k * 8 + 2) := (hp 2 (by omega)).symm
 have e3 : Value.int .u8 (y3.toNat : Int) = patD m (k * 8 + 3) := (hp 3 (by omega)).symm
 have e4 : Value.int .u8 (y4.toNat : Int) = patD m (k * 8 + 4) := (hp 4 (by omega)).symm
 have e5 : Value.int .u8 (y5.toNat : Int) = patD m (k * 8 + 5) := (hp 5 (by omega)).symm
 have e6 : Value.int .u8 (y6.toNat : Int) = patD m (k * 8 + 6) := (hp 6 (by omega)).symm
 have e7 : Value.int .u8 (y7.toNat : Int) = patD m (k * 8 + 7) := (hp 7 (by omega)).symm
 rw [e0, pat_set _ _ _ (by omega), e1, pat_set _ _ _ (by omega), e2, pat_set _ _ _ (by omega), e3, pat_set _ _ _ (by omega), e4, pat_set _ _ _ (by omega), e5, pat_set _ _ _ (by omega), e6, pat_set _ _ _ (by omega), e7, pat_set _ _ _ (by omega), show (k + 1) * 8 = k * 8 + 7 + 1 by omega]
set_option maxRecDepth 100000 in
set_option maxHeartbeats 4000000 in
theorem ownDigests_any (v : SlR) (n : Nat) (xs : List Value) (base m : Nat) (w : World) (ho : w.ownsRow base 36 8 v.val n xs) (hL : n ≤ 1000000000) (hm : m ≤ 140737488355328) (hb : base ≤ w.heap.size) :
  Calls Tryz.prog 98 #[v.val, .int .i64 (m : Int)] w fun e w' => ∃ r : BkR, e = .returned (.agg (bkC r m).toArray) ∧ BkOk w' (patD m) 8 r ∧ Frame (fun k => v.val.ownBlock = some k) w w' ∧ (∀ k, bkF r k → v.val.ownBlock = some k ∨ w.heap.size < k) := by
 have hcp := owns_cap (a := v.a) (n' := v.n) (cap := v.cap) ho
 obtain ⟨va, vn, vc⟩ := v
 unfold SlR.val at ho ⊢
 simp only at ho hcp ⊢
 obtain ⟨h1, h2, h3, h4⟩ := hcp
 subst h1
 have hmI : (m : Int) ≤ 140737488355328 := by omega
 have hxl : xs.length = vn * 8 := ho.1
 have hA : Below w.heap.size w (w.alloc (.cells #[.slice none 0 0, .slice none 0 0, .slice none 0 0, .slice none 0 0, .int .i64 0] 62)) := (Below.refl _ _).alloc (Nat.le_refl _) _
 have HVL : Hid (∀ k, (Value.slice va vn vc).ownBlock = some k → base ≤ k ∧ k < w.heap.size) := ho.lt
 have hnI : (vn : Int) ≤ 1000000000 := by omega
 have HAD : Hid (va = none ∧ vn = 0 ∧ vc = 0 ∨ ∃ g, va = some ⟨g, 0, none⟩ ∧ base ≤ g ∧ g < w.heap.size) := h4
 have HB : Hid (base ≤ w.heap.size) := hb
 have HL : Hid (vn ≤ 1000000000) := hL
 have HXL : Hid (xs.length = vn * 8) := hxl
 have HSG : Hid (Calls _ _ _ _ _) := sign_any m (w.alloc (.cells #[.slice none 0 0, .slice none 0 0, .slice none 0 0, .slice none 0 0, .int .i64 0] 62)) hm
 obtain ⟨y0, y1, y2, y3, y4, y5, y6, y7, hy⟩ := list8 (signB m) (signB_length m)
 have HY : Hid (signB m = [y0, y1, y2, y3, y4, y5, y6, y7]) := hy
 rw [hy] at HSG
 go_enter Tryz.func98, Tryz.ntmps98
 go_wp2_with fail
 refine HSG.out.mono ?_
 rintro e w1 ⟨rfl, hb1⟩
 have hz1 := hb1.size
 simp only [World.size_alloc] at hz1
 have hb1' : Below w.heap.size w w1 := hA.trans (hb1.mono hA.size)
 have HR0 : Hid (RowV (w1.alloc (.cells #[Value.int .u8 (y0.toNat : Int), Value.int .u8 (y1.toNat : Int), Value.int .u8 (y2.toNat : Int), Value.int .u8 (y3.toNat : Int), Value.int .u8 (y4.toNat : Int), Value.int .u8 (y5.toNat : Int), Value.int .u8 (y6.toNat : Int), Value.int .u8 (y7.toNat : Int)] 36)) w.heap.size 62 [.slice none 0 0, .slice none 0 0, .slice none 0 0, .slice none 0 0, .int .i64 0]) := ((RowV.new w 62 [.slice none 0 0, .slice none 0 0, .slice none 0 0, .slice none 0 0, .int .i64 0]).below (by simp) hb1).alloc _
 have HX0 : Hid (RowV (w1.alloc (.cells #[Value.int .u8 (y0.toNat : Int), Value.int .u8 (y1.toNat : Int), Value.int .u8 (y2.toNat : Int), Value.int .u8 (y3.toNat : Int), Value.int .u8 (y4.toNat : Int), Value.int .u8 (y5.toNat : Int), Value.int .u8 (y6.toNat : Int), Value.int .u8 (y7.toNat : Int)] 36)) w1.heap.size 36 [Value.int .u8 (y0.toNat : Int), Value.int .u8 (y1.toNat : Int), Value.int .u8 (y2.toNat : Int), Value.int .u8 (y3.toNat : Int), Value.int .u8 (y4.toNat : Int), Value.int .u8 (y5.toNat : Int), Value.int .u8 (y6.toNat : Int), Value.int .u8 (y7.toNat : Int)]) := RowV.new w1 36 [Value.int .u8 (y0.toNat : Int), Value.int .u8 (y1.toNat : Int), Value.int .u8 (y2.toNat : Int), Value.int .u8 (y3.toNat : Int), Value.int .u8 (y4.toNat : Int), Value.int .u8 (y5.toNat : Int), Value.int .u8 (y6.toNat : Int), Value.int .u8 (y7.toNat : Int)]
 have HO0 : Hid ((w1.alloc (.cells #[Value.int .u8 (y0.toNat : Int), Value.int .u8 (y1.toNat : Int), Value.int .u8 (y2.toNat : Int), Value.int .u8 (y3.toNat : Int), Value.int .u8 (y4.toNat : Int), Value.int .u8 (y5.toNat : Int), Value.int .u8 (y6.toNat : Int), Value.int .u8 (y7.toNat : Int)] 36)).ownsRow base 36 8 (.slice va vn vc) vn xs) := (owns_below ho hb1').alloc _
 have HF0 : Hid (Frame (fun k => (Value.slice va vn vc).ownBlock = some k) w (w1.alloc (.cells #[Value.int .u8 (y0.toNat : Int), Value.int .u8 (y1.toNat : Int), Value.int .u8 (y2.toNat : Int), Value.int .u8 (y3.toNat : Int), Value.int .u8 (y4.toNat : Int), Value.int .u8 (y5.toNat : Int), Value.int .u8 (y6.toNat : Int), Value.int .u8 (y7.toNat : Int)] 36))) := Frame.of_below_all (hb1'.alloc hb1'.size _)
 have hxne : w1.heap.size ≠ w.heap.size := by omega
 have HXB : Hid (w.heap.size < w1.heap.size) := by unfold Hid; omega
 unfold dV u8c
 simp only [List.map_cons, List.map_nil]
 clear hA ho h2 h3 h4 hb hL hxl hb1 hb1' hz1 hy HSG
 go_upto_region 2 with fail
 generalize w1.alloc (.cells #[Value.int .u8 (y0.toNat : Int), Value.int .u8 (y1.toNat : Int), Value.int .u8 (y2.toNat : Int), Value.int .u8 (y3.toNat : Int), Value.int .u8 (y4.toNat : Int), Value.int .u8 (y5.toNat : Int), Value.int .u8 (y6.toNat : Int), Value.int .u8 (y7.toNat : Int)] 36) = W at *
 generalize w1.heap.size = xb at *
 go_wp2
 go_loopw [6] (fun i wr => ∃ k : Nat, k ≤ vn ∧ i = .int .i64 k ∧ Hid (wr.ownsRow base 36 8 (.slice va vn vc) vn (patL (patD m) (k * 8) ++ xs.drop (k * 8))) ∧ Hid (Frame (fun k => (Value.slice va vn vc).ownBlock = some k) w wr) ∧ Hid (RowV wr w.heap.size 62 [.slice none 0 0, .slice none 0 0, .slice none 0 0, .slice none 0 0, .int .i64 0]) ∧ Hid (RowV wr xb 36 [Value.int .u8 (y0.toNat : Int), Value.int .u8 (y1.toNat : Int), Value.int .u8 (y2.toNat : Int), Value.int .u8 (y3.toNat : Int), Value.int .u8 (y4.toNat : Int), Value.int .u8 (y5.toNat : Int), Value.int .u8 (y6.toNat : Int), Value.int .u8 (y7.toNat : Int)])) (fun i _ => vn - (intOf i).toNat)
 case atStart => exact ⟨0, by omega, by simp, by unfold Hid; simpa [patL] using HO0.out, HF0, HR0, HX0⟩
 case round =>
  obtain ⟨k, hk, rfl, HO, HF, HR, HX⟩ := hrel
  have x0 : wr.cell? ⟨xb, 0, none⟩ = some (.int .u8 (y0.toNat : Int)) := RowV.cell? HX.out 0
  have x1 : wr.cell? ⟨xb, 1, none⟩ = some (.int .u8 (y1.toNat : Int)) := RowV.cell? HX.out 1
  have x2 : wr.cell? ⟨xb, 2, none⟩ = some (.int .u8 (y2.toNat : Int)) := RowV.cell? HX.out 2
  have x3 : wr.cell? ⟨xb, 3, none⟩ = some (.int .u8 (y3.toNat : Int)) := RowV.cell? HX.out 3
  have x4 : wr.cell? ⟨xb, 4, none⟩ = some (.int .u8 (y4.toNat : Int)) := RowV.cell? HX.out 4
  have x5 : wr.cell? ⟨xb, 5, none⟩ = some (.int .u8 (y5.toNat : Int)) := RowV.cell? HX.out 5
  have x6 : wr.cell? ⟨xb, 6, none⟩ = some (.int .u8 (y6.toNat : Int)) := RowV.cell? HX.out 6
  have x7 : wr.cell? ⟨xb, 7, none⟩ = some (.int .u8 (y7.toNat : Int)) := RowV.cell? HX.out 7
  have hkM : (k : Int) ≤ 1000000000 := by omega
  by_cases hlt : k < vn
  ·have hltI : (k : Int) < vn := by omega
   obtain ⟨g, hva, hbg, hgw⟩ : ∃ g, va = some ⟨g, 0, none⟩ ∧ base ≤ g ∧ g < w.heap.size := by
    rcases HAD.out with ⟨_, h0, _⟩ | h
    ·omega
    ·exact h
   subst hva
   have hkx : k * 8 + 7 < xs.length := by have := HXL.out; omega
   have hlen : (patL (patD m) (k * 8) ++ xs.drop (k * 8)).length = xs.length := by rw [List.length_append, patL_length, List.length_drop]; omega
   obtain ⟨u0, hu0⟩ : ∃ u, (patL (patD m) (k * 8) ++ xs.drop (k * 8))[k * 8]? = some u := ⟨_, List.getElem?_eq_getElem (by rw [hlen]; omega)⟩
   have c0 := World.ownsRow.cellAt HO.out (k * 8) (by omega)
   rw [hu0] at c0
   have f0 := World.ownsRow.frozenAt HO.out (k * 8)
   obtain ⟨u1, hu1⟩ : ∃ u, (patL (patD m) (k * 8) ++ xs.drop (k * 8))[k * 8 + 1]? = some u := ⟨_, List.getElem?_eq_getElem (by rw [hlen]; omega)⟩
   have c1 := World.ownsRow.cellAt HO.out (k * 8 + 1) (by omega)
   rw [hu1] at c1
   have f1 := World.ownsRow.frozenAt HO.out (k * 8 + 1)
   obtain ⟨u2, hu2⟩ : ∃ u, (patL (patD m) (k * 8) ++ xs.drop (k * 8))[k * 8 + 2]? = some u := ⟨_, List.getElem?_eq_getElem (by rw [hlen]; omega)⟩
   have c2 := World.ownsRow.cellAt HO.out (k * 8 + 2) (by omega)
   rw [hu2] at c2
   have f2 := World.ownsRow.frozenAt HO.out (k * 8 + 2)
   obtain ⟨u3, hu3⟩ : ∃ u, (patL (patD m) (k * 8) ++ xs.drop (k * 8))[k * 8 + 3]? = some u := ⟨_, List.getElem?_eq_getElem (by rw [hlen]; omega)⟩
   have c3 := World.ownsRow.cellAt HO.out (k * 8 + 3) (by omega)
   rw [hu3] at c3
   have f3 := World.ownsRow.frozenAt HO.out (k * 8 + 3)
   obtain ⟨u4, hu4⟩ : ∃ u, (patL (patD m) (k * 8) ++ xs.drop (k * 8))[k * 8 + 4]? = some u := ⟨_, List.getElem?_eq_getElem (by rw [hlen]; omega)⟩
   have c4 := World.ownsRow.cellAt HO.out (k * 8 + 4) (by omega)
   rw [hu4] at c4
   have f4 := World.ownsRow.frozenAt HO.out (k * 8 + 4)
   obtain ⟨u5, hu5⟩ : ∃ u, (patL (patD m) (k * 8) ++ xs.drop (k * 8))[k * 8 + 5]? = some u := ⟨_, List.getElem?_eq_getElem (by rw [hlen]; omega)⟩
   have c5 := World.ownsRow.cellAt HO.out (k * 8 + 5) (by omega)
   rw [hu5] at c5
   have f5 := World.ownsRow.frozenAt HO.out (k * 8 + 5)
   obtain ⟨u6, hu6⟩ : ∃ u, (patL (patD m) (k * 8) ++ xs.drop (k * 8))[k * 8 + 6]? = some u := ⟨_, List.getElem?_eq_getElem (by rw [hlen]; omega)⟩
   have c6 := World.ownsRow.cellAt HO.out (k * 8 + 6) (by omega)
   rw [hu6] at c6
   have f6 := World.ownsRow.frozenAt HO.out (k * 8 + 6)
   obtain ⟨u7, hu7⟩ : ∃ u, (patL (patD m) (k * 8) ++ xs.drop (k * 8))[k * 8 + 7]? = some u := ⟨_, List.getElem?_eq_getElem (by rw [hlen]; omega)⟩
   have c7 := World.ownsRow.cellAt HO.out (k * 8 + 7) (by omega)
   rw [hu7] at c7
   have f7 := World.ownsRow.frozenAt HO.out (k * 8 + 7)
   have HO' : Hid (((((((((wr.setCell ⟨g, k * 8, none⟩ (Value.int .u8 (y0.toNat : Int))).setCell ⟨g, k * 8 + 1, none⟩ (Value.int .u8 (y1.toNat : Int))).setCell ⟨g, k * 8 + 2, none⟩ (Value.int .u8 (y2.toNat : Int))).setCell ⟨g, k * 8 + 3, none⟩ (Value.int .u8 (y3.toNat : Int))).setCell ⟨g, k * 8 + 4, none⟩ (Value.int .u8 (y4.toNat : Int))).setCell ⟨g, k * 8 + 5, none⟩ (Value.int .u8 (y5.toNat : Int))).setCell ⟨g, k * 8 + 6, none⟩ (Value.int .u8 (y6.toNat : Int))).setCell ⟨g, k * 8 + 7, none⟩ (Value.int .u8 (y7.toNat : Int))).ownsRow base 36 8 (.slice (some ⟨g, 0, none⟩) vn vc) vn (patL (patD m) ((k + 1) * 8) ++ xs.drop ((k + 1) * 8))) := by
    have h1 := (World.ownsRow.stored HO.out (k * 8) (Value.int .u8 (y0.toNat : Int))).1
    have h2 := (World.ownsRow.stored h1 (k * 8 + 1) (Value.int .u8 (y1.toNat : Int))).1
    have h3 := (World.ownsRow.stored h2 (k * 8 + 2) (Value.int .u8 (y2.toNat : Int))).1
    have h4 := (World.ownsRow.stored h3 (k * 8 + 3) (Value.int .u8 (y3.toNat : Int))).1
    have h5 := (World.ownsRow.stored h4 (k * 8 + 4) (Value.int .u8 (y4.toNat : Int))).1
    have h6 := (World.ownsRow.stored h5 (k * 8 + 5) (Value.int .u8 (y5.toNat : Int))).1
    have h7 := (World.ownsRow.stored h6 (k * 8 + 6) (Value.int .u8 (y6.toNat : Int))).1
    have h8 := (World.ownsRow.stored h7 (k * 8 + 7) (Value.int .u8 (y7.toNat : Int))).1
    rw [patD_set8 m xs k HY.out hkx] at h8
    exact h8
   have hft : Frame (fun q => (Value.slice (some ⟨g, 0, none⟩) vn vc).ownBlock = some q) wr ((((((((wr.setCell ⟨g, k * 8, none⟩ (Value.int .u8 (y0.toNat : Int))).setCell ⟨g, k * 8 + 1, none⟩ (Value.int .u8 (y1.toNat : Int))).setCell ⟨g, k * 8 + 2, none⟩ (Value.int .u8 (y2.toNat : Int))).setCell ⟨g, k * 8 + 3, none⟩ (Value.int .u8 (y3.toNat : Int))).setCell ⟨g, k * 8 + 4, none⟩ (Value.int .u8 (y4.toNat : Int))).setCell ⟨g, k * 8 + 5, none⟩ (Value.int .u8 (y5.toNat : Int))).setCell ⟨g, k * 8 + 6, none⟩ (Value.int .u8 (y6.toNat : Int))).setCell ⟨g, k * 8 + 7, none⟩ (Value.int .u8 (y7.toNat : Int))) := (((((((((Frame.refl (fun q => (Value.slice (some ⟨g, 0, none⟩) vn vc).ownBlock = some q) wr).setCell (p := ⟨g, k * 8, none⟩) rfl _).setCell (p := ⟨g, k * 8 + 1, none⟩) rfl _).setCell (p := ⟨g, k * 8 + 2, none⟩) rfl _).setCell (p := ⟨g, k * 8 + 3, none⟩) rfl _).setCell (p := ⟨g, k * 8 + 4, none⟩) rfl _).setCell (p := ⟨g, k * 8 + 5, none⟩) rfl _).setCell (p := ⟨g, k * 8 + 6, none⟩) rfl _).setCell (p := ⟨g, k * 8 + 7, none⟩) rfl _)
   have hno : ∀ q, w.heap.size ≤ q → ¬ (Value.slice (some ⟨g, 0, none⟩) vn vc).ownBlock = some q := fun q hq e => by have := (HVL.out q e).2; omega
   have HF' : Hid (Frame (fun k => (Value.slice (some ⟨g, 0, none⟩) vn vc).ownBlock = some k) w ((((((((wr.setCell ⟨g, k * 8, none⟩ (Value.int .u8 (y0.toNat : Int))).setCell ⟨g, k * 8 + 1, none⟩ (Value.int .u8 (y1.toNat : Int))).setCell ⟨g, k * 8 + 2, none⟩ (Value.int .u8 (y2.toNat : Int))).setCell ⟨g, k * 8 + 3, none⟩ (Value.int .u8 (y3.toNat : Int))).setCell ⟨g, k * 8 + 4, none⟩ (Value.int .u8 (y4.toNat : Int))).setCell ⟨g, k * 8 + 5, none⟩ (Value.int .u8 (y5.toNat : Int))).setCell ⟨g, k * 8 + 6, none⟩ (Value.int .u8 (y6.toNat : Int))).setCell ⟨g, k * 8 + 7, none⟩ (Value.int .u8 (y7.toNat : Int)))) := HF.out.trans hft
   have HR' : Hid (RowV ((((((((wr.setCell ⟨g, k * 8, none⟩ (Value.int .u8 (y0.toNat : Int))).setCell ⟨g, k * 8 + 1, none⟩ (Value.int .u8 (y1.toNat : Int))).setCell ⟨g, k * 8 + 2, none⟩ (Value.int .u8 (y2.toNat : Int))).setCell ⟨g, k * 8 + 3, none⟩ (Value.int .u8 (y3.toNat : Int))).setCell ⟨g, k * 8 + 4, none⟩ (Value.int .u8 (y4.toNat : Int))).setCell ⟨g, k * 8 + 5, none⟩ (Value.int .u8 (y5.toNat : Int))).setCell ⟨g, k * 8 + 6, none⟩ (Value.int .u8 (y6.toNat : Int))).setCell ⟨g, k * 8 + 7, none⟩ (Value.int .u8 (y7.toNat : Int))) w.heap.size 62 [.slice none 0 0, .slice none 0 0, .slice none 0 0, .slice none 0 0, .int .i64 0]) := RowV.of_block HR.out (hft.block _ HR.out.lt (hno _ (Nat.le_refl _)))
   have HX' : Hid (RowV ((((((((wr.setCell ⟨g, k * 8, none⟩ (Value.int .u8 (y0.toNat : Int))).setCell ⟨g, k * 8 + 1, none⟩ (Value.int .u8 (y1.toNat : Int))).setCell ⟨g, k * 8 + 2, none⟩ (Value.int .u8 (y2.toNat : Int))).setCell ⟨g, k * 8 + 3, none⟩ (Value.int .u8 (y3.toNat : Int))).setCell ⟨g, k * 8 + 4, none⟩ (Value.int .u8 (y4.toNat : Int))).setCell ⟨g, k * 8 + 5, none⟩ (Value.int .u8 (y5.toNat : Int))).setCell ⟨g, k * 8 + 6, none⟩ (Value.int .u8 (y6.toNat : Int))).setCell ⟨g, k * 8 + 7, none⟩ (Value.int .u8 (y7.toNat : Int))) xb 36 [Value.int .u8 (y0.toNat : Int), Value.int .u8 (y1.toNat : Int), Value.int .u8 (y2.toNat : Int), Value.int .u8 (y3.toNat : Int), Value.int .u8 (y4.toNat : Int), Value.int .u8 (y5.toNat : Int), Value.int .u8 (y6.toNat : Int), Value.int .u8 (y7.toNat : Int)]) := RowV.of_block HX.out (hft.block _ HX.out.lt (hno _ (by have := HXB.out; omega)))
   clear hbg hgw hft hno hlen hu0 hu1 hu2 hu3 hu4 hu5 hu6 hu7
   go_wp2
   exact ⟨⟨k + 1, by omega, by go_num, HO', HF', HR', HX'⟩, by simp [intOf]; omega⟩
  ·obtain rfl : k = vn := by omega
   have hltI : ¬ (k : Int) < k := by omega
   have HO1 : Hid (wr.ownsRow base 36 8 (.slice va k vc) k (patL (patD m) (k * 8))) := by
    have := HO.out
    rw [List.drop_eq_nil_of_le (by rw [HXL.out]; exact Nat.le_refl _), List.append_nil] at this
    exact this
   clear HO
   have HP1 : Hid (∀ j, (patD m j).oneCell' = true) := fun j => by
    unfold patD
    rw [HY.out]
    have hj : j % 8 < 8 := Nat.mod_lt _ (by omega)
    generalize j % 8 = q at *
    match q, hj with
    | 0, _ => rfl
    | 1, _ => rfl
    | 2, _ => rfl
    | 3, _ => rfl
    | 4, _ => rfl
    | 5, _ => rfl
    | 6, _ => rfl
    | 7, _ => rfl
   have HN1 : Hid (∀ q, (Value.slice va k vc).ownBlock = some q → q < w.heap.size) := fun q hq => (HVL.out q hq).2
   have HKR : Hid (∀ (W1 W2 : World) (b : Nat) (T : Nat) (l : List Value), w.heap.size ≤ b → RowV W1 b T l → Frame (fun q => (Value.slice va k vc).ownBlock = some q) W1 W2 → RowV W2 b T l) := fun W1 W2 b T l hb h hf => h.of_block (hf.block _ h.lt (fun e => by have := HN1.out _ e; omega))
   have HBW : Hid (base ≤ wr.heap.size) := Nat.le_trans HB.out HF.out.size
   have hxb1 : w.heap.size ≤ xb := by have := HXB.out; omega
   go_wp2_with (first
    | (at_builtin; have ox1 : (wr.alloc (.cells #[Value.int .u8 (y0.toNat : Int), Value.int .u8 (y1.toNat : Int), Value.int .u8 (y2.toNat : Int), Value.int .u8 (y3.toNat : Int), Value.int .u8 (y4.toNat : Int), Value.int .u8 (y5.toNat : Int), Value.int .u8 (y6.toNat : Int), Value.int .u8 (y7.toNat : Int)] 36)).ownsRow base 36 8 (.slice va k vc) k (patL (patD m) (k * 8)) := (mark_moreD HY.out 1 (Or.inl rfl) HO1.out).1; have sx1 : SlV (wr.alloc (.cells #[Value.int .u8 (y0.toNat : Int), Value.int .u8 (y1.toNat : Int), Value.int .u8 (y2.toNat : Int), Value.int .u8 (y3.toNat : Int), Value.int .u8 (y4.toNat : Int), Value.int .u8 (y5.toNat : Int), Value.int .u8 (y6.toNat : Int), Value.int .u8 (y7.toNat : Int)] 36)) (some ⟨wr.heap.size, 0, none⟩) (patL (fun j => patD m (k * 8 + j)) (1 * 8)) := (mark_moreD HY.out 1 (Or.inl rfl) HO1.out).2; refine wp_appendPat (by rfl) (.tmp 22) (.tmp 24) 41 (by rfl) base 36 _ 8 8 Tryz.underlying41 Tryz.infoDigP rfl (by decide) (patD m) (.slice va k vc) k (by rfl) ox1 ⟨wr.heap.size, 0, none⟩ 1 1 (by rfl) sx1 HP1.out (by decide) (by have := HL.out; unfold maxLen; omega) (by have := HL.out; omega) (by have := HBW.out; simp; omega) ?_; intro a2 c2 w2 ho2 hf2 hat2 hk2 hv2; have hX2 := HKR.out _ _ xb _ _ hxb1 (RowV.alloc HX.out _) hf2; have p0 : w2.cell? ⟨xb, 0, none⟩ = some (.int .u8 (y0.toNat : Int)) := RowV.cell? hX2 0; have p1 : w2.cell? ⟨xb, 1, none⟩ = some (.int .u8 (y1.toNat : Int)) := RowV.cell? hX2 1; have p2 : w2.cell? ⟨xb, 2, none⟩ = some (.int .u8 (y2.toNat : Int)) := RowV.cell? hX2 2; have p3 : w2.cell? ⟨xb, 3, none⟩ = some (.int .u8 (y3.toNat : Int)) := RowV.cell? hX2 3; have p4 : w2.cell? ⟨xb, 4, none⟩ = some (.int .u8 (y4.toNat : Int)) := RowV.cell? hX2 4; have p5 : w2.cell? ⟨xb, 5, none⟩ = some (.int .u8 (y5.toNat : Int)) := RowV.cell? hX2 5; have p6 : w2.cell? ⟨xb, 6, none⟩ = some (.int .u8 (y6.toNat : Int)) := RowV.cell? hX2 6; have p7 : w2.cell? ⟨xb, 7, none⟩ = some (.int .u8 (y7.toNat : Int)) := RowV.cell? hX2 7)
    | (at_builtin; have ox2 : (w2.alloc (.cells #[Value.int .u8 (y0.toNat : Int), Value.int .u8 (y1.toNat : Int), Value.int .u8 (y2.toNat : Int), Value.int .u8 (y3.toNat : Int), Value.int .u8 (y4.toNat : Int), Value.int .u8 (y5.toNat : Int), Value.int .u8 (y6.toNat : Int), Value.int .u8 (y7.toNat : Int), Value.int .u8 (y0.toNat : Int), Value.int .u8 (y1.toNat : Int), Value.int .u8 (y2.toNat : Int), Value.int .u8 (y3.toNat : Int), Value.int .u8 (y4.toNat : Int), Value.int .u8 (y5.toNat : Int), Value.int .u8 (y6.toNat : Int), Value.int .u8 (y7.toNat : Int)] 36)).ownsRow base 36 8 (.slice va k vc) k (patL (patD m) (k * 8)) := (mark_moreD HY.out 2 (Or.inr (Or.inl rfl)) hv2).1; have sx2 : SlV (w2.alloc (.cells #[Value.int .u8 (y0.toNat : Int), Value.int .u8 (y1.toNat : Int), Value.int .u8 (y2.toNat : Int), Value.int .u8 (y3.toNat : Int), Value.int .u8 (y4.toNat : Int), Value.int .u8 (y5.toNat : Int), Value.int .u8 (y6.toNat : Int), Value.int .u8 (y7.toNat : Int), Value.int .u8 (y0.toNat : Int), Value.int .u8 (y1.toNat : Int), Value.int .u8 (y2.toNat : Int), Value.int .u8 (y3.toNat : Int), Value.int .u8 (y4.toNat : Int), Value.int .u8 (y5.toNat : Int), Value.int .u8 (y6.toNat : Int), Value.int .u8 (y7.toNat : Int)] 36)) (some ⟨w2.heap.size, 0, none⟩) (patL (fun j => patD m (k * 8 + j)) (2 * 8)) := (mark_moreD HY.out 2 (Or.inr (Or.inl rfl)) hv2).2; refine wp_appendPat (by rfl) (.tmp 26) (.tmp 29) 41 (by rfl) base 36 _ 8 8 Tryz.underlying41 Tryz.infoDigP rfl (by decide) (patD m) (.slice va k vc) k (by rfl) ox2 ⟨w2.heap.size, 0, none⟩ 2 2 (by rfl) sx2 HP1.out (by decide) (by have := HL.out; unfold maxLen; omega) (by have := HL.out; omega) (by have := (Nat.le_trans HBW.out (Nat.le_trans (by simp) hf2.size) : base ≤ w2.heap.size); simp; omega) ?_; intro a3 c3 w3 ho3 hf3 hat3 hk3 hv3; have hX3 := HKR.out _ _ xb _ _ hxb1 (RowV.alloc hX2 _) hf3; have r0 : w3.cell? ⟨xb, 0, none⟩ = some (.int .u8 (y0.toNat : Int)) := RowV.cell? hX3 0; have r1 : w3.cell? ⟨xb, 1, none⟩ = some (.int .u8 (y1.toNat : Int)) := RowV.cell? hX3 1; have r2 : w3.cell? ⟨xb, 2, none⟩ = some (.int .u8 (y2.toNat : Int)) := RowV.cell? hX3 2; have r3 : w3.cell? ⟨xb, 3, none⟩ = some (.int .u8 (y3.toNat : Int)) := RowV.cell? hX3 3; have r4 : w3.cell? ⟨xb, 4, none⟩ = some (.int .u8 (y4.toNat : Int)) := RowV.cell? hX3 4; have r5 : w3.cell? ⟨xb, 5, none⟩ = some (.int .u8 (y5.toNat : Int)) := RowV.cell? hX3 5; have r6 : w3.cell? ⟨xb, 6, none⟩ = some (.int .u8 (y6.toNat : Int)) := RowV.cell? hX3 6; have r7 : w3.cell? ⟨xb, 7, none⟩ = some (.int .u8 (y7.toNat : Int)) := RowV.cell? hX3 7)
    | (at_builtin; have ox3 : (w3.alloc (.cells #[Value.int .u8 (y0.toNat : Int), Value.int .u8 (y1.toNat : Int), Value.int .u8 (y2.toNat : Int), Value.int .u8 (y3.toNat : Int), Value.int .u8 (y4.toNat : Int), Value.int .u8 (y5.toNat : Int), Value.int .u8 (y6.toNat : Int), Value.int .u8 (y7.toNat : Int), Value.int .u8 (y0.toNat : Int), Value.int .u8 (y1.toNat : Int), Value.int .u8 (y2.toNat : Int), Value.int .u8 (y3.toNat : Int), Value.int .u8 (y4.toNat : Int), Value.int .u8 (y5.toNat : Int), Value.int .u8 (y6.toNat : Int), Value.int .u8 (y7.toNat : Int), Value.int .u8 (y0.toNat : Int), Value.int .u8 (y1.toNat : Int), Value.int .u8 (y2.toNat : Int), Value.int .u8 (y3.toNat : Int), Value.int .u8 (y4.toNat : Int), Value.int .u8 (y5.toNat : Int), Value.int .u8 (y6.toNat : Int), Value.int .u8 (y7.toNat : Int)] 36)).ownsRow base 36 8 (.slice va k vc) k (patL (patD m) (k * 8)) := (mark_moreD HY.out 3 (Or.inr (Or.inr rfl)) hv3).1; have sx3 : SlV (w3.alloc (.cells #[Value.int .u8 (y0.toNat : Int), Value.int .u8 (y1.toNat : Int), Value.int .u8 (y2.toNat : Int), Value.int .u8 (y3.toNat : Int), Value.int .u8 (y4.toNat : Int), Value.int .u8 (y5.toNat : Int), Value.int .u8 (y6.toNat : Int), Value.int .u8 (y7.toNat : Int), Value.int .u8 (y0.toNat : Int), Value.int .u8 (y1.toNat : Int), Value.int .u8 (y2.toNat : Int), Value.int .u8 (y3.toNat : Int), Value.int .u8 (y4.toNat : Int), Value.int .u8 (y5.toNat : Int), Value.int .u8 (y6.toNat : Int), Value.int .u8 (y7.toNat : Int), Value.int .u8 (y0.toNat : Int), Value.int .u8 (y1.toNat : Int), Value.int .u8 (y2.toNat : Int), Value.int .u8 (y3.toNat : Int), Value.int .u8 (y4.toNat : Int), Value.int .u8 (y5.toNat : Int), Value.int .u8 (y6.toNat : Int), Value.int .u8 (y7.toNat : Int)] 36)) (some ⟨w3.heap.size, 0, none⟩) (patL (fun j => patD m (k * 8 + j)) (3 * 8)) := (mark_moreD HY.out 3 (Or.inr (Or.inr rfl)) hv3).2; refine wp_appendPat (by rfl) (.tmp 31) (.tmp 35) 41 (by rfl) base 36 _ 8 8 Tryz.underlying41 Tryz.infoDigP rfl (by decide) (patD m) (.slice va k vc) k (by rfl) ox3 ⟨w3.heap.size, 0, none⟩ 3 3 (by rfl) sx3 HP1.out (by decide) (by have := HL.out; unfold maxLen; omega) (by have := HL.out; omega) (by have := (Nat.le_trans HBW.out (Nat.le_trans (Nat.le_trans (by simp) hf2.size) (Nat.le_trans (by simp) hf3.size)) : base ≤ w3.heap.size); simp; omega) ?_; intro a4 c4 w4 ho4 hf4 hat4 hk4 hv4; have hR4 := HKR.out _ _ _ _ _ (Nat.le_refl _) (RowV.alloc (HKR.out _ _ _ _ _ (Nat.le_refl _) (RowV.alloc (HKR.out _ _ _ _ _ (Nat.le_refl _) (RowV.alloc HR.out _) hf2) _) hf3) _) hf4)
    | (refine wp_storeR (by rfl) 62 (.tmp 4) (.tmp 42) (by rfl) w.heap.size (by rfl) [.slice va k vc, .slice a2 (k + 1) c2, .slice a3 (k + 2) c3, .slice a4 (k + 3) c4, .int .i64 (m : Int)] (by rfl) hR4 rfl Tryz.sizeDigsB (fun u hu => bk_one hu) ?_; intro w5 hR5 hf5 hz5))
   have hwr : xb < wr.heap.size := HX.out.lt
   have hXB := HXB.out
   have z2 := hf2.size
   have z3 := hf3.size
   have z4 := hf4.size
   simp only [World.size_alloc] at z2 z3 z4
   have hb2 : Below w2.heap.size w2 (w2.alloc (.cells #[Value.int .u8 (y0.toNat : Int), Value.int .u8 (y1.toNat : Int), Value.int .u8 (y2.toNat : Int), Value.int .u8 (y3.toNat : Int), Value.int .u8 (y4.toNat : Int), Value.int .u8 (y5.toNat : Int), Value.int .u8 (y6.toNat : Int), Value.int .u8 (y7.toNat : Int), Value.int .u8 (y0.toNat : Int), Value.int .u8 (y1.toNat : Int), Value.int .u8 (y2.toNat : Int), Value.int .u8 (y3.toNat : Int), Value.int .u8 (y4.toNat : Int), Value.int .u8 (y5.toNat : Int), Value.int .u8 (y6.toNat : Int), Value.int .u8 (y7.toNat : Int)] 36)) := (Below.refl _ _).alloc (Nat.le_refl _) _
   have hb3 : Below w3.heap.size w3 (w3.alloc (.cells #[Value.int .u8 (y0.toNat : Int), Value.int .u8 (y1.toNat : Int), Value.int .u8 (y2.toNat : Int), Value.int .u8 (y3.toNat : Int), Value.int .u8 (y4.toNat : Int), Value.int .u8 (y5.toNat : Int), Value.int .u8 (y6.toNat : Int), Value.int .u8 (y7.toNat : Int), Value.int .u8 (y0.toNat : Int), Value.int .u8 (y1.toNat : Int), Value.int .u8 (y2.toNat : Int), Value.int .u8 (y3.toNat : Int), Value.int .u8 (y4.toNat : Int), Value.int .u8 (y5.toNat : Int), Value.int .u8 (y6.toNat : Int), Value.int .u8 (y7.toNat : Int), Value.int .u8 (y0.toNat : Int), Value.int .u8 (y1.toNat : Int), Value.int .u8 (y2.toNat : Int), Value.int .u8 (y3.toNat : Int), Value.int .u8 (y4.toNat : Int), Value.int .u8 (y5.toNat : Int), Value.int .u8 (y6.toNat : Int), Value.int .u8 (y7.toNat : Int)] 36)) := (Below.refl _ _).alloc (Nat.le_refl _) _
   have k23 : PatKeep (patD m) w2 w3 := (PatKeep.below hb2).trans hk3 hb2.size
   have k34 : PatKeep (patD m) w3 w4 := (PatKeep.below hb3).trans hk4 hb3.size
   have k24 : PatKeep (patD m) w2 w4 := k23.trans k34 (by omega)
   have g1 : ∀ q, (Value.slice a2 (k + 1) c2).ownBlock = some q → (Value.slice va k vc).ownBlock = some q ∨ w.heap.size < q := fun q hq => by
    rcases hat2 with e | e
    ·exact Or.inl (by rw [← e]; exact hq)
    ·rw [e] at hq; have := Option.some.inj hq; simp at this; exact Or.inr (by omega)
   have g2 : ∀ q, (Value.slice a3 (k + 2) c3).ownBlock = some q → (Value.slice va k vc).ownBlock = some q ∨ w.heap.size < q := fun q hq => by
    rcases hat3 with e | e
    ·exact Or.inl (by rw [← e]; exact hq)
    ·rw [e] at hq; have := Option.some.inj hq; simp at this; exact Or.inr (by omega)
   have g3 : ∀ q, (Value.slice a4 (k + 3) c4).ownBlock = some q → (Value.slice va k vc).ownBlock = some q ∨ w.heap.size < q := fun q hq => by
    rcases hat4 with e | e
    ·exact Or.inl (by rw [← e]; exact hq)
    ·rw [e] at hq; have := Option.some.inj hq; simp at this; exact Or.inr (by omega)
   have hne : ∀ q, ((Value.slice va k vc).ownBlock = some q ∨ w.heap.size < q) → ¬ q = w.heap.size := fun q hq e => by
    rcases hq with h | h
    ·have := HN1.out q h; omega
    ·omega
   have hfw : Frame (fun q => (Value.slice va k vc).ownBlock = some q) w w4 := (((((HF.out.alloc _).trans hf2).alloc _).trans hf3).alloc _).trans hf4
   have hl60 := HL.out
   refine ret_agg (k := 4) (cs := bkC ⟨⟨va, k, vc⟩, ⟨a2, k + 1, c2⟩, ⟨a3, k + 2, c3⟩, ⟨a4, k + 3, c4⟩⟩ m) rfl rfl hR5 Tryz.underlying62 rfl Tryz.sizeDigsB rfl ⟨⟨⟨va, k, vc⟩, ⟨a2, k + 1, c2⟩, ⟨a3, k + 2, c3⟩, ⟨a4, k + 3, c4⟩⟩, rfl, ⟨?_, ?_, ?_, ?_, by simp only; omega, by simp only; omega, by simp only; omega, by simp only; omega, ?_⟩, ?_, ?_⟩
   ·exact (PatSl.own (s := ⟨va, k, vc⟩) hv4).frame hf5 (fun q hq => hne q (Or.inl hq))
   ·exact ((PatSl.own (s := ⟨a2, k + 1, c2⟩) ho2).keep k24 (by omega)).frame hf5 (fun q hq => hne q (g1 q hq))
   ·exact ((PatSl.own (s := ⟨a3, k + 2, c3⟩) ho3).keep k34 (by omega)).frame hf5 (fun q hq => hne q (g2 q hq))
   ·exact (PatSl.own (s := ⟨a4, k + 3, c4⟩) ho4).frame hf5 (fun q hq => hne q (g3 q hq))
   ·intro q hq
    have z5 := hf5.size
    rcases hq with hq | hq | hq | hq
    ·have := (hv4.lt q hq).2; omega
    ·have := (ho2.lt q hq).2; omega
    ·have := (ho3.lt q hq).2; omega
    ·have := (ho4.lt q hq).2; omega
   ·exact Frame.inside hfw hf5 (fun q hlt' e => by omega)
   ·intro q hq
    rcases hq with hq | hq | hq | hq
    ·exact Or.inl hq
    ·exact g1 q hq
    ·exact g2 q hq
    ·exact g3 q hq
end Go.Proofs.YtekegfbjbainhaaGreat
