import Derived.Test.YtekegfbjbainhaaGreatKJoin17
import Derived.Test.YtekegfbjbainhaaGreatKJoin16
import Derived.ProofKit
import Derived.SizedLaws
import Derived.OpenShut
import Derived.Deep.Slices
/- A step of Commit when forty stand, walked. -/
namespace Go.Proofs.YtekegfbjbainhaaGreat
set_option linter.unusedVariables false
set_option linter.unusedSimpArgs false
open Go.RowKit

set_option maxRecDepth 100000 in
set_option maxHeartbeats 4000000 in
theorem stored_com_full (d : PairD) (cs : List Value) (p : Value) (w : World) (h : PairOk w d) (k0 : cs[0]? = some (.int .i64 5)) (h40 : d.tds.length = 40) :
    Calls Tryz.prog 21 #[p, .agg cs.toArray, .pointer (some ⟨d.pb, 0, none⟩)] w fun e w' => e = .returned (.bool true) ∧ Stepped d w w' := by
  have HA : Hid (Below w.heap.size w (w.alloc (.cells cs.toArray 43))) := (Below.refl _ _).alloc (Nat.le_refl _) _
  have hpb : d.pb < w.heap.size := RowV.lt h.lay.row
  have r0 : w.cell? ⟨d.pb, 0, none⟩ = some (.pointer (some ⟨d.sb, 0, none⟩)) := RowV.cell h.lay.row 0 (by simp)
  have HP0 := h.lay.below HA.out
  have HCM : Hid (Calls _ _ _ _ _) := commit_full d.sb d.N d.en d.tr d.mp d.es d.xs d.its d.tds _ HP0.sto h40
  go_enter Tryz.func21, Tryz.ntmps21
  go_wp2_with fail
  refine HCM.out.mono ?_
  rintro e w1 ⟨rfl, hb1⟩
  have HB1 : Hid (Below w.heap.size w w1) := HA.out.trans (hb1.mono (by simp))
  have z1 := hb1.size
  simp only [World.size_alloc] at z1
  have HZ1 : Hid (RowV (w1.alloc (.cells #[.int .i64 0, .int .u8 0, .int .u8 0, .int .u8 0, .int .u8 0, .int .u8 0, .int .u8 0, .int .u8 0, .int .u8 0, .int .i64 0, .int .u8 0, .int .u8 0, .int .u8 0, .int .u8 0, .int .u8 0, .int .u8 0, .int .u8 0, .int .u8 0] 103)) w1.heap.size 103 zero18) := RowV.new w1 _ _
  have HB2f : Hid (∀ w2, Frame (fun k => k = w1.heap.size) (w1.alloc (.cells #[.int .i64 0, .int .u8 0, .int .u8 0, .int .u8 0, .int .u8 0, .int .u8 0, .int .u8 0, .int .u8 0, .int .u8 0, .int .i64 0, .int .u8 0, .int .u8 0, .int .u8 0, .int .u8 0, .int .u8 0, .int .u8 0, .int .u8 0, .int .u8 0] 103)) w2 → Below w.heap.size w w2) := fun w2 hf =>
    (HB1.out.alloc (by omega) _).trans (hf.below (by simp; omega) (fun k hk => by omega))
  have HR1 : Hid (∀ W, Below w.heap.size w W → W.cell? ⟨d.pb, 1, none⟩ = some (.pointer (some ⟨d.rb, 0, none⟩))) := fun W hb => RowV.cellK (h.lay.below hb).row 1 _ rfl
  clear hb1 HP0 r0 HCM
  go_wp2_with (refine wp_storeR (by rfl) 103 (.tmp 17) (.tmp 113) (by rfl) w1.heap.size (by rfl) zero18 (by rfl) HZ1.out rfl Tryz.sizeCommit zero18_one ?_; intro w2 hr2 hf2 hz2; have hb2 := HB2f.out _ hf2; have r1 : w2.cell? ⟨d.pb, 1, none⟩ = some (.pointer (some ⟨d.rb, 0, none⟩)) := HR1.out _ hb2)
  simp only [World.size_alloc] at hz2
  refine (refCommit_full d.rb 0 d.now d.past d.roots d.nl d.pastL d.rl w2 (h.lay.below hb2).ref (by rw [h.rl]; simpa using h40)).mono ?_
  rintro e w3 ⟨rfl, hb3⟩
  have z3 := hb3.size
  have hr3 := hr2.below hr2.lt hb3
  have HB3 : Hid (Below w.heap.size w w3) := hb2.trans (hb3.mono (by omega))
  have HZ3 : Hid (RowV (w3.alloc (.cells #[.int .i64 0, .int .u8 0, .int .u8 0, .int .u8 0, .int .u8 0, .int .u8 0, .int .u8 0, .int .u8 0, .int .u8 0, .int .i64 0, .int .u8 0, .int .u8 0, .int .u8 0, .int .u8 0, .int .u8 0, .int .u8 0, .int .u8 0, .int .u8 0] 103)) w3.heap.size 103 zero18) := RowV.new w3 _ _
  have HR3 : Hid (RowV w3 w1.heap.size 103 zero18) := hr3
  have HZZ : Hid (w.heap.size + 1 ≤ w1.heap.size ∧ w1.heap.size < w3.heap.size) := ⟨by omega, by omega⟩
  clear hb3 hr2 hf2 hz2 hb2 r1 HB2f HR1 HZ1 hr3 z1 z3
  go_upto_region 20 with (refine wp_storeR (by rfl) 103 (.tmp 19) (.tmp 121) (by rfl) w3.heap.size (by rfl) zero18 (by rfl) HZ3.out rfl Tryz.sizeCommit zero18_one ?_; intro w4 hr4 hf4 hz4)
  simp only [World.size_alloc] at hz4
  obtain ⟨v1, v2⟩ := HZZ.out
  have hr4a : RowV w4 w1.heap.size 103 zero18 := (RowV.alloc (w := w3) HR3.out _).of_block (hf4.block _ (by simp; omega) (by omega))
  have HB4 : Hid (Below w.heap.size w w4) := (HB3.out.alloc (by omega) _).trans (hf4.below (by simp; omega) (fun k hk => by omega))
  have HST : Hid (Stepped d w w4) := Stepped.mk ⟨h.lay.below HB4.out, h.nl, h.rl, h.pl, h.dl, h.t40, h.cnt, h.pst, h.dc⟩ rfl (Frame.of_below_all HB4.out) (fun k hk _ => hk)
  have a0 : w4.cell? ⟨w1.heap.size, 0, none⟩ = some (.int .i64 0) := RowV.cellK hr4a 0 _ rfl
  have a1 : w4.cell? ⟨w1.heap.size, 1, none⟩ = some (.int .u8 0) := RowV.cellK hr4a 1 _ rfl
  have a2 : w4.cell? ⟨w1.heap.size, 2, none⟩ = some (.int .u8 0) := RowV.cellK hr4a 2 _ rfl
  have a3 : w4.cell? ⟨w1.heap.size, 3, none⟩ = some (.int .u8 0) := RowV.cellK hr4a 3 _ rfl
  have a4 : w4.cell? ⟨w1.heap.size, 4, none⟩ = some (.int .u8 0) := RowV.cellK hr4a 4 _ rfl
  have a5 : w4.cell? ⟨w1.heap.size, 5, none⟩ = some (.int .u8 0) := RowV.cellK hr4a 5 _ rfl
  have a6 : w4.cell? ⟨w1.heap.size, 6, none⟩ = some (.int .u8 0) := RowV.cellK hr4a 6 _ rfl
  have a7 : w4.cell? ⟨w1.heap.size, 7, none⟩ = some (.int .u8 0) := RowV.cellK hr4a 7 _ rfl
  have a8 : w4.cell? ⟨w1.heap.size, 8, none⟩ = some (.int .u8 0) := RowV.cellK hr4a 8 _ rfl
  have a9 : w4.cell? ⟨w1.heap.size, 9, none⟩ = some (.int .i64 0) := RowV.cellK hr4a 9 _ rfl
  have a10 : w4.cell? ⟨w1.heap.size, 10, none⟩ = some (.int .u8 0) := RowV.cellK hr4a 10 _ rfl
  have a11 : w4.cell? ⟨w1.heap.size, 11, none⟩ = some (.int .u8 0) := RowV.cellK hr4a 11 _ rfl
  have a12 : w4.cell? ⟨w1.heap.size, 12, none⟩ = some (.int .u8 0) := RowV.cellK hr4a 12 _ rfl
  have a13 : w4.cell? ⟨w1.heap.size, 13, none⟩ = some (.int .u8 0) := RowV.cellK hr4a 13 _ rfl
  have a14 : w4.cell? ⟨w1.heap.size, 14, none⟩ = some (.int .u8 0) := RowV.cellK hr4a 14 _ rfl
  have a15 : w4.cell? ⟨w1.heap.size, 15, none⟩ = some (.int .u8 0) := RowV.cellK hr4a 15 _ rfl
  have a16 : w4.cell? ⟨w1.heap.size, 16, none⟩ = some (.int .u8 0) := RowV.cellK hr4a 16 _ rfl
  have a17 : w4.cell? ⟨w1.heap.size, 17, none⟩ = some (.int .u8 0) := RowV.cellK hr4a 17 _ rfl
  have b0 : w4.cell? ⟨w3.heap.size, 0, none⟩ = some (.int .i64 0) := RowV.cellK hr4 0 _ rfl
  have b1 : w4.cell? ⟨w3.heap.size, 1, none⟩ = some (.int .u8 0) := RowV.cellK hr4 1 _ rfl
  have b2 : w4.cell? ⟨w3.heap.size, 2, none⟩ = some (.int .u8 0) := RowV.cellK hr4 2 _ rfl
  have b3 : w4.cell? ⟨w3.heap.size, 3, none⟩ = some (.int .u8 0) := RowV.cellK hr4 3 _ rfl
  have b4 : w4.cell? ⟨w3.heap.size, 4, none⟩ = some (.int .u8 0) := RowV.cellK hr4 4 _ rfl
  have b5 : w4.cell? ⟨w3.heap.size, 5, none⟩ = some (.int .u8 0) := RowV.cellK hr4 5 _ rfl
  have b6 : w4.cell? ⟨w3.heap.size, 6, none⟩ = some (.int .u8 0) := RowV.cellK hr4 6 _ rfl
  have b7 : w4.cell? ⟨w3.heap.size, 7, none⟩ = some (.int .u8 0) := RowV.cellK hr4 7 _ rfl
  have b8 : w4.cell? ⟨w3.heap.size, 8, none⟩ = some (.int .u8 0) := RowV.cellK hr4 8 _ rfl
  have b9 : w4.cell? ⟨w3.heap.size, 9, none⟩ = some (.int .i64 0) := RowV.cellK hr4 9 _ rfl
  have b10 : w4.cell? ⟨w3.heap.size, 10, none⟩ = some (.int .u8 0) := RowV.cellK hr4 10 _ rfl
  have b11 : w4.cell? ⟨w3.heap.size, 11, none⟩ = some (.int .u8 0) := RowV.cellK hr4 11 _ rfl
  have b12 : w4.cell? ⟨w3.heap.size, 12, none⟩ = some (.int .u8 0) := RowV.cellK hr4 12 _ rfl
  have b13 : w4.cell? ⟨w3.heap.size, 13, none⟩ = some (.int .u8 0) := RowV.cellK hr4 13 _ rfl
  have b14 : w4.cell? ⟨w3.heap.size, 14, none⟩ = some (.int .u8 0) := RowV.cellK hr4 14 _ rfl
  have b15 : w4.cell? ⟨w3.heap.size, 15, none⟩ = some (.int .u8 0) := RowV.cellK hr4 15 _ rfl
  have b16 : w4.cell? ⟨w3.heap.size, 16, none⟩ = some (.int .u8 0) := RowV.cellK hr4 16 _ rfl
  have b17 : w4.cell? ⟨w3.heap.size, 17, none⟩ = some (.int .u8 0) := RowV.cellK hr4 17 _ rfl
  have hez : ∀ w, (Op.equalIn 10000 36 (Value.agg #[.int .u8 0, .int .u8 0, .int .u8 0, .int .u8 0, .int .u8 0, .int .u8 0, .int .u8 0, .int .u8 0]) (Value.agg #[.int .u8 0, .int .u8 0, .int .u8 0, .int .u8 0, .int .u8 0, .int .u8 0, .int .u8 0, .int .u8 0])).run Tryz.prog w = .ok true w := fun w => by
    have h := run_equalIn_bytes (P := Tryz.prog) w 9998 36 5 8 Tryz.underlying36 Tryz.underlying5 Tryz.sizeU8 [0, 0, 0, 0, 0, 0, 0, 0] [0, 0, 0, 0, 0, 0, 0, 0] rfl rfl
    rw [beq_self_eq_true] at h
    exact h
  have z13 : w1.heap.size < w4.heap.size := by omega
  have z33 : w3.heap.size < w4.heap.size := by omega
  clear hr4 hr4a hf4 hz4 v1 v2
  go_wp2
  go_ret
  exact ⟨rfl, HST.out⟩
end Go.Proofs.YtekegfbjbainhaaGreat

/- How a script that was handed in is read: each step's cells, its texts' sizes; the steps lie as 'ScriptAt' says. -/
namespace Go.Proofs.YtekegfbjbainhaaGreat
set_option linter.unusedVariables false
set_option linter.unusedSimpArgs false
open Go.ChangeShapes Go.WideShapes Go.ChangeAt Go.RowKit Go.Deep

theorem Tryz.cells40 : Tryz.prog.cellsOf 43 = 24 := by kernel_rfl
theorem Tryz.cellsInt : Tryz.prog.cellsOf 3 = 1 := by kernel_rfl
theorem Tryz.cellsStr : Tryz.prog.cellsOf 9 = 1 := by kernel_rfl
theorem Tryz.cellsU8R : Tryz.prog.cellsOf 5 = 1 := by kernel_rfl
theorem Tryz.cellsDigR : Tryz.prog.cellsOf 36 = 8 := by kernel_rfl
theorem Tryz.cellsPath : Tryz.prog.cellsOf 41 = 1 := by kernel_rfl

theorem list24 {α : Type} (l : List α) (h : l.length = 24) : ∃ c0 c1 c2 c3 c4 c5 c6 c7 c8 c9 c10 c11 c12 c13 c14 c15 c16 c17 c18 c19 c20 c21 c22 c23, l = [c0, c1, c2, c3, c4, c5, c6, c7, c8, c9, c10, c11, c12, c13, c14, c15, c16, c17, c18, c19, c20, c21, c22, c23] := by
  match l, h with
  | [c0, c1, c2, c3, c4, c5, c6, c7, c8, c9, c10, c11, c12, c13, c14, c15, c16, c17, c18, c19, c20, c21, c22, c23], _ => exact ⟨c0, c1, c2, c3, c4, c5, c6, c7, c8, c9, c10, c11, c12, c13, c14, c15, c16, c17, c18, c19, c20, c21, c22, c23, rfl⟩
theorem list10 {α : Type} (l : List α) (h : l.length = 10) : ∃ y0 y1 y2 y3 y4 y5 y6 y7 y8 y9, l = [y0, y1, y2, y3, y4, y5, y6, y7, y8, y9] := by
  match l, h with
  | [y0, y1, y2, y3, y4, y5, y6, y7, y8, y9], _ => exact ⟨y0, y1, y2, y3, y4, y5, y6, y7, y8, y9, rfl⟩


section
variable {H : Type} {enc : TypeId × Value → H} {w : World} {base : Nat} {sp : Nat → Bool} {held : Bool} {fuel : Nat}

theorem u8_of {n : Int} (h : (Lit.int .u8 n).wf = true) : Value.int .u8 n = .int .u8 ((UInt8.ofNat n.toNat).toNat : Int) := by
  have hb := bounds_u8 h
  rw [UInt8.toNat_ofNat_of_lt' (by show n.toNat < 256; omega)]
  congr 1; omega

/-- A digest, opened. -/
theorem open_dig {cs : List Value} {x : DataW H × List MemPlace} (h : DataW.trod enc Tryz.prog w base sp held fuel 36 cs = some x) :
    ∃ d : List UInt8, d.length = 8 ∧ cs = d.map u8c := by
  obtain ⟨xs, m, rfl, rfl, hl, hx, hf⟩ := DataW.trod_array Tryz.underlying36 h
  rw [Tryz.cellsDigR] at hl
  rw [Tryz.cellsU8R] at hf
  refine ⟨cs.map (fun v => UInt8.ofNat (intOf v).toNat), by simp [hl], ?_⟩
  rw [List.map_map]
  conv => lhs; rw [← List.map_id cs]
  apply List.map_congr_left
  intro v hv
  obtain ⟨i, hi, rfl⟩ := List.getElem_of_mem hv
  have h1 := hf i (by omega)
  rw [List.getElem?_eq_getElem (by omega)] at h1
  rw [Nat.mul_one] at h1
  have e1 : (cs.drop i).take 1 = [cs[i]] := by
    rw [List.drop_eq_getElem_cons hi]; rfl
  rw [e1] at h1
  obtain ⟨n, hn, _, hwf⟩ := DataW.trod_int Tryz.underlying5 h1
  have hn' : cs[i] = .int .u8 n := by simpa using hn
  rw [hn']
  exact u8_of hwf

theorem u8at_map (d : List UInt8) (hd : d.length = 8) : d.map u8c = [u8at d 0, u8at d 1, u8at d 2, u8at d 3, u8at d 4, u8at d 5, u8at d 6, u8at d 7] := by
  obtain ⟨z0, z1, z2, z3, z4, z5, z6, z7, rfl⟩ := list8 d hd
  rfl

/-- One step, opened. -/
theorem open_op {cs : List Value} {x : DataW H × List MemPlace} (h : DataW.trod enc Tryz.prog w base sp held fuel 43 cs = some x) :
    ∃ (o : OpR) (dD dE dP : DataW H) (m : Nat) (pP : List MemPlace), cs = o.cells ∧
      x.1 = .agg [.lit (.int .i64 o.kind), .lit (.int .i64 o.a), .lit (.int .i64 o.b), .lit (.int .i64 o.c), .lit (.string o.s.data.toList), .lit (.string o.t.data.toList), .lit (.string o.u.data.toList), dD, dE, dP] ∧
      (Lit.int .i64 o.kind).wf = true ∧ (Lit.int .i64 o.a).wf = true ∧ (Lit.int .i64 o.b).wf = true ∧ (Lit.int .i64 o.c).wf = true ∧ o.d.length = 8 ∧ o.e.length = 8 ∧
      DataW.trod enc Tryz.prog w base sp held m 41 [o.path] = some (dP, pP) := by
  obtain ⟨xs, m, rfl, rfl, hl, hx, hf⟩ := DataW.trod_struct Tryz.underlying43 h
  rw [Tryz.cells40] at hl
  obtain ⟨c0, c1, c2, c3, c4, c5, c6, c7, c8, c9, c10, c11, c12, c13, c14, c15, c16, c17, c18, c19, c20, c21, c22, c23, rfl⟩ := list24 cs hl
  obtain ⟨y0, y1, y2, y3, y4, y5, y6, y7, y8, y9, rfl⟩ := list10 xs hx
  have f0 : DataW.trod enc Tryz.prog w base sp held m 3 (List.take (Tryz.prog.cellsOf 3) (List.drop 0 [c0, c1, c2, c3, c4, c5, c6, c7, c8, c9, c10, c11, c12, c13, c14, c15, c16, c17, c18, c19, c20, c21, c22, c23])) = some y0 := hf 0 _ rfl
  have f1 : DataW.trod enc Tryz.prog w base sp held m 3 (List.take (Tryz.prog.cellsOf 3) (List.drop 1 [c0, c1, c2, c3, c4, c5, c6, c7, c8, c9, c10, c11, c12, c13, c14, c15, c16, c17, c18, c19, c20, c21, c22, c23])) = some y1 := hf 1 _ rfl
  have f2 : DataW.trod enc Tryz.prog w base sp held m 3 (List.take (Tryz.prog.cellsOf 3) (List.drop 2 [c0, c1, c2, c3, c4, c5, c6, c7, c8, c9, c10, c11, c12, c13, c14, c15, c16, c17, c18, c19, c20, c21, c22, c23])) = some y2 := hf 2 _ rfl
  have f3 : DataW.trod enc Tryz.prog w base sp held m 3 (List.take (Tryz.prog.cellsOf 3) (List.drop 3 [c0, c1, c2, c3, c4, c5, c6, c7, c8, c9, c10, c11, c12, c13, c14, c15, c16, c17, c18, c19, c20, c21, c22, c23])) = some y3 := hf 3 _ rfl
  have f4 : DataW.trod enc Tryz.prog w base sp held m 9 (List.take (Tryz.prog.cellsOf 9) (List.drop 4 [c0, c1, c2, c3, c4, c5, c6, c7, c8, c9, c10, c11, c12, c13, c14, c15, c16, c17, c18, c19, c20, c21, c22, c23])) = some y4 := hf 4 _ rfl
  have f5 : DataW.trod enc Tryz.prog w base sp held m 9 (List.take (Tryz.prog.cellsOf 9) (List.drop 5 [c0, c1, c2, c3, c4, c5, c6, c7, c8, c9, c10, c11, c12, c13, c14, c15, c16, c17, c18, c19, c20, c21, c22, c23])) = some y5 := hf 5 _ rfl
  have f6 : DataW.trod enc Tryz.prog w base sp held m 9 (List.take (Tryz.prog.cellsOf 9) (List.drop 6 [c0, c1, c2, c3, c4, c5, c6, c7, c8, c9, c10, c11, c12, c13, c14, c15, c16, c17, c18, c19, c20, c21, c22, c23])) = some y6 := hf 6 _ rfl
  have f7 : DataW.trod enc Tryz.prog w base sp held m 36 (List.take (Tryz.prog.cellsOf 36) (List.drop 7 [c0, c1, c2, c3, c4, c5, c6, c7, c8, c9, c10, c11, c12, c13, c14, c15, c16, c17, c18, c19, c20, c21, c22, c23])) = some y7 := hf 7 _ rfl
  have f8 : DataW.trod enc Tryz.prog w base sp held m 36 (List.take (Tryz.prog.cellsOf 36) (List.drop 15 [c0, c1, c2, c3, c4, c5, c6, c7, c8, c9, c10, c11, c12, c13, c14, c15, c16, c17, c18, c19, c20, c21, c22, c23])) = some y8 := hf 8 _ rfl
  have f9 : DataW.trod enc Tryz.prog w base sp held m 41 (List.take (Tryz.prog.cellsOf 41) (List.drop 23 [c0, c1, c2, c3, c4, c5, c6, c7, c8, c9, c10, c11, c12, c13, c14, c15, c16, c17, c18, c19, c20, c21, c22, c23])) = some y9 := hf 9 _ rfl
  clear hf
  rw [Tryz.cellsInt] at f0 f1 f2 f3
  rw [Tryz.cellsStr] at f4 f5 f6
  rw [Tryz.cellsDigR] at f7 f8
  rw [Tryz.cellsPath] at f9
  obtain ⟨n0, e0, g0, w0⟩ := DataW.trod_int Tryz.underlying3 f0
  obtain ⟨n1, e1, g1, w1⟩ := DataW.trod_int Tryz.underlying3 f1
  obtain ⟨n2, e2, g2, w2⟩ := DataW.trod_int Tryz.underlying3 f2
  obtain ⟨n3, e3, g3, w3⟩ := DataW.trod_int Tryz.underlying3 f3
  obtain ⟨s4, e4, g4, w4⟩ := DataW.trod_string Tryz.underlying9 f4
  obtain ⟨s5, e5, g5, w5⟩ := DataW.trod_string Tryz.underlying9 f5
  obtain ⟨s6, e6, g6, w6⟩ := DataW.trod_string Tryz.underlying9 f6
  obtain ⟨d, hd, e7⟩ := open_dig f7
  obtain ⟨e, he, e8⟩ := open_dig f8
  rw [u8at_map d hd] at e7
  rw [u8at_map e he] at e8
  simp only [List.drop_zero, List.drop_succ_cons, List.take_succ_cons, List.take_zero, List.cons.injEq, and_true] at e0 e1 e2 e3 e4 e5 e6 e7 e8 f9
  subst e0 e1 e2 e3 e4 e5 e6 g0 g1 g2 g3 g4 g5 g6
  obtain ⟨rfl, rfl, rfl, rfl, rfl, rfl, rfl, rfl⟩ := e7
  obtain ⟨rfl, rfl, rfl, rfl, rfl, rfl, rfl, rfl⟩ := e8
  exact ⟨⟨n0, n1, n2, n3, s4, s5, s6, d, e, c23⟩, y7.1, y8.1, y9.1, m, y9.2, rfl, rfl, w0, w1, w2, w3, hd, he, f9⟩

theorem weightsAll_in {P : Program} {e : TypeId} : ∀ {l : List (DataW H)} {d : DataW H}, d ∈ l → ∀ n ∈ d.weights P e, n ∈ DataW.weightsAll P e l
  | d' :: r, d, hd, n, hn => by
    simp only [DataW.weightsAll, List.mem_append]
    rcases List.mem_cons.1 hd with rfl | h
    · exact Or.inl hn
    · exact Or.inr (weightsAll_in h n hn)

theorem cell_lt {W : World} {b o : Nat} {v : Value} (h : W.cell? ⟨b, o, none⟩ = some v) : b < W.heap.size := by
  unfold World.cell? at h
  cases hx : W.heap[b]? with
  | none => simp [hx] at h
  | some c => exact (Array.getElem?_eq_some_iff.1 hx).1

/-- What is asked of a step beside what 'ScriptAt' says: its numbers are ints; its digests have eight bytes; its path can be read. -/
def OpOk (enc : TypeId × Value → H) (W : World) (o : OpR) : Prop :=
  (Lit.int .i64 o.kind).wf = true ∧ (Lit.int .i64 o.a).wf = true ∧ (Lit.int .i64 o.b).wf = true ∧ (Lit.int .i64 o.c).wf = true ∧ o.d.length = 8 ∧ o.e.length = 8 ∧
  ∃ (m : Nat) (d : DataW H) (p : List MemPlace), DataW.trod enc Tryz.prog W 0 (fun _ => true) true m 41 [o.path] = some (d, p) ∧ ∀ n ∈ d.weights Tryz.prog 41, n ≤ reachBytes

set_option maxRecDepth 100000 in
/-- THE SCRIPT, OPENED. -/
theorem open_script {W : World} {a0 : Option Addr} {len cap : Nat} {d0 : DataW H} {p : List MemPlace} (h : DataW.trod enc Tryz.prog W 0 (fun _ => true) true fuel 22 [.slice a0 len cap] = some (d0, p))
    (hsz : ∀ n ∈ d0.weights Tryz.prog 22, n ≤ reachBytes) :
    ∃ f : Nat → OpR, ScriptAt W a0 len f ∧ len ≤ maxLen ∧ ∀ i, i < len → OpOk enc W (f i) := by
  rcases open_slice Tryz.underlying22 h with ⟨hcs, _⟩ | ⟨a, len', cap', m, n, D, Pl, hcs, _, hl, hmx, hm, hx, hel⟩
  · simp only [List.cons.injEq, Value.slice.injEq, and_true] at hcs
    obtain ⟨rfl, rfl, rfl⟩ := hcs
    exact ⟨fun _ => ⟨0, 0, 0, 0, ⟨#[]⟩, ⟨#[]⟩, ⟨#[]⟩, [], [], .slice none 0 0⟩, fun i hi => absurd hi (Nat.not_lt_zero _), Nat.zero_le _, fun i hi => absurd hi (Nat.not_lt_zero _)⟩
  simp only [List.cons.injEq, Value.slice.injEq, and_true] at hcs
  obtain ⟨rfl, rfl, rfl⟩ := hcs
  simp only [Prod.mk.injEq] at hx
  obtain ⟨rfl, rfl⟩ := hx
  rw [Tryz.cells40] at hel
  have hone : ∀ i, i < len → ∃ o : OpR, (∃ b k, a = ⟨b, k, none⟩ ∧ b < W.heap.size ∧ W.rangeAt b (k + i * 24) o.cells) ∧ o.s.size ≤ 140737488351232 ∧ o.t.size ≤ 140737488351232 ∧ o.u.size ≤ 140737488351232 ∧ OpOk enc W o := by
    intro i hi
    obtain ⟨cs', hc, ht⟩ := hel i (by rw [hm]; simp; omega)
    obtain ⟨o, dD, dE, dP, m', pP, rfl, hd, wk, wa, wb, wc, hld, hle, hp⟩ := open_op ht
    have hin : ∀ x ∈ (D i).weights Tryz.prog 43, x ≤ reachBytes := fun x hx => by
      refine hsz x ?_
      simp only [DataW.weights, Tryz.underlying22, List.mem_cons, List.mem_append]
      exact Or.inr (Or.inl (weightsAll_in (List.mem_map.2 ⟨i, List.mem_range.2 hi, rfl⟩) x hx))
    simp only at hd
    rw [hd] at hin
    simp only [DataW.weights, Tryz.underlying43, List.map_cons, List.map_nil, DataW.weightsEach, List.nil_append, List.append_nil, List.mem_append, List.mem_singleton] at hin
    have hr : reachBytes = 140737488351232 := rfl
    have z4 := hin o.s.data.toList.length (by simp)
    have z5 := hin o.t.data.toList.length (by simp)
    have z6 := hin o.u.data.toList.length (by simp)
    rw [hr, Array.length_toList, ByteArray.size_data] at z4 z5 z6
    have hcell : ∀ j v, o.cells[j]? = some v → W.cell? ((a.add (i * 24)).add j) = some v := fun j v hv => by
      unfold World.cells? at hc
      rw [if_pos (Nat.zero_le _)] at hc
      have hj : j < 24 := (List.getElem?_eq_some_iff.1 hv).1
      have := mapM_some_get hc j j (by simp [hj])
      rw [this]; exact hv
    obtain ⟨b, k, sp⟩ := a
    have h0 := hcell 1 (.int .i64 o.a) rfl
    have hs : sp = none := by
      by_cases hi0 : i = 0
      · subst hi0
        have h00 := hcell 0 (.int .i64 o.kind) rfl
        simpa [Addr.add] using World.cell?_spot h00
      · obtain ⟨cs0, hc0, _⟩ := hel 0 (by rw [hm]; simp; omega)
        unfold World.cells? at hc0
        rw [if_pos (Nat.zero_le _)] at hc0
        have h00 := mapM_some_get hc0 0 0 (by simp)
        have hlen := mapM_some_length hc0
        simp at hlen
        rw [List.getElem?_eq_getElem (by omega)] at h00
        simpa [Addr.add] using World.cell?_spot h00
    subst hs
    have hra : W.rangeAt b (k + i * 24) o.cells := fun j v hv => by
      have := hcell j v hv
      rw [addr_add, addr_add] at this
      exact this
    exact ⟨o, ⟨b, k, rfl, cell_lt (hra 0 (.int .i64 o.kind) rfl), hra⟩, z4, z5, z6, wk, wa, wb, wc, hld, hle, m', dP, pP, hp, fun x hx => hin x (by simp [hx])⟩
  obtain ⟨f, hf⟩ := @choose_lt OpR ⟨⟨0, 0, 0, 0, ⟨#[]⟩, ⟨#[]⟩, ⟨#[]⟩, [], [], .slice none 0 0⟩⟩ len _ hone
  refine ⟨f, fun i hi => ?_, by omega, fun i hi => (hf i hi).2.2.2.2⟩
  obtain ⟨⟨b, k, rfl, hb, hra⟩, h4, h5, h6, _⟩ := hf i hi
  exact ⟨b, k, rfl, hb, hra, h4, h5, h6⟩
end
end Go.Proofs.YtekegfbjbainhaaGreat
