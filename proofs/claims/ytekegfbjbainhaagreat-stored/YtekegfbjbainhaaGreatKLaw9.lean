/- A step of Commit when forty stand, walked. -/
import Derived.Test.YtekegfbjbainhaaGreatKJoin16
namespace Go.Proofs.YtekegfbjbainhaaGreat
set_option linter.unusedVariables false
set_option linter.unusedSimpArgs false
open Go.RowKit

set_option maxRecDepth 100000 in
set_option maxHeartbeats 4000000 in
theorem stored_com_full (d : PairD) (cs : List Value) (p : Value) (w : World) (h : PairOk w d) (k0 : cs[0]? = some (.int .i64 5)) (h40 : d.tds.length = 40) :
    Calls Tryz.prog 21 #[p, .agg cs.toArray, .pointer (some ⟨d.pb, 0, none⟩)] w fun e w' => e = .returned (.bool true) ∧ Stepped d w w' := by
  have HA : Hid (Below w.heap.size w (w.alloc (.cells cs.toArray 43))) := (Below.refl _ _).alloc (Nat.le_refl _) _
  have hpb : d.pb < w.heap.size := RowV.lt h.lay.row
  have r0 : w.cell? ⟨d.pb, 0, none⟩ = some (.pointer (some ⟨d.sb, 0, none⟩)) := RowV.cell h.lay.row 0 (by simp)
  have HP0 := h.lay.below HA.out
  have HCM : Hid (Calls _ _ _ _ _) := commit_full d.sb d.N d.en d.tr d.mp d.es d.xs d.its d.tds _ HP0.sto h40
  go_enter Tryz.func21, Tryz.ntmps21
  go_wp2_with fail
  refine HCM.out.mono ?_
  rintro e w1 ⟨rfl, hb1⟩
  have HB1 : Hid (Below w.heap.size w w1) := HA.out.trans (hb1.mono (by simp))
  have z1 := hb1.size
  simp only [World.size_alloc] at z1
  have HZ1 : Hid (RowV (w1.alloc (.cells #[.int .i64 0, .int .u8 0, .int .u8 0, .int .u8 0, .int .u8 0, .int .u8 0, .int .u8 0, .int .u8 0, .int .u8 0, .int .i64 0, .int .u8 0, .int .u8 0, .int .u8 0, .int .u8 0, .int .u8 0, .int .u8 0, .int .u8 0, .int .u8 0] 103)) w1.heap.size 103 zero18) := RowV.new w1 _ _
  have HB2f : Hid (∀ w2, Frame (fun k => k = w1.heap.size) (w1.alloc (.cells #[.int .i64 0, .int .u8 0, .int .u8 0, .int .u8 0, .int .u8 0, .int .u8 0, .int .u8 0, .int .u8 0, .int .u8 0, .int .i64 0, .int .u8 0, .int .u8 0, .int .u8 0, .int .u8 0, .int .u8 0, .int .u8 0, .int .u8 0, .int .u8 0] 103)) w2 → Below w.heap.size w w2) := fun w2 hf =>
    (HB1.out.alloc (by omega) _).trans (hf.below (by simp; omega) (fun k hk => by omega))
  have HR1 : Hid (∀ W, Below w.heap.size w W → W.cell? ⟨d.pb, 1, none⟩ = some (.pointer (some ⟨d.rb, 0, none⟩))) := fun W hb => RowV.cellK (h.lay.below hb).row 1 _ rfl
  clear hb1 HP0 r0 HCM
  go_wp2_with (refine wp_storeR (by rfl) 103 (.tmp 17) (.tmp 113) (by rfl) w1.heap.size (by rfl) zero18 (by rfl) HZ1.out rfl Tryz.sizeCommit zero18_one ?_; intro w2 hr2 hf2 hz2; have hb2 := HB2f.out _ hf2; have r1 : w2.cell? ⟨d.pb, 1, none⟩ = some (.pointer (some ⟨d.rb, 0, none⟩)) := HR1.out _ hb2)
  simp only [World.size_alloc] at hz2
  refine (refCommit_full d.rb 0 d.now d.past d.roots d.nl d.pastL d.rl w2 (h.lay.below hb2).ref (by rw [h.rl]; simpa using h40)).mono ?_
  rintro e w3 ⟨rfl, hb3⟩
  have z3 := hb3.size
  have hr3 := hr2.below hr2.lt hb3
  have HB3 : Hid (Below w.heap.size w w3) := hb2.trans (hb3.mono (by omega))
  have HZ3 : Hid (RowV (w3.alloc (.cells #[.int .i64 0, .int .u8 0, .int .u8 0, .int .u8 0, .int .u8 0, .int .u8 0, .int .u8 0, .int .u8 0, .int .u8 0, .int .i64 0, .int .u8 0, .int .u8 0, .int .u8 0, .int .u8 0, .int .u8 0, .int .u8 0, .int .u8 0, .int .u8 0] 103)) w3.heap.size 103 zero18) := RowV.new w3 _ _
  have HR3 : Hid (RowV w3 w1.heap.size 103 zero18) := hr3
  have HZZ : Hid (w.heap.size + 1 ≤ w1.heap.size ∧ w1.heap.size < w3.heap.size) := ⟨by omega, by omega⟩
  clear hb3 hr2 hf2 hz2 hb2 r1 HB2f HR1 HZ1 hr3 z1 z3
  go_upto_region 20 with (refine wp_storeR (by rfl) 103 (.tmp 19) (.tmp 121) (by rfl) w3.heap.size (by rfl) zero18 (by rfl) HZ3.out rfl Tryz.sizeCommit zero18_one ?_; intro w4 hr4 hf4 hz4)
  simp only [World.size_alloc] at hz4
  obtain ⟨v1, v2⟩ := HZZ.out
  have hr4a : RowV w4 w1.heap.size 103 zero18 := (RowV.alloc (w := w3) HR3.out _).of_block (hf4.block _ (by simp; omega) (by omega))
  have HB4 : Hid (Below w.heap.size w w4) := (HB3.out.alloc (by omega) _).trans (hf4.below (by simp; omega) (fun k hk => by omega))
  have HST : Hid (Stepped d w w4) := Stepped.mk ⟨h.lay.below HB4.out, h.nl, h.rl, h.pl, h.dl, h.t40, h.cnt, h.pst, h.dc⟩ rfl (Frame.of_below_all HB4.out) (fun k hk _ => hk)
  have a0 : w4.cell? ⟨w1.heap.size, 0, none⟩ = some (.int .i64 0) := RowV.cellK hr4a 0 _ rfl
  have a1 : w4.cell? ⟨w1.heap.size, 1, none⟩ = some (.int .u8 0) := RowV.cellK hr4a 1 _ rfl
  have a2 : w4.cell? ⟨w1.heap.size, 2, none⟩ = some (.int .u8 0) := RowV.cellK hr4a 2 _ rfl
  have a3 : w4.cell? ⟨w1.heap.size, 3, none⟩ = some (.int .u8 0) := RowV.cellK hr4a 3 _ rfl
  have a4 : w4.cell? ⟨w1.heap.size, 4, none⟩ = some (.int .u8 0) := RowV.cellK hr4a 4 _ rfl
  have a5 : w4.cell? ⟨w1.heap.size, 5, none⟩ = some (.int .u8 0) := RowV.cellK hr4a 5 _ rfl
  have a6 : w4.cell? ⟨w1.heap.size, 6, none⟩ = some (.int .u8 0) := RowV.cellK hr4a 6 _ rfl
  have a7 : w4.cell? ⟨w1.heap.size, 7, none⟩ = some (.int .u8 0) := RowV.cellK hr4a 7 _ rfl
  have a8 : w4.cell? ⟨w1.heap.size, 8, none⟩ = some (.int .u8 0) := RowV.cellK hr4a 8 _ rfl
  have a9 : w4.cell? ⟨w1.heap.size, 9, none⟩ = some (.int .i64 0) := RowV.cellK hr4a 9 _ rfl
  have a10 : w4.cell? ⟨w1.heap.size, 10, none⟩ = some (.int .u8 0) := RowV.cellK hr4a 10 _ rfl
  have a11 : w4.cell? ⟨w1.heap.size, 11, none⟩ = some (.int .u8 0) := RowV.cellK hr4a 11 _ rfl
  have a12 : w4.cell? ⟨w1.heap.size, 12, none⟩ = some (.int .u8 0) := RowV.cellK hr4a 12 _ rfl
  have a13 : w4.cell? ⟨w1.heap.size, 13, none⟩ = some (.int .u8 0) := RowV.cellK hr4a 13 _ rfl
  have a14 : w4.cell? ⟨w1.heap.size, 14, none⟩ = some (.int .u8 0) := RowV.cellK hr4a 14 _ rfl
  have a15 : w4.cell? ⟨w1.heap.size, 15, none⟩ = some (.int .u8 0) := RowV.cellK hr4a 15 _ rfl
  have a16 : w4.cell? ⟨w1.heap.size, 16, none⟩ = some (.int .u8 0) := RowV.cellK hr4a 16 _ rfl
  have a17 : w4.cell? ⟨w1.heap.size, 17, none⟩ = some (.int .u8 0) := RowV.cellK hr4a 17 _ rfl
  have b0 : w4.cell? ⟨w3.heap.size, 0, none⟩ = some (.int .i64 0) := RowV.cellK hr4 0 _ rfl
  have b1 : w4.cell? ⟨w3.heap.size, 1, none⟩ = some (.int .u8 0) := RowV.cellK hr4 1 _ rfl
  have b2 : w4.cell? ⟨w3.heap.size, 2, none⟩ = some (.int .u8 0) := RowV.cellK hr4 2 _ rfl
  have b3 : w4.cell? ⟨w3.heap.size, 3, none⟩ = some (.int .u8 0) := RowV.cellK hr4 3 _ rfl
  have b4 : w4.cell? ⟨w3.heap.size, 4, none⟩ = some (.int .u8 0) := RowV.cellK hr4 4 _ rfl
  have b5 : w4.cell? ⟨w3.heap.size, 5, none⟩ = some (.int .u8 0) := RowV.cellK hr4 5 _ rfl
  have b6 : w4.cell? ⟨w3.heap.size, 6, none⟩ = some (.int .u8 0) := RowV.cellK hr4 6 _ rfl
  have b7 : w4.cell? ⟨w3.heap.size, 7, none⟩ = some (.int .u8 0) := RowV.cellK hr4 7 _ rfl
  have b8 : w4.cell? ⟨w3.heap.size, 8, none⟩ = some (.int .u8 0) := RowV.cellK hr4 8 _ rfl
  have b9 : w4.cell? ⟨w3.heap.size, 9, none⟩ = some (.int .i64 0) := RowV.cellK hr4 9 _ rfl
  have b10 : w4.cell? ⟨w3.heap.size, 10, none⟩ = some (.int .u8 0) := RowV.cellK hr4 10 _ rfl
  have b11 : w4.cell? ⟨w3.heap.size, 11, none⟩ = some (.int .u8 0) := RowV.cellK hr4 11 _ rfl
  have b12 : w4.cell? ⟨w3.heap.size, 12, none⟩ = some (.int .u8 0) := RowV.cellK hr4 12 _ rfl
  have b13 : w4.cell? ⟨w3.heap.size, 13, none⟩ = some (.int .u8 0) := RowV.cellK hr4 13 _ rfl
  have b14 : w4.cell? ⟨w3.heap.size, 14, none⟩ = some (.int .u8 0) := RowV.cellK hr4 14 _ rfl
  have b15 : w4.cell? ⟨w3.heap.size, 15, none⟩ = some (.int .u8 0) := RowV.cellK hr4 15 _ rfl
  have b16 : w4.cell? ⟨w3.heap.size, 16, none⟩ = some (.int .u8 0) := RowV.cellK hr4 16 _ rfl
  have b17 : w4.cell? ⟨w3.heap.size, 17, none⟩ = some (.int .u8 0) := RowV.cellK hr4 17 _ rfl
  have hez : ∀ w, (Op.equalIn 10000 36 (Value.agg #[.int .u8 0, .int .u8 0, .int .u8 0, .int .u8 0, .int .u8 0, .int .u8 0, .int .u8 0, .int .u8 0]) (Value.agg #[.int .u8 0, .int .u8 0, .int .u8 0, .int .u8 0, .int .u8 0, .int .u8 0, .int .u8 0, .int .u8 0])).run Tryz.prog w = .ok true w := fun w => by
    have h := run_equalIn_bytes (P := Tryz.prog) w 9998 36 5 8 Tryz.underlying36 Tryz.underlying5 Tryz.sizeU8 [0, 0, 0, 0, 0, 0, 0, 0] [0, 0, 0, 0, 0, 0, 0, 0] rfl rfl
    rw [beq_self_eq_true] at h
    exact h
  have z13 : w1.heap.size < w4.heap.size := by omega
  have z33 : w3.heap.size < w4.heap.size := by omega
  clear hr4 hr4a hf4 hz4 v1 v2
  go_wp2
  go_ret
  exact ⟨rfl, HST.out⟩
end Go.Proofs.YtekegfbjbainhaaGreat
