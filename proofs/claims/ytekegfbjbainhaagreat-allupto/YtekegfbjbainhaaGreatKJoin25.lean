import Derived.Test.YtekegfbjbainhaaGreatKJoin24
import Derived.Test.YtekegfbjbainhaaGreatKJoin22
import Derived.Deep.RegionWith
import Derived.Deep.DeepCutAuto
set_option linter.unusedVariables false
set_option linter.unusedSimpArgs false

namespace Go.Proofs.YtekegfbjbainhaaGreat
open Go.RowKit
attribute [local go_sem ↓] Go.wp_at_zero Go.wp_at_succ
def pgP (w : World) (K : Nat → Prop) (rb : Nat) (o : Option ((Nat × List ItR) × List UInt8)) (e : Ending) (w' : World) : Prop :=
 Frame (fun k => k = rb) w w' ∧ match o with
  | none => e = pkE
  | some ((lv, its), r) => ∃ (cur : SlR) (xs : List EnP), e = .returned (.agg #[.int .i64 (lv : Int), cur.val]) ∧ EnsL lv w' K w.heap.size cur xs its ∧ RdP w' K rb r
theorem pgO_two (x y : UInt8) (l : List UInt8) (d : List UInt8) : pgO (some (x :: y :: l)) d = match takeR (256 * x.toNat + y.toNat) (some l) with
  | none => none
  | some r => match pageF (takeB (256 * x.toNat + y.toNat) (some l)) with
   | none => none
   | some p => if digB (takeB (256 * x.toNat + y.toNat) (some l)) = d then some (p, r) else none := by
 have e1 : takeR 1 (some (x :: y :: l)) = some (y :: l) := by show (if 1 ≤ (x :: y :: l).length then some ((x :: y :: l).drop 1) else none) = _; rw [if_pos (by simp)]; rfl
 have e2 : takeR 1 (some (y :: l)) = some l := by show (if 1 ≤ (y :: l).length then some ((y :: l).drop 1) else none) = _; rw [if_pos (by simp)]; rfl
 have e3 : pgN (some (x :: y :: l)) = 256 * x.toNat + y.toNat := by unfold pgN; rw [e1]; rfl
 have e4 : pgB (some (x :: y :: l)) = takeB (256 * x.toNat + y.toNat) (some l) := by unfold pgB; rw [e3, e1, e2]
 unfold pgO
 rw [e3, e4, e1, e2]
 cases takeR (256 * x.toNat + y.toNat) (some l) with
 | none => rfl
 | some r =>
  cases pageF (takeB (256 * x.toNat + y.toNat) (some l)) with
  | none => rfl
  | some p => rfl
set_option maxRecDepth 100000 in
set_option maxHeartbeats 8000000 in
theorem pageP_any (K : Nat → Prop) (rb : Nat) (l d : List UInt8) (w : World) (h : RdP w K rb l) (hK : ∀ k, K k → k < w.heap.size) (hd : d.length = 8) :
  Calls Tryz.prog 104 #[.pointer (some ⟨rb, 0, none⟩), dV d] w (pgP w K rb (pgO (some l) d)) := by
 obtain ⟨d0, d1, d2, d3, d4, d5, d6, d7, rfl⟩ := list8 d hd
 have hdv : dV [d0, d1, d2, d3, d4, d5, d6, d7] = .agg #[.int .u8 (d0.toNat : Int), .int .u8 (d1.toNat : Int), .int .u8 (d2.toNat : Int), .int .u8 (d3.toNat : Int), .int .u8 (d4.toNat : Int), .int .u8 (d5.toNat : Int), .int .u8 (d6.toNat : Int), .int .u8 (d7.toNat : Int)] := rfl
 rw [hdv]
 have hA : Below w.heap.size w ((w.alloc (.cells #[.int .u8 (d0.toNat : Int), .int .u8 (d1.toNat : Int), .int .u8 (d2.toNat : Int), .int .u8 (d3.toNat : Int), .int .u8 (d4.toNat : Int), .int .u8 (d5.toNat : Int), .int .u8 (d6.toNat : Int), .int .u8 (d7.toNat : Int)] 36)).alloc (.cells #[.int .i64 0, .slice none 0 0] 171)) := ((Below.refl _ _).alloc (Nat.le_refl _) _).alloc (by simp) _
 have HD0 : Hid (RowV ((w.alloc (.cells #[.int .u8 (d0.toNat : Int), .int .u8 (d1.toNat : Int), .int .u8 (d2.toNat : Int), .int .u8 (d3.toNat : Int), .int .u8 (d4.toNat : Int), .int .u8 (d5.toNat : Int), .int .u8 (d6.toNat : Int), .int .u8 (d7.toNat : Int)] 36)).alloc (.cells #[.int .i64 0, .slice none 0 0] 171)) w.heap.size 36 ([d0, d1, d2, d3, d4, d5, d6, d7].map u8c)) := (RowV.new w 36 ([d0, d1, d2, d3, d4, d5, d6, d7].map u8c)).alloc _
 have HP0 : Hid (RowV ((w.alloc (.cells #[.int .u8 (d0.toNat : Int), .int .u8 (d1.toNat : Int), .int .u8 (d2.toNat : Int), .int .u8 (d3.toNat : Int), .int .u8 (d4.toNat : Int), .int .u8 (d5.toNat : Int), .int .u8 (d6.toNat : Int), .int .u8 (d7.toNat : Int)] 36)).alloc (.cells #[.int .i64 0, .slice none 0 0] 171)) (w.heap.size + 1) 171 [.int .i64 0, .slice none 0 0]) := RowV.new_at _ _ _ _ (by simp)
 have hrb := h.lt
 have hrd := h.below hA
 have HK : Hid (∀ k, K k → k < w.heap.size) := hK
 have HB0 : Hid (Below w.heap.size w _) := hA
 have HWZ : Hid (((w.alloc (.cells #[.int .u8 (d0.toNat : Int), .int .u8 (d1.toNat : Int), .int .u8 (d2.toNat : Int), .int .u8 (d3.toNat : Int), .int .u8 (d4.toNat : Int), .int .u8 (d5.toNat : Int), .int .u8 (d6.toNat : Int), .int .u8 (d7.toNat : Int)] 36)).alloc (.cells #[.int .i64 0, .slice none 0 0] 171)).heap.size = w.heap.size + 2) := by unfold Hid; simp
 clear h hK hd hdv hA
 go_enter Tryz.func104, Tryz.ntmps104
 go_upto_region 1 with fail
 generalize (w.alloc (.cells #[.int .u8 (d0.toNat : Int), .int .u8 (d1.toNat : Int), .int .u8 (d2.toNat : Int), .int .u8 (d3.toNat : Int), .int .u8 (d4.toNat : Int), .int .u8 (d5.toNat : Int), .int .u8 (d6.toNat : Int), .int .u8 (d7.toNat : Int)] 36)).alloc (.cells #[.int .i64 0, .slice none 0 0] 171) = W at *
 have HF0 : Hid (Frame (fun k => k = rb) w W) := Frame.of_below_all HB0.out
 by_cases h2 : 2 ≤ l.length
 ·obtain ⟨x, y, l2, rfl⟩ : ∃ x y l2, l = x :: y :: l2 := by
   match l, h2 with
   | x :: y :: l2, _ => exact ⟨x, y, l2, rfl⟩
  have HT : Hid (Calls _ _ _ _ _) := take_yes K rb 2 (x :: y :: l2) W hrd h2
  have HTWO : Hid (pgO (some (x :: y :: l2)) [d0, d1, d2, d3, d4, d5, d6, d7] = _) := pgO_two x y l2 [d0, d1, d2, d3, d4, d5, d6, d7]
  go_wp2_with fail
  refine HT.out.mono ?_
  rintro e w1 ⟨s1, rfl, hf1, hz1, hs1, hc1, hr1⟩
  have hn1 : s1.n = 2 := by have := hs1.bs.n; simpa using this
  obtain ⟨bb, oo, hca, hbb, g0⟩ := hs1.bs.sl 0 (by simp)
  obtain ⟨bb', oo', hca', hbb', g1⟩ := hs1.bs.sl 1 (by simp)
  rw [hca] at hca'; cases hca'
  have g0' : w1.cell? ⟨bb, oo, none⟩ = some (.int .u8 (x.toNat : Int)) := g0
  have g1' : w1.cell? ⟨bb, oo + 1, none⟩ = some (.int .u8 (y.toNat : Int)) := g1
  have HF1 : Hid (Frame (fun k => k = rb) w w1) := HF0.out.trans hf1
  have HD1 : Hid (RowV w1 w.heap.size 36 ([d0, d1, d2, d3, d4, d5, d6, d7].map u8c)) := RowV.of_block HD0.out (hf1.block _ HD0.out.lt (by omega))
  have HP1 : Hid (RowV w1 (w.heap.size + 1) 171 [.int .i64 0, .slice none 0 0]) := RowV.of_block HP0.out (hf1.block _ HP0.out.lt (by omega))
  have HR1 : Hid (RdP w1 K rb l2) := hr1
  have hxl := x.toNat_lt
  have hyl := y.toNat_lt
  have HT2 : Hid (Calls _ _ _ _ _) := takeP_any K rb (256 * x.toNat + y.toNat) l2 w1.drew (hr1.below ((Below.refl _ _).drew))
  generalize x.toNat = xn at *
  generalize y.toNat = yn at *
  obtain ⟨sa, sn, sc⟩ := s1
  simp only at hca hn1
  subst hca; subst hn1
  clear HT hf1 hz1 hs1 hc1 hr1 g0 g1 hbb hbb' hrd HD0 HP0
  unfold SlR.val
  go_upto_region 2 with fail
  have hwr : IntKind.i64.wrap (IntKind.i64.wrap (IntKind.i64.wrap (xn : Int) * 256) + IntKind.i64.wrap (yn : Int)) = ((256 * xn + yn : Nat) : Int) := by simp only [IntKind.wrap_i64]; omega
  have HF1d : Hid (Frame (fun k => k = rb) w w1.drew) := HF1.out.drew
  have HR1d : Hid (RdP w1.drew K rb l2) := HR1.out.below ((Below.refl _ _).drew)
  have HNB : Hid (256 * xn + yn ≤ 100000) := by unfold Hid; omega
  have HD1d : Hid (RowV w1.drew w.heap.size 36 ([d0, d1, d2, d3, d4, d5, d6, d7].map u8c)) := RowV.of_block HD1.out rfl
  have HP1d : Hid (RowV w1.drew (w.heap.size + 1) 171 [.int .i64 0, .slice none 0 0]) := RowV.of_block HP1.out rfl
  rw [← hwr] at HT2
  have HNE : Hid (pgO (some (x :: y :: l2)) [d0, d1, d2, d3, d4, d5, d6, d7] = match takeR (256 * xn + yn) (some l2) with
   | none => none
   | some r => match pageF (takeB (256 * xn + yn) (some l2)) with
    | none => none
    | some p => if digB (takeB (256 * xn + yn) (some l2)) = [d0, d1, d2, d3, d4, d5, d6, d7] then some (p, r) else none) := HTWO.out
  clear HTWO
  clear hwr
  go_cut [6] (fun bv wx => ∃ (s2 : SlR) (r : List UInt8), bv = .slice s2.a s2.n s2.cap ∧ Hid (Frame (fun k => k = rb) w wx) ∧ Hid (SubS wx K s2 (takeB (256 * xn + yn) (some l2))) ∧ Hid (RdP wx K rb r) ∧ Hid (takeR (256 * xn + yn) (some l2) = some r) ∧ Hid (RowV wx w.heap.size 36 ([d0, d1, d2, d3, d4, d5, d6, d7].map u8c)) ∧ Hid (RowV wx (w.heap.size + 1) 171 [.int .i64 0, .slice none 0 0]))
  case first =>
   go_region_with (go_at_call 133; refine HT2.out.mono ?_; rintro e w2 ⟨hf2, hz2, hm⟩; cases h3 : takeR (256 * xn + yn) (some l2); (rw [h3] at hm; obtain rfl : e = pkE := hm; unfold pkE; refine ⟨rfl, HF1d.out.trans hf2, ?_⟩; rw [HNE.out, h3]; rfl); (rename_i r; rw [h3] at hm; obtain ⟨s2, rfl, hs2, hr2⟩ := hm; unfold SlR.val))
   all_goals
    go_wp2_with fail
    go_meet
    case rel => exact ⟨s2, r, rfl, HF1d.out.trans hf2, hs2, hr2, h3, RowV.of_block HD1d.out (hf2.block _ HD1d.out.lt (by omega)), RowV.of_block HP1d.out (hf2.block _ HP1d.out.lt (by omega))⟩
  case rest =>
   obtain ⟨s2, r, rfl, HF2, HS2, HR2, H3, HD2, HP2⟩ := hcut
   rw [H3.out] at HNE
   have HBL : Hid ((takeB (256 * xn + yn) (some l2)).length ≤ 100000) := Nat.le_trans (takeB_length _ _) HNB.out
   generalize takeB (256 * xn + yn) (some l2) = b at *
   clear HT2 HF1d HR1d HD1d HP1d g0' g1' HF1 HD1 HP1 HR1 H3 HNB
   have HF2d : Hid (Frame (fun k => k = rb) w wc.drew) := HF2.out.drew
   have HD2d : Hid (RowV wc.drew w.heap.size 36 ([d0, d1, d2, d3, d4, d5, d6, d7].map u8c)) := RowV.of_block HD2.out rfl
   have HP2d : Hid (RowV wc.drew (w.heap.size + 1) 171 [.int .i64 0, .slice none 0 0]) := RowV.of_block HP2.out rfl
   have HS2d : Hid (SubS wc.drew K s2 b) := HS2.out.below ((Below.refl _ _).drew)
   have HR2d : Hid (RdP wc.drew K rb r) := HR2.out.below ((Below.refl _ _).drew)
   have HOF : Hid (Calls _ _ _ _ _) := ofB_any s2.a s2.n s2.cap b wc.drew HS2d.out.bs.n (by have := HBL.out; unfold maxLen; omega) HS2d.out.bs.sl
   obtain ⟨x0, x1, x2, x3, x4, x5, x6, x7, hdd⟩ := list8 (digB b) rfl
   have HV : Hid (digV b = .agg #[.int .u8 (x0.toNat : Int), .int .u8 (x1.toNat : Int), .int .u8 (x2.toNat : Int), .int .u8 (x3.toNat : Int), .int .u8 (x4.toNat : Int), .int .u8 (x5.toNat : Int), .int .u8 (x6.toNat : Int), .int .u8 (x7.toNat : Int)]) := by unfold Hid; rw [digV_eq, hdd]; rfl
   rw [HV.out] at HOF
   obtain ⟨eqv, heqv⟩ : ∃ eqv, eqv = (digB b == [d0, d1, d2, d3, d4, d5, d6, d7]) := ⟨_, rfl⟩
   have HEQV : Hid (eqv = (digB b == [d0, d1, d2, d3, d4, d5, d6, d7])) := heqv
   have heq : ∀ W, (Op.equalIn 10000 36 (Value.agg #[.int .u8 (x0.toNat : Int), .int .u8 (x1.toNat : Int), .int .u8 (x2.toNat : Int), .int .u8 (x3.toNat : Int), .int .u8 (x4.toNat : Int), .int .u8 (x5.toNat : Int), .int .u8 (x6.toNat : Int), .int .u8 (x7.toNat : Int)]) (Value.agg #[.int .u8 (d0.toNat : Int), .int .u8 (d1.toNat : Int), .int .u8 (d2.toNat : Int), .int .u8 (d3.toNat : Int), .int .u8 (d4.toNat : Int), .int .u8 (d5.toNat : Int), .int .u8 (d6.toNat : Int), .int .u8 (d7.toNat : Int)])).run Tryz.prog W = .ok eqv W := fun W => by
    have h := run_equalIn_bytes (P := Tryz.prog) W 9998 36 5 8 Tryz.underlying36 Tryz.underlying5 Tryz.sizeU8 (digB b) [d0, d1, d2, d3, d4, d5, d6, d7] rfl rfl
    rw [← heqv, hdd] at h
    exact h
   have k0 : wc.drew.cell? ⟨w.heap.size, 0, none⟩ = some (.int .u8 (d0.toNat : Int)) := RowV.cell HD2d.out 0 (by simp)
   have k1 : wc.drew.cell? ⟨w.heap.size, 1, none⟩ = some (.int .u8 (d1.toNat : Int)) := RowV.cell HD2d.out 1 (by simp)
   have k2 : wc.drew.cell? ⟨w.heap.size, 2, none⟩ = some (.int .u8 (d2.toNat : Int)) := RowV.cell HD2d.out 2 (by simp)
   have k3 : wc.drew.cell? ⟨w.heap.size, 3, none⟩ = some (.int .u8 (d3.toNat : Int)) := RowV.cell HD2d.out 3 (by simp)
   have k4 : wc.drew.cell? ⟨w.heap.size, 4, none⟩ = some (.int .u8 (d4.toNat : Int)) := RowV.cell HD2d.out 4 (by simp)
   have k5 : wc.drew.cell? ⟨w.heap.size, 5, none⟩ = some (.int .u8 (d5.toNat : Int)) := RowV.cell HD2d.out 5 (by simp)
   have k6 : wc.drew.cell? ⟨w.heap.size, 6, none⟩ = some (.int .u8 (d6.toNat : Int)) := RowV.cell HD2d.out 6 (by simp)
   have k7 : wc.drew.cell? ⟨w.heap.size, 7, none⟩ = some (.int .u8 (d7.toNat : Int)) := RowV.cell HD2d.out 7 (by simp)
   clear hdd heqv
   unfold SlR.val at *
   go_upto_region 3 with fail
   go_cut [] (fun wx => Hid (Below wc.drew.heap.size wc.drew wx) ∧ Hid (digB b = [d0, d1, d2, d3, d4, d5, d6, d7]))
   case first =>
    go_region_with (first
     | (go_at_call 67; refine HOF.out.mono ?_; rintro e w3 ⟨rfl, hb3⟩; have hd3 := RowV.below HD2d.out HD2d.out.lt hb3; have k0 : w3.cell? ⟨w.heap.size, 0, none⟩ = some (.int .u8 (d0.toNat : Int)) := RowV.cell hd3 0 (by simp); have k1 : w3.cell? ⟨w.heap.size, 1, none⟩ = some (.int .u8 (d1.toNat : Int)) := RowV.cell hd3 1 (by simp); have k2 : w3.cell? ⟨w.heap.size, 2, none⟩ = some (.int .u8 (d2.toNat : Int)) := RowV.cell hd3 2 (by simp); have k3 : w3.cell? ⟨w.heap.size, 3, none⟩ = some (.int .u8 (d3.toNat : Int)) := RowV.cell hd3 3 (by simp); have k4 : w3.cell? ⟨w.heap.size, 4, none⟩ = some (.int .u8 (d4.toNat : Int)) := RowV.cell hd3 4 (by simp); have k5 : w3.cell? ⟨w.heap.size, 5, none⟩ = some (.int .u8 (d5.toNat : Int)) := RowV.cell hd3 5 (by simp); have k6 : w3.cell? ⟨w.heap.size, 6, none⟩ = some (.int .u8 (d6.toNat : Int)) := RowV.cell hd3 6 (by simp); have k7 : w3.cell? ⟨w.heap.size, 7, none⟩ = some (.int .u8 (d7.toNat : Int)) := RowV.cell hd3 7 (by simp); clear hd3)
     | (go_at_call 132; cases hev : eqv; (refine (must_no _).mono ?_; rintro e w4 ⟨rfl, hw4⟩; subst hw4; unfold pkE; refine ⟨rfl, HF2d.out.trans (Frame.of_below_all hb3), ?_⟩; have hne : digB b ≠ [d0, d1, d2, d3, d4, d5, d6, d7] := (fun h => by have h2 := HEQV.out; rw [hev, h] at h2; simp at h2); have hpo : pgO (some (x :: y :: l2)) [d0, d1, d2, d3, d4, d5, d6, d7] = none := (by rw [HNE.out]; cases hpf : pageF b; rfl; simp only [if_neg hne]); rw [hpo]; rfl); (refine (must_yes _).mono ?_; rintro e w4 ⟨rfl, hw4⟩; subst hw4)))
    all_goals
     go_wp2_with fail
     go_meet
     case rel => exact ⟨hb3, by unfold Hid; have h2 := HEQV.out; rw [hev] at h2; simpa using h2.symm⟩
   case rest =>
    obtain ⟨HB5, HDE⟩ := hcut
    clear k0 k1 k2 k3 k4 k5 k6 k7 heq HOF
    have HS5 : Hid (SubS wc K s2 b) := HS2d.out.below HB5.out
    have HR5 : Hid (RdP wc K rb r) := HR2d.out.below HB5.out
    have HF5 : Hid (Frame (fun k => k = rb) w wc) := HF2d.out.trans (Frame.of_below_all HB5.out)
    have HP5 : Hid (RowV wc (w.heap.size + 1) 171 [.int .i64 0, .slice none 0 0]) := RowV.below HP2d.out HP2d.out.lt HB5.out
    have hkz : ∀ k, K k → k < wc.heap.size := fun k hk => Nat.lt_of_lt_of_le (HK.out k hk) HF5.out.size
    have HPO : Hid (Calls _ _ _ _ _) := pageOf_any K s2 b wc HS5.out hkz
    have HNF : Hid (pgO (some (x :: y :: l2)) [d0, d1, d2, d3, d4, d5, d6, d7] = match pageF b with
      | none => none
      | some p => some (p, r)) := by
     unfold Hid; rw [HNE.out]
     cases pageF b with
     | none => rfl
     | some p => simp only [if_pos HDE.out]
    clear HF2d HD2d HP2d HS2d HR2d HNE hkz
    go_wp2_with fail
    refine HPO.out.mono ?_
    rintro e w6 ⟨hb6, hm⟩
    have HF6 : Hid (Frame (fun k => k = rb) w w6) := HF5.out.inside (Frame.of_below hb6) (fun q hq e => by have := HF5.out.size; omega)
    have HP6 : Hid (RowV w6 (w.heap.size + 1) 171 [.int .i64 0, .slice none 0 0]) := RowV.below HP5.out HP5.out.lt hb6
    have HR6 : Hid (RdP w6 K rb r) := HR5.out.below hb6
    cases hpf : pageF b with
    | none =>
     rw [hpf] at hm
     obtain rfl : e = pkE := hm
     have HX : Hid (pgO (some (x :: y :: l2)) [d0, d1, d2, d3, d4, d5, d6, d7] = none) := by unfold Hid; rw [HNF.out, hpf]
     unfold pkE
     go_wp2
     refine ⟨rfl, HF6.out, ?_⟩
     rw [HX.out]; rfl
    | some p =>
     obtain ⟨lv, its⟩ := p
     rw [hpf] at hm
     obtain ⟨cur, xs, rfl, hens⟩ := hm
     have HX : Hid (pgO (some (x :: y :: l2)) [d0, d1, d2, d3, d4, d5, d6, d7] = some ((lv, its), r)) := by unfold Hid; rw [HNF.out, hpf]
     have HEN : Hid (EnsL lv w6 K wc.heap.size cur xs its) := hens
     have p0 := HP6.out.cell 0 (by simp)
     have p1 := HP6.out.cell 1 (by simp)
     have fp0 := HP6.out.frozen 0
     have fp1 := HP6.out.frozen 1
     simp only [List.getElem_cons_zero, List.getElem_cons_succ] at p0 p1
     clear hens hb6 hpf
     unfold SlR.val
     go_wp2
     have hft : Frame (fun k => k = w.heap.size + 1) w6 ((w6.setCell ⟨w.heap.size + 1, 0, none⟩ (.int .i64 (lv : Int))).setCell ⟨w.heap.size + 1, 1, none⟩ (.slice cur.a cur.n cur.cap)) := ((Frame.refl (fun k => k = w.heap.size + 1) w6).setCell (p := ⟨w.heap.size + 1, 0, none⟩) rfl _).setCell (p := ⟨w.heap.size + 1, 1, none⟩) rfl _
     have hrow : RowV ((w6.setCell ⟨w.heap.size + 1, 0, none⟩ (.int .i64 (lv : Int))).setCell ⟨w.heap.size + 1, 1, none⟩ (.slice cur.a cur.n cur.cap)) (w.heap.size + 1) 171 [.int .i64 (lv : Int), .slice cur.a cur.n cur.cap] := by simpa using (RowV.set HP6.out 0 (.int .i64 (lv : Int))).set 1 (.slice cur.a cur.n cur.cap)
     have hkf : ∀ q, K q → ¬ q = w.heap.size + 1 := fun q hq e => by have := HK.out q hq; omega
     refine ret_agg (k := 4) (cs := [.int .i64 (lv : Int), .slice cur.a cur.n cur.cap]) rfl rfl hrow Tryz.underlying171 rfl Tryz.sizePgP rfl ⟨HF6.out.inside hft (fun q hq e => by omega), ?_⟩
     rw [HX.out]
     exact ⟨cur, xs, rfl, (HEN.out.frame hft (fun q hq e => owns_ne HEN.out.own HP6.out (by decide) (by rw [hq, e])) hkf).toBase HF5.out.size, HR6.out.frame hft (by omega) hkf⟩
 ·have HTN : Hid (Calls _ _ _ _ _) := take_no K rb 2 l W hrd h2
  have HX : Hid (pgO (some l) [d0, d1, d2, d3, d4, d5, d6, d7] = none) := by
   unfold Hid pgO
   have : takeR 1 (takeR 1 (some l)) = none := by
    cases hh : takeR 1 (takeR 1 (some l)) with
    | none => rfl
    | some r =>
     obtain ⟨l1, g1, e1⟩ := takeR_len hh
     obtain ⟨l3, g2, e2⟩ := takeR_len g1
     cases g2; omega
   rw [this]; rfl
  clear h2
  go_wp2_with fail
  refine HTN.out.mono ?_
  rintro e w1 ⟨rfl, hw1⟩
  obtain rfl : W = w1 := hw1.symm
  unfold pkE
  go_wp2
  refine ⟨rfl, HF0.out, ?_⟩
  rw [HX.out]; rfl
end Go.Proofs.YtekegfbjbainhaaGreat


namespace Go.Proofs.YtekegfbjbainhaaGreat
open Go.RowKit
attribute [local go_sem ↓] Go.wp_at_zero Go.wp_at_succ
def en0 : EnP := ⟨⟨none, 0, 0⟩, ⟨none, 0, 0⟩, zero8⟩
def selX (its : List ItR) (xs : List EnP) (fr tu : List UInt8) (k : Nat) : List EnP := (List.range k).flatMap (fun i => if withB its i fr tu = true then [xs.getD i en0] else [])
theorem selX_yes (its : List ItR) (xs : List EnP) (fr tu : List UInt8) (k : Nat) (h : withB its k fr tu = true) : selX its xs fr tu (k + 1) = selX its xs fr tu k ++ [xs.getD k en0] := by
 unfold selX
 rw [List.range_succ, List.flatMap_append]
 simp [h]
theorem selX_no (its : List ItR) (xs : List EnP) (fr tu : List UInt8) (k : Nat) (h : withB its k fr tu = false) : selX its xs fr tu (k + 1) = selX its xs fr tu k := by
 unfold selX
 rw [List.range_succ, List.flatMap_append]
 simp [h]
theorem selX_len (its : List ItR) (xs : List EnP) (fr tu : List UInt8) : ∀ (k : Nat), (selX its xs fr tu k).length ≤ k
 | 0 => by simp [selX]
 | k + 1 => by
  have ih := selX_len its xs fr tu k
  cases h : withB its k fr tu
  ·rw [selX_no _ _ _ _ _ h]; omega
  ·rw [selX_yes _ _ _ _ _ h]; simp; omega
set_option maxRecDepth 100000 in
theorem entryKeyP_any (sk sv : SlR) (x0 x1 x2 x3 x4 x5 x6 x7 : UInt8) (w : World) :
  Calls Tryz.prog 131 #[.agg #[.slice sk.a sk.n sk.cap, .slice sv.a sv.n sv.cap, .int .u8 (x0.toNat : Int), .int .u8 (x1.toNat : Int), .int .u8 (x2.toNat : Int), .int .u8 (x3.toNat : Int), .int .u8 (x4.toNat : Int), .int .u8 (x5.toNat : Int), .int .u8 (x6.toNat : Int), .int .u8 (x7.toNat : Int)]] w fun e w' => e = .returned (.slice sk.a sk.n sk.cap) ∧ Below w.heap.size w w' := by
 go_enter Tryz.func131, Tryz.ntmps131
 go_wp2
 go_ret
 exact ⟨rfl, by go_grown⟩
set_option maxRecDepth 100000 in
set_option maxHeartbeats 8000000 in
theorem withinE_any (cur : SlR) (xs : List EnP) (its : List ItR) (sf st : SlR) (fr tu : List UInt8) (w : World) (hn : cur.n = its.length) (hl : xs.length = its.length) (h200 : its.length ≤ 200) (hs : SlE w cur.a xs) (h8 : ∀ x ∈ xs, x.d.length = 8) (hen : ∀ i (h1 : i < xs.length) (h2 : i < its.length), BS w xs[i].k its[i].key) (hF : BS w sf fr) (hT : BS w st tu) :
  Calls Tryz.prog 130 #[cur.val, .func (.func 131) #[] #[], sf.val, st.val] w fun e w' => ∃ o : SlR, e = .returned o.val ∧ w'.ownsRow w.heap.size 74 10 o.val (selX its xs fr tu its.length).length (ensC (selX its xs fr tu its.length)) ∧ Below w.heap.size w w' := by
 have HQ : Hid (∀ (wr : World), Below w.heap.size w wr → ∀ k (hk : k < xs.length) (hk2 : k < its.length), ∃ b o, cur.a = some ⟨b, o, none⟩ ∧ b < w.heap.size ∧ wr.rangeAt b (o + k * 10) (enC xs[k]) ∧ BS wr xs[k].k its[k].key) := fun wr hB k hk hk2 => by
  obtain ⟨b, o, ha, hb, hc⟩ := SlE.range (SlV.below hs hB (fun x hx => by obtain ⟨b, o, ha, hb, _⟩ := SlE.range hs h8 k hk; rw [ha] at hx; cases hx; exact hb)) h8 k hk
  obtain ⟨b', o', ha', hb', _⟩ := SlE.range hs h8 k hk
  rw [ha] at ha'; cases ha'
  exact ⟨b, o, ha, hb', hc, (hen k hk hk2).below hB⟩
 have HF : Hid (BS w sf fr) := hF
 have HT : Hid (BS w st tu) := hT
 have HN : Hid (cur.n = its.length) := hn
 have HL : Hid (xs.length = its.length) := hl
 have H8 : Hid (∀ x ∈ xs, x.d.length = 8) := h8
 have hn2 : cur.n ≤ 200 := by omega
 have hnI : (cur.n : Int) ≤ 200 := by omega
 clear hs hen hn hl h200 hF hT h8
 unfold SlR.val
 go_enter Tryz.func130, Tryz.ntmps130
 go_wp2
 go_loopw [9, 10, 11, 12, 15] (fun ov _ _ _ ix wr => ∃ (k : Nat) (o : SlR), k ≤ its.length ∧ ix = .int .i64 (k : Int) ∧ ov = .slice o.a o.n o.cap ∧ Hid (wr.ownsRow w.heap.size 74 10 o.val (selX its xs fr tu k).length (ensC (selX its xs fr tu k))) ∧ Hid (Below w.heap.size w wr)) (fun _ _ _ _ ix _ => its.length - (intOf ix).toNat)
 case atStart => exact ⟨0, ⟨none, 0, 0⟩, by omega, by simp, rfl, World.ownsRow_nil _ _ _ _, Below.refl _ _⟩
 case round =>
  obtain ⟨k, o9, hk, rfl, rfl, HO, HB⟩ := hrel
  by_cases hlt : k < its.length
  ·have hltI : (k : Int) < cur.n := by rw [HN.out]; omega
   have hkI : (k : Int) ≤ 200 := by omega
   obtain ⟨b, o, hca, hb, hrg, hbs⟩ := HQ.out wr HB.out k (by rw [HL.out]; exact hlt) hlt
   have HGD : Hid (xs.getD k en0 = xs[k]'(by rw [HL.out]; exact hlt)) := by unfold Hid; rw [List.getD_eq_getElem?_getD, List.getElem?_eq_getElem (by rw [HL.out]; exact hlt)]; rfl
   have hx8 := H8.out _ (List.getElem_mem (by rw [HL.out]; exact hlt : k < xs.length))
   generalize xs[k]'(by rw [HL.out]; exact hlt) = x at *
   obtain ⟨sk, sv, dd⟩ := x
   obtain ⟨x0, x1, x2, x3, x4, x5, x6, x7, rfl⟩ := list8 dd hx8
   have HRG : Hid (wr.rangeAt b (o + k * 10) [.slice sk.a sk.n sk.cap, .slice sv.a sv.n sv.cap, .int .u8 (x0.toNat : Int), .int .u8 (x1.toNat : Int), .int .u8 (x2.toNat : Int), .int .u8 (x3.toNat : Int), .int .u8 (x4.toNat : Int), .int .u8 (x5.toNat : Int), .int .u8 (x6.toNat : Int), .int .u8 (x7.toNat : Int)]) := hrg
   have HBS : Hid (BS wr sk its[k].key) := hbs
   obtain ⟨ca, cn, cc⟩ := cur
   simp only at hca
   subst hca
   simp only at HN hn2 hnI hltI
   clear hrg hbs hx8
   go_upto_region 5 with (refine wpList_load_mid (by rfl) 74 (.tmp 18) (by rfl) b (o + k * 10) (by rfl) [.slice sk.a sk.n sk.cap, .slice sv.a sv.n sv.cap, .int .u8 (x0.toNat : Int), .int .u8 (x1.toNat : Int), .int .u8 (x2.toNat : Int), .int .u8 (x3.toNat : Int), .int .u8 (x4.toNat : Int), .int .u8 (x5.toNat : Int), .int .u8 (x6.toNat : Int), .int .u8 (x7.toNat : Int)] _ HRG.out Tryz.underlying74 rfl Tryz.sizeEntryB ?_)
   have HB1 : Hid (Below wr.heap.size wr (wr.alloc (.cells #[.slice sk.a sk.n sk.cap, .slice sv.a sv.n sv.cap, .int .u8 (x0.toNat : Int), .int .u8 (x1.toNat : Int), .int .u8 (x2.toNat : Int), .int .u8 (x3.toNat : Int), .int .u8 (x4.toNat : Int), .int .u8 (x5.toNat : Int), .int .u8 (x6.toNat : Int), .int .u8 (x7.toNat : Int)] 74))) := (Below.refl _ _).alloc (Nat.le_refl _) _
   have HX1 : Hid (RowV (wr.alloc (.cells #[.slice sk.a sk.n sk.cap, .slice sv.a sv.n sv.cap, .int .u8 (x0.toNat : Int), .int .u8 (x1.toNat : Int), .int .u8 (x2.toNat : Int), .int .u8 (x3.toNat : Int), .int .u8 (x4.toNat : Int), .int .u8 (x5.toNat : Int), .int .u8 (x6.toNat : Int), .int .u8 (x7.toNat : Int)] 74)) wr.heap.size 74 [.slice sk.a sk.n sk.cap, .slice sv.a sv.n sv.cap, .int .u8 (x0.toNat : Int), .int .u8 (x1.toNat : Int), .int .u8 (x2.toNat : Int), .int .u8 (x3.toNat : Int), .int .u8 (x4.toNat : Int), .int .u8 (x5.toNat : Int), .int .u8 (x6.toNat : Int), .int .u8 (x7.toNat : Int)]) := RowV.new wr _ _
   have HBW : Hid (Below w.heap.size w (wr.alloc (.cells #[.slice sk.a sk.n sk.cap, .slice sv.a sv.n sv.cap, .int .u8 (x0.toNat : Int), .int .u8 (x1.toNat : Int), .int .u8 (x2.toNat : Int), .int .u8 (x3.toNat : Int), .int .u8 (x4.toNat : Int), .int .u8 (x5.toNat : Int), .int .u8 (x6.toNat : Int), .int .u8 (x7.toNat : Int)] 74))) := HB.out.trans (HB1.out.mono HB.out.size)
   have hbw : w.heap.size ≤ wr.heap.size := HB.out.size
   generalize wr.alloc (.cells #[.slice sk.a sk.n sk.cap, .slice sv.a sv.n sv.cap, .int .u8 (x0.toNat : Int), .int .u8 (x1.toNat : Int), .int .u8 (x2.toNat : Int), .int .u8 (x3.toNat : Int), .int .u8 (x4.toNat : Int), .int .u8 (x5.toNat : Int), .int .u8 (x6.toNat : Int), .int .u8 (x7.toNat : Int)] 74) = W1 at *
   have HKA : Hid (keyAt its k = its[k].key) := keyAt_lt hlt
   generalize its[k].key = key at *
   go_cut [12] (fun rv wx => rv = .bool (k == 0 || Op.bytesLess (keyAt its (k - 1)) tu) ∧ Hid (Below W1.heap.size W1 wx))
   case first =>
    by_cases hk0 : k = 0
    ·subst hk0
     go_wp2_with fail
     go_meet
     case rel => exact ⟨rfl, Below.refl _ _⟩
    ·obtain ⟨j, rfl⟩ : ∃ j, k = j + 1 := ⟨k - 1, by omega⟩
     have hjx : j < xs.length := by rw [HL.out]; omega
     have hji : j < its.length := by omega
     obtain ⟨b', o', hca', hb', hyr, hbs'⟩ := HQ.out W1 HBW.out j hjx hji
     cases hca'
     have hy8 := H8.out _ (List.getElem_mem hjx)
     have HKJ : Hid (keyAt its (j + 1 - 1) = its[j].key) := by unfold Hid; rw [show j + 1 - 1 = j from rfl, keyAt_lt hji]
     generalize xs[j] = y at *
     obtain ⟨tk, tv, ee⟩ := y
     obtain ⟨y0, y1, y2, y3, y4, y5, y6, y7, rfl⟩ := list8 ee hy8
     have hyr : W1.rangeAt b (o + j * 10) [.slice tk.a tk.n tk.cap, .slice tv.a tv.n tv.cap, .int .u8 (y0.toNat : Int), .int .u8 (y1.toNat : Int), .int .u8 (y2.toNat : Int), .int .u8 (y3.toNat : Int), .int .u8 (y4.toNat : Int), .int .u8 (y5.toNat : Int), .int .u8 (y6.toNat : Int), .int .u8 (y7.toNat : Int)] := hyr
     have c0 := hyr 0 _ rfl
     have c1 := hyr 1 _ rfl
     have c2 := hyr 2 _ rfl
     have c3 := hyr 3 _ rfl
     have c4 := hyr 4 _ rfl
     have c5 := hyr 5 _ rfl
     have c6 := hyr 6 _ rfl
     have c7 := hyr 7 _ rfl
     have c8 := hyr 8 _ rfl
     have c9 := hyr 9 _ rfl
     simp only [Nat.add_zero] at c0
     have HEK : Hid (Calls _ _ _ _ _) := entryKeyP_any tk tv y0 y1 y2 y3 y4 y5 y6 y7 W1
     have HBJ : Hid (BS W1 tk its[j].key) := hbs'
     have hj0 : ((j : Int) + 1 == 0) = false := by simp; omega
     have hjI : (j : Int) + 1 - 1 = j := by omega
     have hjJ : (j : Int) < cn := by rw [HN.out]; omega
     have HTW : Hid (BS W1 st tu) := HT.out.below HBW.out
     have HLE := cmp_neg its[j].key tu
     have HBD := cmp_bd its[j].key tu
     generalize its[j].key = kj at *
     clear hyr hbs' hy8 HQ
     go_wp2_with (go_at_call 131; refine HEK.out.mono ?_; rintro e w2 ⟨rfl, hb2⟩)
     have HCM : Hid (Calls _ _ _ _ _) := compare_any tk st kj tu w2 (HBJ.out.below hb2) (HTW.out.below hb2)
     generalize Lib.compareBytes kj tu = c at *
     unfold SlR.val at HCM
     refine HCM.out.mono ?_
     rintro e w3 ⟨rfl, hw3⟩
     obtain rfl : w2 = w3 := hw3.symm
     clear hw3
     go_wp2_with fail
     go_meet
     case rel =>
      refine ⟨?_, hb2⟩
      rw [HKJ.out]
      have e1 : Op.bytesLess kj tu = decide (c < 0) := by rw [Bool.eq_iff_iff]; simp [HLE]
      rw [e1]
      simp
   case rest =>
    obtain ⟨rfl, HB2⟩ := hcut
    have HWB : Hid (withB its k fr tu = (!(Op.bytesLess key fr) && (k == 0 || Op.bytesLess (keyAt its (k - 1)) tu))) := by unfold Hid withB; rw [HKA.out]
    generalize (k == 0 || Op.bytesLess (keyAt its (k - 1)) tu) = rc at *
    have HX2 : Hid (RowV wc wr.heap.size 74 [.slice sk.a sk.n sk.cap, .slice sv.a sv.n sv.cap, .int .u8 (x0.toNat : Int), .int .u8 (x1.toNat : Int), .int .u8 (x2.toNat : Int), .int .u8 (x3.toNat : Int), .int .u8 (x4.toNat : Int), .int .u8 (x5.toNat : Int), .int .u8 (x6.toNat : Int), .int .u8 (x7.toNat : Int)]) := RowV.below HX1.out HX1.out.lt HB2.out
    have HW2 : Hid (Below wr.heap.size wr wc) := HB1.out.trans (HB2.out.mono HB1.out.size)
    have HK2 : Hid (BS wc sk key) := HBS.out.below HW2.out
    have HF2 : Hid (BS wc sf fr) := (HF.out.below HB.out).below HW2.out
    clear HX1 HB1 HB2 HBW HQ HRG
    go_upto_region 6 with fail
    go_cut [42] (fun rv wx => rv = .bool (withB its k fr tu) ∧ Hid (Below wc.heap.size wc wx))
    case first =>
     cases rc with
     | false =>
      go_wp2_with fail
      go_meet
      case rel => exact ⟨by rw [HWB.out]; simp, Below.refl _ _⟩
     | true =>
      have c0 := HX2.out.cell 0 (by simp)
      have c1 := HX2.out.cell 1 (by simp)
      have c2 := HX2.out.cell 2 (by simp)
      have c3 := HX2.out.cell 3 (by simp)
      have c4 := HX2.out.cell 4 (by simp)
      have c5 := HX2.out.cell 5 (by simp)
      have c6 := HX2.out.cell 6 (by simp)
      have c7 := HX2.out.cell 7 (by simp)
      have c8 := HX2.out.cell 8 (by simp)
      have c9 := HX2.out.cell 9 (by simp)
      simp only [List.getElem_cons_zero, List.getElem_cons_succ] at c0 c1 c2 c3 c4 c5 c6 c7 c8 c9
      have HEK : Hid (Calls _ _ _ _ _) := entryKeyP_any sk sv x0 x1 x2 x3 x4 x5 x6 x7 wc
      have HLE := cmp_neg key fr
      have HBD := cmp_bd key fr
      go_wp2_with (go_at_call 131; refine HEK.out.mono ?_; rintro e w2 ⟨rfl, hb2⟩)
      have HCM : Hid (Calls _ _ _ _ _) := compare_any sk sf key fr w2 (HK2.out.below hb2) (HF2.out.below hb2)
      generalize Lib.compareBytes key fr = c at *
      unfold SlR.val at HCM
      refine HCM.out.mono ?_
      rintro e w3 ⟨rfl, hw3⟩
      obtain rfl : w2 = w3 := hw3.symm
      clear hw3
      go_wp2_with fail
      go_meet
      case rel =>
       refine ⟨?_, hb2⟩
       have e1 : Op.bytesLess key fr = decide (c < 0) := by rw [Bool.eq_iff_iff]; simp [HLE]
       rw [HWB.out, e1]
       by_cases hc : 0 ≤ c
       ·have : ¬ c < 0 := by omega
        simp [hc, this]
       ·have : c < 0 := by omega
        simp [hc, this]
    case rest =>
     obtain ⟨rfl, HB3⟩ := hcut
     have HX3 := RowV.below HX2.out HX2.out.lt HB3.out
     have HW3 : Hid (Below wr.heap.size wr wc) := HW2.out.trans (HB3.out.mono HW2.out.size)
     cases hwb : withB its k fr tu with
     | false =>
      have HS : Hid (selX its xs fr tu (k + 1) = selX its xs fr tu k) := selX_no _ _ _ _ _ hwb
      go_wp2
      refine ⟨⟨k + 1, o9, hlt, by go_num, rfl, ?_, HB.out.trans (HW3.out.mono HB.out.size)⟩, by simp [intOf]; omega⟩
      unfold Hid; rw [HS.out]; exact owns_below HO.out HW3.out
     | true =>
      have HS : Hid (selX its xs fr tu (k + 1) = selX its xs fr tu k ++ [⟨sk, sv, [x0, x1, x2, x3, x4, x5, x6, x7]⟩]) := by unfold Hid; rw [selX_yes _ _ _ _ _ hwb, HGD.out]
      have HSL : Hid ((selX its xs fr tu k).length ≤ 200) := by have := selX_len its xs fr tu k; unfold Hid; omega
      have HBA : Hid (Below wr.heap.size wr (wc.alloc (.cells #[.slice sk.a sk.n sk.cap, .slice sv.a sv.n sv.cap, .int .u8 (x0.toNat : Int), .int .u8 (x1.toNat : Int), .int .u8 (x2.toNat : Int), .int .u8 (x3.toNat : Int), .int .u8 (x4.toNat : Int), .int .u8 (x5.toNat : Int), .int .u8 (x6.toNat : Int), .int .u8 (x7.toNat : Int)] 74))) := HW3.out.alloc HW3.out.size _
      have HX3' : Hid (RowV wc wr.heap.size 74 [.slice sk.a sk.n sk.cap, .slice sv.a sv.n sv.cap, .int .u8 (x0.toNat : Int), .int .u8 (x1.toNat : Int), .int .u8 (x2.toNat : Int), .int .u8 (x3.toNat : Int), .int .u8 (x4.toNat : Int), .int .u8 (x5.toNat : Int), .int .u8 (x6.toNat : Int), .int .u8 (x7.toNat : Int)]) := HX3
      go_wp2_with (first
       | (refine wpList_load_mid (by rfl) 74 (.tmp 11) (by rfl) wr.heap.size 0 (by rfl) [.slice sk.a sk.n sk.cap, .slice sv.a sv.n sv.cap, .int .u8 (x0.toNat : Int), .int .u8 (x1.toNat : Int), .int .u8 (x2.toNat : Int), .int .u8 (x3.toNat : Int), .int .u8 (x4.toNat : Int), .int .u8 (x5.toNat : Int), .int .u8 (x6.toNat : Int), .int .u8 (x7.toNat : Int)] _ HX3'.out.range Tryz.underlying74 rfl Tryz.sizeEntryB ?_)
       | (at_builtin; refine wp_appendV (by rfl) (.tmp 43) (.tmp 45) 67 (by rfl) w.heap.size 74 _ 10 56 Tryz.underlying67 Tryz.infoEntry rfl (by decide) (.slice o9.a o9.n o9.cap) (selX its xs fr tu k).length (ensC (selX its xs fr tu k)) (by rfl) (owns_below HO.out HBA.out) (some ⟨wc.heap.size, 0, none⟩) 1 1 [.slice sk.a sk.n sk.cap, .slice sv.a sv.n sv.cap, .int .u8 (x0.toNat : Int), .int .u8 (x1.toNat : Int), .int .u8 (x2.toNat : Int), .int .u8 (x3.toNat : Int), .int .u8 (x4.toNat : Int), .int .u8 (x5.toNat : Int), .int .u8 (x6.toNat : Int), .int .u8 (x7.toNat : Int)] (by rfl) rfl (SlV.alloc_new wc _ _) (fun h => by cases h) (enC_one ⟨sk, sv, [x0, x1, x2, x3, x4, x5, x6, x7]⟩) (by have := HSL.out; unfold maxLen; omega) (by have := HSL.out; omega) (Nat.le_trans hbw HBA.out.size) ?_; intro v9 w9 ho9 hf9 hat9; obtain ⟨a9, c9, hv9, _⟩ := owns_form ho9; subst hv9))
      have hbz : Below w.heap.size w (wc.alloc (.cells #[.slice sk.a sk.n sk.cap, .slice sv.a sv.n sv.cap, .int .u8 (x0.toNat : Int), .int .u8 (x1.toNat : Int), .int .u8 (x2.toNat : Int), .int .u8 (x3.toNat : Int), .int .u8 (x4.toNat : Int), .int .u8 (x5.toNat : Int), .int .u8 (x6.toNat : Int), .int .u8 (x7.toNat : Int)] 74)) := HB.out.trans (HBA.out.mono HB.out.size)
      refine ⟨⟨k + 1, ⟨a9, (selX its xs fr tu k).length + 1, c9⟩, hlt, by go_num, rfl, ?_, hbz.trans (hf9.below hbz.size (fun q hq => (HO.out.lt q hq).1))⟩, by simp [intOf]; omega⟩
      unfold Hid; rw [HS.out, List.length_append, ensC_append]; exact ho9
  ·have hkI : ¬ (k : Int) < cur.n := by rw [HN.out]; omega
   obtain rfl : k = its.length := by omega
   go_wp2
   go_ret
   exact ⟨o9, rfl, HO.out, HB.out⟩
end Go.Proofs.YtekegfbjbainhaaGreat


namespace Go.Proofs.YtekegfbjbainhaaGreat
open Go.RowKit
attribute [local go_sem ↓] Go.wp_at_zero Go.wp_at_succ
theorem sel_zip (its : List ItR) (xs : List EnP) (fr tu : List UInt8) (P : EnP → ItR → Prop) (hl : xs.length = its.length) (h : ∀ i (h1 : i < xs.length) (h2 : i < its.length), P xs[i] its[i]) : ∀ (k : Nat), k ≤ its.length → (selX its xs fr tu k).length = (selE its fr tu k).length ∧ ∀ i (h1 : i < (selX its xs fr tu k).length) (h2 : i < (selE its fr tu k).length), P (selX its xs fr tu k)[i] (selE its fr tu k)[i]
 | 0, _ => ⟨rfl, fun i h1 => by simp [selX] at h1⟩
 | k + 1, hk => by
  have ih := sel_zip its xs fr tu P hl h k (by omega)
  have hx : xs.getD k en0 = xs[k]'(by omega) := by rw [List.getD_eq_getElem?_getD, List.getElem?_eq_getElem (by omega : k < xs.length)]; rfl
  have hi : its.getD k it0 = its[k]'(by omega) := by rw [List.getD_eq_getElem?_getD, List.getElem?_eq_getElem (by omega : k < its.length)]; rfl
  cases hw : withB its k fr tu with
  | false =>
   have e1 := selX_no its xs fr tu k hw
   have e2 := selE_no its fr tu k hw
   rw [e1, e2]; exact ih
  | true =>
   have e1 := selX_yes its xs fr tu k hw
   have e2 := selE_yes its fr tu k hw
   rw [hx] at e1; rw [hi] at e2
   rw [e1, e2]
   refine ⟨by simp [ih.1], fun i h1 h2 => ?_⟩
   by_cases hlt : i < (selX its xs fr tu k).length
   ·rw [List.getElem_append_left hlt, List.getElem_append_left (by rw [← ih.1]; exact hlt)]
    exact ih.2 i hlt _
   ·have e : i = (selX its xs fr tu k).length := by simp at h1; omega
    subst e
    rw [List.getElem_append_right (Nat.le_refl _), List.getElem_append_right (by rw [ih.1]; exact Nat.le_refl _)]
    simp only [ih.1, Nat.sub_self, List.getElem_singleton]
    exact h k _ _
theorem selE_len (its : List ItR) (fr tu : List UInt8) : ∀ (k : Nat), (selE its fr tu k).length ≤ k
 | 0 => by simp [selE]
 | k + 1 => by
  have ih := selE_len its fr tu k
  cases h : withB its k fr tu
  ·rw [selE_no _ _ _ _ h]; omega
  ·rw [selE_yes _ _ _ _ h]; simp; omega
def foF (fr tu : List UInt8) (m : Nat) (se : List ItR) (r : List UInt8) (j : Nat) : Option (List ItR × List UInt8) := (se.take j).foldlM (stepU (readU fr tu m) m) ([], r)
theorem foF_succ {fr tu : List UInt8} {m : Nat} {se : List ItR} {r : List UInt8} {j : Nat} (h : j < se.length) : foF fr tu m se r (j + 1) = (foF fr tu m se r j).bind (fun s => stepU (readU fr tu m) m s se[j]) := by
 unfold foF
 rw [List.take_succ_eq_append_getElem h, List.foldlM_append]
 cases (se.take j).foldlM (stepU (readU fr tu m) m) ([], r) with
 | none => rfl
 | some s => simp
theorem foF_none {fr tu : List UInt8} {m : Nat} {se : List ItR} {r : List UInt8} {j : Nat} (h : foF fr tu m se r j = none) : foF fr tu m se r se.length = none := by
 unfold foF at h ⊢
 have e : se.take se.length = se.take j ++ se.drop j := by rw [List.take_length, List.take_append_drop]
 rw [e, List.foldlM_append, h]; rfl
def ebPost (w : World) (K : Nat → Prop) (rb base : Nat) (R : Option (List ItR × List UInt8)) (e : Ending) (w' : World) : Prop :=
 Frame (fun k => k = rb) w w' ∧ match R with
  | none => e = pkE
  | some (es, r) => ∃ (v : SlR) (ys : List EnP), e = .returned v.val ∧ EnsL 0 w' K base v ys es ∧ RdP w' K rb r
def EBSpec (fr tu : List UInt8) (lvl : Nat) : Prop := ∀ (K : Nat → Prop) (rb base : Nat) (cur : SlR) (xs : List EnP) (its : List ItR) (l : List UInt8) (sf st : SlR) (w : World), RdP w K rb l → (∀ k, K k → k < w.heap.size) → PageOk lvl its → EnsL lvl w K base cur xs its → base ≤ w.heap.size → BS w sf fr → BS w st tu → (∀ x, sf.a = some x → x.block ≠ rb) → (∀ x, st.a = some x → x.block ≠ rb) → its.length + l.length ≤ 1000000000 →
 Calls Tryz.prog 103 #[.pointer (some ⟨rb, 0, none⟩), .agg #[.int .i64 (lvl : Int), .slice cur.a cur.n cur.cap], .slice sf.a sf.n sf.cap, .slice st.a st.n st.cap] w (ebPost w K rb base (readU fr tu lvl its l))
set_option maxRecDepth 100000 in
set_option maxHeartbeats 1000000 in
theorem eb_zero (fr tu : List UInt8) : EBSpec fr tu 0 := by
 intro K rb base cur xs its l sf st w hr hK hpo hen hb hF hT hfb htb hM
 have HB : Hid (Below w.heap.size w (w.alloc (.cells #[.int .i64 0, .slice cur.a cur.n cur.cap] 171))) := (Below.refl _ _).alloc (Nat.le_refl _) _
 have HR : Hid (RdP w K rb l) := hr
 have HE : Hid (EnsL 0 w K base cur xs its) := hen
 clear hr hK hpo hen hb hF hT hfb htb hM
 show Calls Tryz.prog 103 #[.pointer (some ⟨rb, 0, none⟩), .agg #[.int .i64 0, .slice cur.a cur.n cur.cap], .slice sf.a sf.n sf.cap, .slice st.a st.n st.cap] w (ebPost w K rb base (some (its, l)))
 go_enter Tryz.func103, Tryz.ntmps103
 go_wp2
 go_ret
 exact ⟨Frame.of_below_all HB.out, cur, xs, rfl, HE.out.below HB.out, HR.out.below HB.out⟩
end Go.Proofs.YtekegfbjbainhaaGreat
