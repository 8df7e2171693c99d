
import Derived.Test.YtekegfbjbainhaaKPrC5
import Derived.Test.YtekegfbjbainhaaKJoin17
import Derived.Deep.RegionWith
import Derived.Deep.DeepCutAuto
set_option linter.unusedVariables false
set_option linter.unusedSimpArgs false
namespace Go.Proofs.Ytekegfbjbainhaa
open Go.RowKit
attribute [local go_sem ↓] Go.wp_at_zero Go.wp_at_succ
def pgP (w : World) (K : Nat → Prop) (rb : Nat) (o : Option ((Nat × List ItR) × List UInt8)) (e : Ending) (w' : World) : Prop :=
 Frame (fun k => k = rb) w w' ∧ match o with
  | none => e = pkE
  | some ((lv, its), r) => ∃ (cur : SlR) (xs : List EnP), e = .returned (.agg #[.int .i64 (lv : Int), cur.val]) ∧ EnsL lv w' K w.heap.size cur xs its ∧ RdP w' K rb r
theorem pgO_two (x y : UInt8) (l : List UInt8) (d : List UInt8) : pgO (some (x :: y :: l)) d = match takeR (256 * x.toNat + y.toNat) (some l) with
  | none => none
  | some r => match pageF (takeB (256 * x.toNat + y.toNat) (some l)) with
   | none => none
   | some p => if digB (takeB (256 * x.toNat + y.toNat) (some l)) = d then some (p, r) else none := by
 have e1 : takeR 1 (some (x :: y :: l)) = some (y :: l) := by show (if 1 ≤ (x :: y :: l).length then some ((x :: y :: l).drop 1) else none) = _; rw [if_pos (by simp)]; rfl
 have e2 : takeR 1 (some (y :: l)) = some l := by show (if 1 ≤ (y :: l).length then some ((y :: l).drop 1) else none) = _; rw [if_pos (by simp)]; rfl
 have e3 : pgN (some (x :: y :: l)) = 256 * x.toNat + y.toNat := by unfold pgN; rw [e1]; rfl
 have e4 : pgB (some (x :: y :: l)) = takeB (256 * x.toNat + y.toNat) (some l) := by unfold pgB; rw [e3, e1, e2]
 unfold pgO
 rw [e3, e4, e1, e2]
 cases takeR (256 * x.toNat + y.toNat) (some l) with
 | none => rfl
 | some r =>
  cases pageF (takeB (256 * x.toNat + y.toNat) (some l)) with
  | none => rfl
  | some p => rfl
set_option maxRecDepth 100000 in
set_option maxHeartbeats 8000000 in
theorem pageP_any (K : Nat → Prop) (rb : Nat) (l d : List UInt8) (w : World) (h : RdP w K rb l) (hK : ∀ k, K k → k < w.heap.size) (hd : d.length = 8) :
  Calls Try.prog 63 #[.pointer (some ⟨rb, 0, none⟩), dV d] w (pgP w K rb (pgO (some l) d)) := by
 obtain ⟨d0, d1, d2, d3, d4, d5, d6, d7, rfl⟩ := list8 d hd
 have hdv : dV [d0, d1, d2, d3, d4, d5, d6, d7] = .agg #[.int .u8 (d0.toNat : Int), .int .u8 (d1.toNat : Int), .int .u8 (d2.toNat : Int), .int .u8 (d3.toNat : Int), .int .u8 (d4.toNat : Int), .int .u8 (d5.toNat : Int), .int .u8 (d6.toNat : Int), .int .u8 (d7.toNat : Int)] := rfl
 rw [hdv]
 have hA : Below w.heap.size w ((w.alloc (.cells #[.int .u8 (d0.toNat : Int), .int .u8 (d1.toNat : Int), .int .u8 (d2.toNat : Int), .int .u8 (d3.toNat : Int), .int .u8 (d4.toNat : Int), .int .u8 (d5.toNat : Int), .int .u8 (d6.toNat : Int), .int .u8 (d7.toNat : Int)] 45)).alloc (.cells #[.int .i64 0, .slice none 0 0] 128)) := ((Below.refl _ _).alloc (Nat.le_refl _) _).alloc (by simp) _
 have HD0 : Hid (RowV ((w.alloc (.cells #[.int .u8 (d0.toNat : Int), .int .u8 (d1.toNat : Int), .int .u8 (d2.toNat : Int), .int .u8 (d3.toNat : Int), .int .u8 (d4.toNat : Int), .int .u8 (d5.toNat : Int), .int .u8 (d6.toNat : Int), .int .u8 (d7.toNat : Int)] 45)).alloc (.cells #[.int .i64 0, .slice none 0 0] 128)) w.heap.size 45 ([d0, d1, d2, d3, d4, d5, d6, d7].map u8c)) := (RowV.new w 45 ([d0, d1, d2, d3, d4, d5, d6, d7].map u8c)).alloc _
 have HP0 : Hid (RowV ((w.alloc (.cells #[.int .u8 (d0.toNat : Int), .int .u8 (d1.toNat : Int), .int .u8 (d2.toNat : Int), .int .u8 (d3.toNat : Int), .int .u8 (d4.toNat : Int), .int .u8 (d5.toNat : Int), .int .u8 (d6.toNat : Int), .int .u8 (d7.toNat : Int)] 45)).alloc (.cells #[.int .i64 0, .slice none 0 0] 128)) (w.heap.size + 1) 128 [.int .i64 0, .slice none 0 0]) := RowV.new_at _ _ _ _ (by simp)
 have hrb := h.lt
 have hrd := h.below hA
 have HK : Hid (∀ k, K k → k < w.heap.size) := hK
 have HB0 : Hid (Below w.heap.size w _) := hA
 have HWZ : Hid (((w.alloc (.cells #[.int .u8 (d0.toNat : Int), .int .u8 (d1.toNat : Int), .int .u8 (d2.toNat : Int), .int .u8 (d3.toNat : Int), .int .u8 (d4.toNat : Int), .int .u8 (d5.toNat : Int), .int .u8 (d6.toNat : Int), .int .u8 (d7.toNat : Int)] 45)).alloc (.cells #[.int .i64 0, .slice none 0 0] 128)).heap.size = w.heap.size + 2) := by unfold Hid; simp
 clear h hK hd hdv hA
 go_enter Try.func63, Try.ntmps63
 go_upto_region 1 with fail
 generalize (w.alloc (.cells #[.int .u8 (d0.toNat : Int), .int .u8 (d1.toNat : Int), .int .u8 (d2.toNat : Int), .int .u8 (d3.toNat : Int), .int .u8 (d4.toNat : Int), .int .u8 (d5.toNat : Int), .int .u8 (d6.toNat : Int), .int .u8 (d7.toNat : Int)] 45)).alloc (.cells #[.int .i64 0, .slice none 0 0] 128) = W at *
 have HF0 : Hid (Frame (fun k => k = rb) w W) := Frame.of_below_all HB0.out
 by_cases h2 : 2 ≤ l.length
 ·obtain ⟨x, y, l2, rfl⟩ : ∃ x y l2, l = x :: y :: l2 := by
   match l, h2 with
   | x :: y :: l2, _ => exact ⟨x, y, l2, rfl⟩
  have HT : Hid (Calls _ _ _ _ _) := take_yes K rb 2 (x :: y :: l2) W hrd h2
  have HTWO : Hid (pgO (some (x :: y :: l2)) [d0, d1, d2, d3, d4, d5, d6, d7] = _) := pgO_two x y l2 [d0, d1, d2, d3, d4, d5, d6, d7]
  go_wp2_with fail
  refine HT.out.mono ?_
  rintro e w1 ⟨s1, rfl, hf1, hz1, hs1, hc1, hr1⟩
  have hn1 : s1.n = 2 := by have := hs1.bs.n; simpa using this
  obtain ⟨bb, oo, hca, hbb, g0⟩ := hs1.bs.sl 0 (by simp)
  obtain ⟨bb', oo', hca', hbb', g1⟩ := hs1.bs.sl 1 (by simp)
  rw [hca] at hca'; cases hca'
  have g0' : w1.cell? ⟨bb, oo, none⟩ = some (.int .u8 (x.toNat : Int)) := g0
  have g1' : w1.cell? ⟨bb, oo + 1, none⟩ = some (.int .u8 (y.toNat : Int)) := g1
  have HF1 : Hid (Frame (fun k => k = rb) w w1) := HF0.out.trans hf1
  have HD1 : Hid (RowV w1 w.heap.size 45 ([d0, d1, d2, d3, d4, d5, d6, d7].map u8c)) := RowV.of_block HD0.out (hf1.block _ HD0.out.lt (by omega))
  have HP1 : Hid (RowV w1 (w.heap.size + 1) 128 [.int .i64 0, .slice none 0 0]) := RowV.of_block HP0.out (hf1.block _ HP0.out.lt (by omega))
  have HR1 : Hid (RdP w1 K rb l2) := hr1
  have hxl := x.toNat_lt
  have hyl := y.toNat_lt
  have HT2 : Hid (Calls _ _ _ _ _) := takeP_any K rb (256 * x.toNat + y.toNat) l2 w1.drew (hr1.below ((Below.refl _ _).drew))
  generalize x.toNat = xn at *
  generalize y.toNat = yn at *
  obtain ⟨sa, sn, sc⟩ := s1
  simp only at hca hn1
  subst hca; subst hn1
  clear HT hf1 hz1 hs1 hc1 hr1 g0 g1 hbb hbb' hrd HD0 HP0
  unfold SlR.val
  go_upto_region 2 with fail
  have hwr : IntKind.i64.wrap (IntKind.i64.wrap (IntKind.i64.wrap (xn : Int) * 256) + IntKind.i64.wrap (yn : Int)) = ((256 * xn + yn : Nat) : Int) := by simp only [IntKind.wrap_i64]; omega
  have HF1d : Hid (Frame (fun k => k = rb) w w1.drew) := HF1.out.drew
  have HR1d : Hid (RdP w1.drew K rb l2) := HR1.out.below ((Below.refl _ _).drew)
  have HNB : Hid (256 * xn + yn ≤ 100000) := by unfold Hid; omega
  have HD1d : Hid (RowV w1.drew w.heap.size 45 ([d0, d1, d2, d3, d4, d5, d6, d7].map u8c)) := RowV.of_block HD1.out rfl
  have HP1d : Hid (RowV w1.drew (w.heap.size + 1) 128 [.int .i64 0, .slice none 0 0]) := RowV.of_block HP1.out rfl
  rw [← hwr] at HT2
  have HNE : Hid (pgO (some (x :: y :: l2)) [d0, d1, d2, d3, d4, d5, d6, d7] = match takeR (256 * xn + yn) (some l2) with
   | none => none
   | some r => match pageF (takeB (256 * xn + yn) (some l2)) with
    | none => none
    | some p => if digB (takeB (256 * xn + yn) (some l2)) = [d0, d1, d2, d3, d4, d5, d6, d7] then some (p, r) else none) := HTWO.out
  clear HTWO
  clear hwr
  go_cut [6] (fun bv wx => ∃ (s2 : SlR) (r : List UInt8), bv = .slice s2.a s2.n s2.cap ∧ Hid (Frame (fun k => k = rb) w wx) ∧ Hid (SubS wx K s2 (takeB (256 * xn + yn) (some l2))) ∧ Hid (RdP wx K rb r) ∧ Hid (takeR (256 * xn + yn) (some l2) = some r) ∧ Hid (RowV wx w.heap.size 45 ([d0, d1, d2, d3, d4, d5, d6, d7].map u8c)) ∧ Hid (RowV wx (w.heap.size + 1) 128 [.int .i64 0, .slice none 0 0]))
  case first =>
   go_region_with (go_at_call 84; refine HT2.out.mono ?_; rintro e w2 ⟨hf2, hz2, hm⟩; cases h3 : takeR (256 * xn + yn) (some l2); (rw [h3] at hm; obtain rfl : e = pkE := hm; unfold pkE; refine ⟨rfl, HF1d.out.trans hf2, ?_⟩; rw [HNE.out, h3]; rfl); (rename_i r; rw [h3] at hm; obtain ⟨s2, rfl, hs2, hr2⟩ := hm; unfold SlR.val))
   all_goals
    go_wp2_with fail
    go_meet
    case rel => exact ⟨s2, r, rfl, HF1d.out.trans hf2, hs2, hr2, h3, RowV.of_block HD1d.out (hf2.block _ HD1d.out.lt (by omega)), RowV.of_block HP1d.out (hf2.block _ HP1d.out.lt (by omega))⟩
  case rest =>
   obtain ⟨s2, r, rfl, HF2, HS2, HR2, H3, HD2, HP2⟩ := hcut
   rw [H3.out] at HNE
   have HBL : Hid ((takeB (256 * xn + yn) (some l2)).length ≤ 100000) := Nat.le_trans (takeB_length _ _) HNB.out
   generalize takeB (256 * xn + yn) (some l2) = b at *
   clear HT2 HF1d HR1d HD1d HP1d g0' g1' HF1 HD1 HP1 HR1 H3 HNB
   have HF2d : Hid (Frame (fun k => k = rb) w wc.drew) := HF2.out.drew
   have HD2d : Hid (RowV wc.drew w.heap.size 45 ([d0, d1, d2, d3, d4, d5, d6, d7].map u8c)) := RowV.of_block HD2.out rfl
   have HP2d : Hid (RowV wc.drew (w.heap.size + 1) 128 [.int .i64 0, .slice none 0 0]) := RowV.of_block HP2.out rfl
   have HS2d : Hid (SubS wc.drew K s2 b) := HS2.out.below ((Below.refl _ _).drew)
   have HR2d : Hid (RdP wc.drew K rb r) := HR2.out.below ((Below.refl _ _).drew)
   have HOF : Hid (Calls _ _ _ _ _) := ofB_any s2.a s2.n s2.cap b wc.drew HS2d.out.bs.n (by have := HBL.out; unfold maxLen; omega) HS2d.out.bs.sl
   obtain ⟨x0, x1, x2, x3, x4, x5, x6, x7, hdd⟩ := list8 (digB b) rfl
   have HV : Hid (digV b = .agg #[.int .u8 (x0.toNat : Int), .int .u8 (x1.toNat : Int), .int .u8 (x2.toNat : Int), .int .u8 (x3.toNat : Int), .int .u8 (x4.toNat : Int), .int .u8 (x5.toNat : Int), .int .u8 (x6.toNat : Int), .int .u8 (x7.toNat : Int)]) := by unfold Hid; rw [digV_eq, hdd]; rfl
   rw [HV.out] at HOF
   obtain ⟨eqv, heqv⟩ : ∃ eqv, eqv = (digB b == [d0, d1, d2, d3, d4, d5, d6, d7]) := ⟨_, rfl⟩
   have HEQV : Hid (eqv = (digB b == [d0, d1, d2, d3, d4, d5, d6, d7])) := heqv
   have heq : ∀ W, (Op.equalIn 10000 45 (Value.agg #[.int .u8 (x0.toNat : Int), .int .u8 (x1.toNat : Int), .int .u8 (x2.toNat : Int), .int .u8 (x3.toNat : Int), .int .u8 (x4.toNat : Int), .int .u8 (x5.toNat : Int), .int .u8 (x6.toNat : Int), .int .u8 (x7.toNat : Int)]) (Value.agg #[.int .u8 (d0.toNat : Int), .int .u8 (d1.toNat : Int), .int .u8 (d2.toNat : Int), .int .u8 (d3.toNat : Int), .int .u8 (d4.toNat : Int), .int .u8 (d5.toNat : Int), .int .u8 (d6.toNat : Int), .int .u8 (d7.toNat : Int)])).run Try.prog W = .ok eqv W := fun W => by
    have h := run_equalIn_bytes (P := Try.prog) W 9998 45 5 8 Try.underlying45 Try.underlying5 Try.sizeU8 (digB b) [d0, d1, d2, d3, d4, d5, d6, d7] rfl rfl
    rw [← heqv, hdd] at h
    exact h
   have k0 : wc.drew.cell? ⟨w.heap.size, 0, none⟩ = some (.int .u8 (d0.toNat : Int)) := RowV.cell HD2d.out 0 (by simp)
   have k1 : wc.drew.cell? ⟨w.heap.size, 1, none⟩ = some (.int .u8 (d1.toNat : Int)) := RowV.cell HD2d.out 1 (by simp)
   have k2 : wc.drew.cell? ⟨w.heap.size, 2, none⟩ = some (.int .u8 (d2.toNat : Int)) := RowV.cell HD2d.out 2 (by simp)
   have k3 : wc.drew.cell? ⟨w.heap.size, 3, none⟩ = some (.int .u8 (d3.toNat : Int)) := RowV.cell HD2d.out 3 (by simp)
   have k4 : wc.drew.cell? ⟨w.heap.size, 4, none⟩ = some (.int .u8 (d4.toNat : Int)) := RowV.cell HD2d.out 4 (by simp)
   have k5 : wc.drew.cell? ⟨w.heap.size, 5, none⟩ = some (.int .u8 (d5.toNat : Int)) := RowV.cell HD2d.out 5 (by simp)
   have k6 : wc.drew.cell? ⟨w.heap.size, 6, none⟩ = some (.int .u8 (d6.toNat : Int)) := RowV.cell HD2d.out 6 (by simp)
   have k7 : wc.drew.cell? ⟨w.heap.size, 7, none⟩ = some (.int .u8 (d7.toNat : Int)) := RowV.cell HD2d.out 7 (by simp)
   clear hdd heqv
   unfold SlR.val at *
   go_upto_region 3 with fail
   go_cut [] (fun wx => Hid (Below wc.drew.heap.size wc.drew wx) ∧ Hid (digB b = [d0, d1, d2, d3, d4, d5, d6, d7]))
   case first =>
    go_region_with (first
     | (go_at_call 51; refine HOF.out.mono ?_; rintro e w3 ⟨rfl, hb3⟩; have hd3 := RowV.below HD2d.out HD2d.out.lt hb3; have k0 : w3.cell? ⟨w.heap.size, 0, none⟩ = some (.int .u8 (d0.toNat : Int)) := RowV.cell hd3 0 (by simp); have k1 : w3.cell? ⟨w.heap.size, 1, none⟩ = some (.int .u8 (d1.toNat : Int)) := RowV.cell hd3 1 (by simp); have k2 : w3.cell? ⟨w.heap.size, 2, none⟩ = some (.int .u8 (d2.toNat : Int)) := RowV.cell hd3 2 (by simp); have k3 : w3.cell? ⟨w.heap.size, 3, none⟩ = some (.int .u8 (d3.toNat : Int)) := RowV.cell hd3 3 (by simp); have k4 : w3.cell? ⟨w.heap.size, 4, none⟩ = some (.int .u8 (d4.toNat : Int)) := RowV.cell hd3 4 (by simp); have k5 : w3.cell? ⟨w.heap.size, 5, none⟩ = some (.int .u8 (d5.toNat : Int)) := RowV.cell hd3 5 (by simp); have k6 : w3.cell? ⟨w.heap.size, 6, none⟩ = some (.int .u8 (d6.toNat : Int)) := RowV.cell hd3 6 (by simp); have k7 : w3.cell? ⟨w.heap.size, 7, none⟩ = some (.int .u8 (d7.toNat : Int)) := RowV.cell hd3 7 (by simp); clear hd3)
     | (go_at_call 83; cases hev : eqv; (refine (must_no _).mono ?_; rintro e w4 ⟨rfl, hw4⟩; subst hw4; unfold pkE; refine ⟨rfl, HF2d.out.trans (Frame.of_below_all hb3), ?_⟩; have hne : digB b ≠ [d0, d1, d2, d3, d4, d5, d6, d7] := (fun h => by have h2 := HEQV.out; rw [hev, h] at h2; simp at h2); have hpo : pgO (some (x :: y :: l2)) [d0, d1, d2, d3, d4, d5, d6, d7] = none := (by rw [HNE.out]; cases hpf : pageF b; rfl; simp only [if_neg hne]); rw [hpo]; rfl); (refine (must_yes _).mono ?_; rintro e w4 ⟨rfl, hw4⟩; subst hw4)))
    all_goals
     go_wp2_with fail
     go_meet
     case rel => exact ⟨hb3, by unfold Hid; have h2 := HEQV.out; rw [hev] at h2; simpa using h2.symm⟩
   case rest =>
    obtain ⟨HB5, HDE⟩ := hcut
    clear k0 k1 k2 k3 k4 k5 k6 k7 heq HOF
    have HS5 : Hid (SubS wc K s2 b) := HS2d.out.below HB5.out
    have HR5 : Hid (RdP wc K rb r) := HR2d.out.below HB5.out
    have HF5 : Hid (Frame (fun k => k = rb) w wc) := HF2d.out.trans (Frame.of_below_all HB5.out)
    have HP5 : Hid (RowV wc (w.heap.size + 1) 128 [.int .i64 0, .slice none 0 0]) := RowV.below HP2d.out HP2d.out.lt HB5.out
    have hkz : ∀ k, K k → k < wc.heap.size := fun k hk => Nat.lt_of_lt_of_le (HK.out k hk) HF5.out.size
    have HPO : Hid (Calls _ _ _ _ _) := pageOf_any K s2 b wc HS5.out hkz
    have HNF : Hid (pgO (some (x :: y :: l2)) [d0, d1, d2, d3, d4, d5, d6, d7] = match pageF b with
      | none => none
      | some p => some (p, r)) := by
     unfold Hid; rw [HNE.out]
     cases pageF b with
     | none => rfl
     | some p => simp only [if_pos HDE.out]
    clear HF2d HD2d HP2d HS2d HR2d HNE hkz
    go_wp2_with fail
    refine HPO.out.mono ?_
    rintro e w6 ⟨hb6, hm⟩
    have HF6 : Hid (Frame (fun k => k = rb) w w6) := HF5.out.inside (Frame.of_below hb6) (fun q hq e => by have := HF5.out.size; omega)
    have HP6 : Hid (RowV w6 (w.heap.size + 1) 128 [.int .i64 0, .slice none 0 0]) := RowV.below HP5.out HP5.out.lt hb6
    have HR6 : Hid (RdP w6 K rb r) := HR5.out.below hb6
    cases hpf : pageF b with
    | none =>
     rw [hpf] at hm
     obtain rfl : e = pkE := hm
     have HX : Hid (pgO (some (x :: y :: l2)) [d0, d1, d2, d3, d4, d5, d6, d7] = none) := by unfold Hid; rw [HNF.out, hpf]
     unfold pkE
     go_wp2
     refine ⟨rfl, HF6.out, ?_⟩
     rw [HX.out]; rfl
    | some p =>
     obtain ⟨lv, its⟩ := p
     rw [hpf] at hm
     obtain ⟨cur, xs, rfl, hens⟩ := hm
     have HX : Hid (pgO (some (x :: y :: l2)) [d0, d1, d2, d3, d4, d5, d6, d7] = some ((lv, its), r)) := by unfold Hid; rw [HNF.out, hpf]
     have HEN : Hid (EnsL lv w6 K wc.heap.size cur xs its) := hens
     have p0 := HP6.out.cell 0 (by simp)
     have p1 := HP6.out.cell 1 (by simp)
     have fp0 := HP6.out.frozen 0
     have fp1 := HP6.out.frozen 1
     simp only [List.getElem_cons_zero, List.getElem_cons_succ] at p0 p1
     clear hens hb6 hpf
     unfold SlR.val
     go_wp2
     have hft : Frame (fun k => k = w.heap.size + 1) w6 ((w6.setCell ⟨w.heap.size + 1, 0, none⟩ (.int .i64 (lv : Int))).setCell ⟨w.heap.size + 1, 1, none⟩ (.slice cur.a cur.n cur.cap)) := ((Frame.refl (fun k => k = w.heap.size + 1) w6).setCell (p := ⟨w.heap.size + 1, 0, none⟩) rfl _).setCell (p := ⟨w.heap.size + 1, 1, none⟩) rfl _
     have hrow : RowV ((w6.setCell ⟨w.heap.size + 1, 0, none⟩ (.int .i64 (lv : Int))).setCell ⟨w.heap.size + 1, 1, none⟩ (.slice cur.a cur.n cur.cap)) (w.heap.size + 1) 128 [.int .i64 (lv : Int), .slice cur.a cur.n cur.cap] := by simpa using (RowV.set HP6.out 0 (.int .i64 (lv : Int))).set 1 (.slice cur.a cur.n cur.cap)
     have hkf : ∀ q, K q → ¬ q = w.heap.size + 1 := fun q hq e => by have := HK.out q hq; omega
     refine ret_agg (k := 4) (cs := [.int .i64 (lv : Int), .slice cur.a cur.n cur.cap]) rfl rfl hrow Try.underlying128 rfl Try.sizePgP rfl ⟨HF6.out.inside hft (fun q hq e => by omega), ?_⟩
     rw [HX.out]
     exact ⟨cur, xs, rfl, (HEN.out.frame hft (fun q hq e => owns_ne HEN.out.own HP6.out (by decide) (by rw [hq, e])) hkf).toBase HF5.out.size, HR6.out.frame hft (by omega) hkf⟩
 ·have HTN : Hid (Calls _ _ _ _ _) := take_no K rb 2 l W hrd h2
  have HX : Hid (pgO (some l) [d0, d1, d2, d3, d4, d5, d6, d7] = none) := by
   unfold Hid pgO
   have : takeR 1 (takeR 1 (some l)) = none := by
    cases hh : takeR 1 (takeR 1 (some l)) with
    | none => rfl
    | some r =>
     obtain ⟨l1, g1, e1⟩ := takeR_len hh
     obtain ⟨l3, g2, e2⟩ := takeR_len g1
     cases g2; omega
   rw [this]; rfl
  clear h2
  go_wp2_with fail
  refine HTN.out.mono ?_
  rintro e w1 ⟨rfl, hw1⟩
  obtain rfl : W = w1 := hw1.symm
  unfold pkE
  go_wp2
  refine ⟨rfl, HF0.out, ?_⟩
  rw [HX.out]; rfl
end Go.Proofs.Ytekegfbjbainhaa
