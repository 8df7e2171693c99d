import Derived.Test.YtekegfbjbainhaaGreatKJoin28
import Derived.Deep.RegionLaw
import Derived.Deep.DeepCutAuto
import Derived.Deep.CutBlock
import Derived.Test.YtekegfbjbainhaaGreatKJoin34
import Derived.Test.YtekegfbjbainhaaGreatKJoin27
import Derived.BigQuiet
set_option linter.unusedVariables false
set_option linter.unusedSimpArgs false

namespace Go.Proofs.YtekegfbjbainhaaGreat
open Go.RowKit
attribute [local go_sem ↓] Go.wp_at_zero Go.wp_at_succ
theorem step_clone {ops : Array Oper} {o : Oper} {a : Act} {w : World} {K : Act → World → Prop} {Q : Exit → Act → World → Prop} {E : Prop} (hgd : o.guard = none) (t : TypeId) (i : Nat) (ho : o.op = .call { callee := .value (.func 30), args := #[.tmp i], argTypes := #[t] })
  (v : Value) (hx : a.eval (.tmp i) = v) (h : Calls Tryz.prog 30 #[v] w fun e w' => ∃ u, e = .returned u ∧ K (a.put o.dst u) w') : if Region.wanted o (yielded ops a.tmps) = true then Oper.wp Tryz.prog o a w K Q else E := by
 have hw : Region.wanted o (yielded ops a.tmps) = true := by simp [Region.wanted, hgd]
 have hx' : a.tmps[i]?.getD undef = v := by rw [← hx]; simp [Act.eval, Array.getD_eq_getD_getElem?]
 rw [if_pos hw]
 unfold Oper.wp execOp
 simp only [ho, List.map_toArray, List.map_cons, List.map_nil, hx]
 go_simp
 refine h.mono ?_
 rintro e w' ⟨u, rfl, hk⟩
 exact hk
set_option maxRecDepth 100000 in
set_option maxHeartbeats 8000000 in
theorem checkRangeP_any (sf st sp : SlR) (fr tu proof root : List UInt8) (w : World) (hr : root.length = 8) (hF : BS w sf fr) (hT : BS w st tu) (hp : BS w sp proof) (hpc : sp.n ≤ sp.cap) (hfm : fr.length ≤ maxLen) (htm : tu.length ≤ maxLen) (hM : proof.length ≤ 1000000000) :
  Calls Tryz.prog 68 #[dV root, sf.val, st.val, sp.val] w (rngPP w (rngC root fr tu proof)) := by
 obtain ⟨d0, d1, d2, d3, d4, d5, d6, d7, rfl⟩ := list8 root hr
 have hB1 : Below w.heap.size w (w.alloc (.cells #[.int .u8 (d0.toNat : Int), .int .u8 (d1.toNat : Int), .int .u8 (d2.toNat : Int), .int .u8 (d3.toNat : Int), .int .u8 (d4.toNat : Int), .int .u8 (d5.toNat : Int), .int .u8 (d6.toNat : Int), .int .u8 (d7.toNat : Int)] 36)) := (Below.refl _ _).alloc (Nat.le_refl _) _
 have HIR : Hid (Calls _ _ _ _ _) := isRange_any sf st fr tu (w.alloc (.cells #[.int .u8 (d0.toNat : Int), .int .u8 (d1.toNat : Int), .int .u8 (d2.toNat : Int), .int .u8 (d3.toNat : Int), .int .u8 (d4.toNat : Int), .int .u8 (d5.toNat : Int), .int .u8 (d6.toNat : Int), .int .u8 (d7.toNat : Int)] 36)) (hF.below hB1) (hT.below hB1) hfm htm
 have HRR : Hid (Calls _ _ _ _ _) := readRange_any sf st sp fr tu proof [d0, d1, d2, d3, d4, d5, d6, d7] (w.alloc (.cells #[.int .u8 (d0.toNat : Int), .int .u8 (d1.toNat : Int), .int .u8 (d2.toNat : Int), .int .u8 (d3.toNat : Int), .int .u8 (d4.toNat : Int), .int .u8 (d5.toNat : Int), .int .u8 (d6.toNat : Int), .int .u8 (d7.toNat : Int)] 36)) rfl (hF.below hB1) (hT.below hB1) (hp.below hB1) hpc hM
 rw [show dV [d0, d1, d2, d3, d4, d5, d6, d7] = .agg #[.int .u8 (d0.toNat : Int), .int .u8 (d1.toNat : Int), .int .u8 (d2.toNat : Int), .int .u8 (d3.toNat : Int), .int .u8 (d4.toNat : Int), .int .u8 (d5.toNat : Int), .int .u8 (d6.toNat : Int), .int .u8 (d7.toNat : Int)] from rfl] at HRR ⊢
 have HB1 : Hid (Below w.heap.size w (w.alloc (.cells #[.int .u8 (d0.toNat : Int), .int .u8 (d1.toNat : Int), .int .u8 (d2.toNat : Int), .int .u8 (d3.toNat : Int), .int .u8 (d4.toNat : Int), .int .u8 (d5.toNat : Int), .int .u8 (d6.toNat : Int), .int .u8 (d7.toNat : Int)] 36))) := hB1
 have HD0 : Hid (RowV (w.alloc (.cells #[.int .u8 (d0.toNat : Int), .int .u8 (d1.toNat : Int), .int .u8 (d2.toNat : Int), .int .u8 (d3.toNat : Int), .int .u8 (d4.toNat : Int), .int .u8 (d5.toNat : Int), .int .u8 (d6.toNat : Int), .int .u8 (d7.toNat : Int)] 36)) w.heap.size 36 ([d0, d1, d2, d3, d4, d5, d6, d7].map u8c)) := RowV.new w 36 ([d0, d1, d2, d3, d4, d5, d6, d7].map u8c)
 have HF : Hid (BS (w.alloc (.cells #[.int .u8 (d0.toNat : Int), .int .u8 (d1.toNat : Int), .int .u8 (d2.toNat : Int), .int .u8 (d3.toNat : Int), .int .u8 (d4.toNat : Int), .int .u8 (d5.toNat : Int), .int .u8 (d6.toNat : Int), .int .u8 (d7.toNat : Int)] 36)) sf fr) := hF.below hB1
 have HT : Hid (BS (w.alloc (.cells #[.int .u8 (d0.toNat : Int), .int .u8 (d1.toNat : Int), .int .u8 (d2.toNat : Int), .int .u8 (d3.toNat : Int), .int .u8 (d4.toNat : Int), .int .u8 (d5.toNat : Int), .int .u8 (d6.toNat : Int), .int .u8 (d7.toNat : Int)] 36)) st tu) := hT.below hB1
 have HM : Hid (proof.length ≤ 1000000000) := hM
 obtain ⟨q, hq⟩ : ∃ q, rngC [d0, d1, d2, d3, d4, d5, d6, d7] fr tu proof = q := ⟨_, rfl⟩
 rw [hq]
 have HQ : Hid (rngC [d0, d1, d2, d3, d4, d5, d6, d7] fr tu proof = q) := hq
 unfold SlR.val at HIR ⊢
 clear hr hF hT hp hpc hfm htm hM hq hB1
 go_enter Tryz.func68, Tryz.ntmps68
 go_upto_region 1 with fail
 generalize w.alloc (.cells #[.int .u8 (d0.toNat : Int), .int .u8 (d1.toNat : Int), .int .u8 (d2.toNat : Int), .int .u8 (d3.toNat : Int), .int .u8 (d4.toNat : Int), .int .u8 (d5.toNat : Int), .int .u8 (d6.toNat : Int), .int .u8 (d7.toNat : Int)] 36) = W at *
 cases hro : rngOk fr tu with
 | false =>
  rw [hro] at HIR
  have HQ1 : Hid (q = (1, [])) := by unfold Hid; rw [← HQ.out]; unfold rngC; rw [if_neg (by rw [hro]; simp)]
  go_wp2_with (go_at_call 91; refine HIR.out.mono ?_; rintro r w1 ⟨rfl, hw1⟩; obtain rfl : W = w1 := hw1.symm; clear hw1)
  go_ret2
  rw [HQ1.out]; exact ⟨⟨none, 0, 0⟩, [], rfl, HB1.out, EntsO.nil _ _⟩
 | true =>
  rw [hro] at HIR
  have HQ1 : Hid (q = match rangeC [d0, d1, d2, d3, d4, d5, d6, d7] fr tu proof with
    | none => (5, [])
    | some l => (0, l)) := by unfold Hid; rw [← HQ.out]; unfold rngC; rw [if_pos hro]; cases rangeC [d0, d1, d2, d3, d4, d5, d6, d7] fr tu proof <;> rfl
  have k0 : W.cell? ⟨w.heap.size, 0, none⟩ = some (.int .u8 (d0.toNat : Int)) := HD0.out.cell 0 (by simp)
  have k1 : W.cell? ⟨w.heap.size, 1, none⟩ = some (.int .u8 (d1.toNat : Int)) := HD0.out.cell 1 (by simp)
  have k2 : W.cell? ⟨w.heap.size, 2, none⟩ = some (.int .u8 (d2.toNat : Int)) := HD0.out.cell 2 (by simp)
  have k3 : W.cell? ⟨w.heap.size, 3, none⟩ = some (.int .u8 (d3.toNat : Int)) := HD0.out.cell 3 (by simp)
  have k4 : W.cell? ⟨w.heap.size, 4, none⟩ = some (.int .u8 (d4.toNat : Int)) := HD0.out.cell 4 (by simp)
  have k5 : W.cell? ⟨w.heap.size, 5, none⟩ = some (.int .u8 (d5.toNat : Int)) := HD0.out.cell 5 (by simp)
  have k6 : W.cell? ⟨w.heap.size, 6, none⟩ = some (.int .u8 (d6.toNat : Int)) := HD0.out.cell 6 (by simp)
  have k7 : W.cell? ⟨w.heap.size, 7, none⟩ = some (.int .u8 (d7.toNat : Int)) := HD0.out.cell 7 (by simp)
  go_wp2_with (go_at_call 91; refine HIR.out.mono ?_; rintro r w1 ⟨rfl, hw1⟩; obtain rfl : W = w1 := hw1.symm; clear hw1)
  refine HRR.out.mono ?_
  rintro e w3 ⟨hb3, hm⟩
  have HB3 : Hid (Below w.heap.size w w3) := HB1.out.trans (hb3.mono HB1.out.size)
  have HF3 : Hid (BS w3 sf fr) := HF.out.below hb3
  have HT3 : Hid (BS w3 st tu) := HT.out.below hb3
  clear k0 k1 k2 k3 k4 k5 k6 k7 HRR HIR hb3 HD0 HF HT
  cases hrr : rrd [d0, d1, d2, d3, d4, d5, d6, d7] fr tu proof with
  | none =>
   rw [hrr] at hm
   obtain rfl : e = _ := hm
   have HQ5 : Hid (q = (5, [])) := by unfold Hid; rw [HQ1.out, rangeC_rrd, hrr]; rfl
   go_wp2
   go_ret2
   rw [HQ5.out]; exact ⟨⟨none, 0, 0⟩, [], rfl, HB3.out, EntsO.nil _ _⟩
  | some es =>
   rw [hrr] at hm
   obtain ⟨v, ys, rfl, hen⟩ := hm
   have HQ0 : Hid (q = (0, es.filter (inR fr tu))) := by unfold Hid; rw [HQ1.out, rangeC_rrd, hrr]; rfl
   have hvn : v.n = ys.length := (SlV.ofOwn (s := v) hen.own).2
   have HVN : Hid (v.n = es.length) := by unfold Hid; rw [hvn, hen.len]
   have HLP : Hid (es.length ≤ 1000000000) := Nat.le_trans (rrd_ok _ _ _ _ _ hrr) HM.out
   have HLN : Hid (∀ x ∈ es, x.key.length ≤ 12 ∧ x.more.length ≤ 12) := rrd_lens _ _ _ _ _ hrr
   have HEN : Hid (EnsL 0 w3 (blkOf sp) W.heap.size v ys es) := hen
   have hvI : (v.n : Int) ≤ 1000000000 := by rw [HVN.out]; have := HLP.out; omega
   clear hrr hen hvn HQ1
   unfold SlR.val
   go_wp2
   go_loopw [12, 14, 31] (fun ov _ ix wr => ∃ (k : Nat) (o : SlR) (os : List (SlR × SlR)), k ≤ es.length ∧ ix = .int .i64 (k : Int) ∧ ov = .slice o.a o.n o.cap ∧ Hid (Below w3.heap.size w3 wr) ∧ Hid (EntsO wr w3.heap.size o os ((es.take k).filter (inR fr tu)))) (fun _ _ ix _ => es.length - (intOf ix).toNat)
   case atStart => exact ⟨0, ⟨none, 0, 0⟩, [], by omega, by simp, rfl, Below.refl _ _, EntsO.nil _ _⟩
   case round =>
    obtain ⟨k, o, os, hk, rfl, rfl, HBr, HO⟩ := hrel
    have hkM : (k : Int) ≤ 1000000000 := by have := HLP.out; omega
    by_cases hlt : k < es.length
    ·have hkI : (k : Int) < v.n := by rw [HVN.out]; omega
     have hky : k < ys.length := by rw [HEN.out.len]; exact hlt
     have hensr := HEN.out.below HBr.out
     obtain ⟨b, oo, hca, hbb, hrg⟩ := SlE.range (SlV.ofOwn (s := v) hensr.own).1 hensr.d8 k hky
     have hen := hensr.en k hky hlt
     have HTK : Hid ((es.take (k + 1)).filter (inR fr tu) = (es.take k).filter (inR fr tu) ++ (if inR fr tu es[k] = true then [es[k]] else [])) := by
      unfold Hid; rw [List.take_succ_eq_append_getElem hlt, List.filter_append]
      congr 1
      cases h : inR fr tu es[k] <;> simp [h]
     have hln := HLN.out _ (List.getElem_mem hlt)
     generalize ys[k] = y at *
     generalize es[k] = it at *
     obtain ⟨sk, sv, dd⟩ := y
     obtain ⟨x0, x1, x2, x3, x4, x5, x6, x7, rfl⟩ := list8 dd hen.d8
     have HRG : Hid (wr.rangeAt b (oo + k * 10) [.slice sk.a sk.n sk.cap, .slice sv.a sv.n sv.cap, .int .u8 (x0.toNat : Int), .int .u8 (x1.toNat : Int), .int .u8 (x2.toNat : Int), .int .u8 (x3.toNat : Int), .int .u8 (x4.toNat : Int), .int .u8 (x5.toNat : Int), .int .u8 (x6.toNat : Int), .int .u8 (x7.toNat : Int)]) := hrg
     have hbe : Below wr.heap.size wr (wr.alloc (.cells #[.slice sk.a sk.n sk.cap, .slice sv.a sv.n sv.cap, .int .u8 (x0.toNat : Int), .int .u8 (x1.toNat : Int), .int .u8 (x2.toNat : Int), .int .u8 (x3.toNat : Int), .int .u8 (x4.toNat : Int), .int .u8 (x5.toNat : Int), .int .u8 (x6.toNat : Int), .int .u8 (x7.toNat : Int)] 74)) := (Below.refl _ _).alloc (Nat.le_refl _) _
     have HBE : Hid (Below wr.heap.size wr (wr.alloc (.cells #[.slice sk.a sk.n sk.cap, .slice sv.a sv.n sv.cap, .int .u8 (x0.toNat : Int), .int .u8 (x1.toNat : Int), .int .u8 (x2.toNat : Int), .int .u8 (x3.toNat : Int), .int .u8 (x4.toNat : Int), .int .u8 (x5.toNat : Int), .int .u8 (x6.toNat : Int), .int .u8 (x7.toNat : Int)] 74))) := hbe
     have HXE : Hid (RowV (wr.alloc (.cells #[.slice sk.a sk.n sk.cap, .slice sv.a sv.n sv.cap, .int .u8 (x0.toNat : Int), .int .u8 (x1.toNat : Int), .int .u8 (x2.toNat : Int), .int .u8 (x3.toNat : Int), .int .u8 (x4.toNat : Int), .int .u8 (x5.toNat : Int), .int .u8 (x6.toNat : Int), .int .u8 (x7.toNat : Int)] 74)) wr.heap.size 74 [.slice sk.a sk.n sk.cap, .slice sv.a sv.n sv.cap, .int .u8 (x0.toNat : Int), .int .u8 (x1.toNat : Int), .int .u8 (x2.toNat : Int), .int .u8 (x3.toNat : Int), .int .u8 (x4.toNat : Int), .int .u8 (x5.toNat : Int), .int .u8 (x6.toNat : Int), .int .u8 (x7.toNat : Int)]) := RowV.new wr _ _
     have HSK : Hid (BS (wr.alloc (.cells #[.slice sk.a sk.n sk.cap, .slice sv.a sv.n sv.cap, .int .u8 (x0.toNat : Int), .int .u8 (x1.toNat : Int), .int .u8 (x2.toNat : Int), .int .u8 (x3.toNat : Int), .int .u8 (x4.toNat : Int), .int .u8 (x5.toNat : Int), .int .u8 (x6.toNat : Int), .int .u8 (x7.toNat : Int)] 74)) sk it.key) := hen.key.bs.below hbe
     have HSV : Hid (BS (wr.alloc (.cells #[.slice sk.a sk.n sk.cap, .slice sv.a sv.n sv.cap, .int .u8 (x0.toNat : Int), .int .u8 (x1.toNat : Int), .int .u8 (x2.toNat : Int), .int .u8 (x3.toNat : Int), .int .u8 (x4.toNat : Int), .int .u8 (x5.toNat : Int), .int .u8 (x6.toNat : Int), .int .u8 (x7.toNat : Int)] 74)) sv it.more) := (hen.low rfl).1.bs.below hbe
     have HFr : Hid (BS (wr.alloc (.cells #[.slice sk.a sk.n sk.cap, .slice sv.a sv.n sv.cap, .int .u8 (x0.toNat : Int), .int .u8 (x1.toNat : Int), .int .u8 (x2.toNat : Int), .int .u8 (x3.toNat : Int), .int .u8 (x4.toNat : Int), .int .u8 (x5.toNat : Int), .int .u8 (x6.toNat : Int), .int .u8 (x7.toNat : Int)] 74)) sf fr) := (HF3.out.below HBr.out).below hbe
     have HTr : Hid (BS (wr.alloc (.cells #[.slice sk.a sk.n sk.cap, .slice sv.a sv.n sv.cap, .int .u8 (x0.toNat : Int), .int .u8 (x1.toNat : Int), .int .u8 (x2.toNat : Int), .int .u8 (x3.toNat : Int), .int .u8 (x4.toNat : Int), .int .u8 (x5.toNat : Int), .int .u8 (x6.toNat : Int), .int .u8 (x7.toNat : Int)] 74)) st tu) := (HT3.out.below HBr.out).below hbe
     obtain ⟨va, vn, vc⟩ := v
     simp only at hca hkI hvI HVN
     subst hca
     clear hrg hen hbe hensr
     go_upto_block 1 with fail
     go_cut [12] (fun ov wx => ∃ (o' : SlR) (os' : List (SlR × SlR)), ov = .slice o'.a o'.n o'.cap ∧ Hid (Below w3.heap.size w3 wx) ∧ Hid (EntsO wx w3.heap.size o' os' ((es.take (k + 1)).filter (inR fr tu))))
     case first =>
      go_upto_region 10 with (refine wpList_load_mid (by rfl) 74 (.tmp 33) (by rfl) b (oo + k * 10) (by rfl) [.slice sk.a sk.n sk.cap, .slice sv.a sv.n sv.cap, .int .u8 (x0.toNat : Int), .int .u8 (x1.toNat : Int), .int .u8 (x2.toNat : Int), .int .u8 (x3.toNat : Int), .int .u8 (x4.toNat : Int), .int .u8 (x5.toNat : Int), .int .u8 (x6.toNat : Int), .int .u8 (x7.toNat : Int)] _ HRG.out Tryz.underlying74 rfl Tryz.sizeEntryB ?_)
      generalize wr.alloc (.cells #[.slice sk.a sk.n sk.cap, .slice sv.a sv.n sv.cap, .int .u8 (x0.toNat : Int), .int .u8 (x1.toNat : Int), .int .u8 (x2.toNat : Int), .int .u8 (x3.toNat : Int), .int .u8 (x4.toNat : Int), .int .u8 (x5.toNat : Int), .int .u8 (x6.toNat : Int), .int .u8 (x7.toNat : Int)] 74) = W4 at *
      have HWW : Hid (w3.heap.size ≤ wr.heap.size) := HBr.out.size
      have e0 := HXE.out.cell 0 (by simp)
      have e1 := HXE.out.cell 1 (by simp)
      simp only [List.getElem_cons_zero, List.getElem_cons_succ] at e0 e1
      have HC1 : Hid (Calls _ _ _ _ _) := compare_any sk sf it.key fr W4 HSK.out HFr.out
      have HC2 : Hid (Calls _ _ _ _ _) := compare_any sk st it.key tu W4 HSK.out HTr.out
      have HL1 := cmp_neg it.key fr
      have HL2 := cmp_neg it.key tu
      have HD1 := cmp_bd it.key fr
      have HD2 := cmp_bd it.key tu
      have HIR2 : Hid (inR fr tu it = (!(Op.bytesLess it.key fr) && Op.bytesLess it.key tu)) := rfl
      generalize Lib.compareBytes it.key fr = c at *
      generalize Lib.compareBytes it.key tu = d at *
      have HEI : Hid (inR fr tu it = (decide (0 ≤ c) && decide (d < 0))) := by
       unfold Hid; rw [HIR2.out]
       have g1 : Op.bytesLess it.key fr = decide (c < 0) := by rw [Bool.eq_iff_iff]; simp [HL1]
       have g2 : Op.bytesLess it.key tu = decide (d < 0) := by rw [Bool.eq_iff_iff]; simp [HL2]
       rw [g1, g2]
       by_cases hc : 0 ≤ c
       ·have : ¬ c < 0 := by omega
        simp [hc, this]
       ·have : c < 0 := by omega
        simp [hc, this]
      unfold SlR.val at HC1 HC2
      clear HL1 HL2 HIR2
      go_cut [46] (fun cv wx => cv = .bool (inR fr tu it) ∧ wx = W4)
      case first =>
       by_cases hc : 0 ≤ c
       ·go_wp2_with (first
         | (go_at_call_of 63 (Value.slice sf.a sf.n sf.cap); refine HC1.out.mono ?_; rintro e w5 ⟨rfl, hw5⟩; obtain rfl : W4 = w5 := hw5.symm; clear hw5)
         | (go_at_call_of 63 (Value.slice st.a st.n st.cap); refine HC2.out.mono ?_; rintro e w5 ⟨rfl, hw5⟩; obtain rfl : W4 = w5 := hw5.symm; clear hw5))
        go_meet
        case rel => exact ⟨by rw [HEI.out]; simp [hc], rfl⟩
       ·go_wp2_with (go_at_call_of 63 (Value.slice sf.a sf.n sf.cap); refine HC1.out.mono ?_; rintro e w5 ⟨rfl, hw5⟩; obtain rfl : W4 = w5 := hw5.symm; clear hw5)
        go_meet
        case rel =>
         have hc2 : ¬ 0 ≤ c := by omega
         exact ⟨by rw [HEI.out]; simp [hc2], rfl⟩
      case rest =>
       obtain ⟨rfl, hwc⟩ := hcut
       obtain rfl : W4 = wc := hwc.symm
       clear hwc HC1 HC2 HEI HD1 HD2
       have HCK : Hid (∀ W', Below W4.heap.size W4 W' → Calls Tryz.prog 30 #[.slice sk.a sk.n sk.cap] W' fun e w' => ∃ s' : SlR, e = .returned (.slice s'.a s'.n s'.cap) ∧ OwnB w' W'.heap.size s'.val it.key ∧ Below W'.heap.size W' w') := fun W' hW => cloneO_any sk it.key W' (HSK.out.below hW) (by have := hln.1; omega)
       have HCV : Hid (∀ W', Below W4.heap.size W4 W' → Calls Tryz.prog 30 #[.slice sv.a sv.n sv.cap] W' fun e w' => ∃ s' : SlR, e = .returned (.slice s'.a s'.n s'.cap) ∧ OwnB w' W'.heap.size s'.val it.more ∧ Below W'.heap.size W' w') := fun W' hW => cloneO_any sv it.more W' (HSV.out.below hW) (by have := hln.2; omega)
       have HOL : Hid (os.length ≤ 1000000000) := by
        unfold Hid; rw [HO.out.len]
        exact Nat.le_trans (List.length_filter_le _ _) (Nat.le_trans (List.length_take_le' _ _) HLP.out)
       have e0d : W4.drew.cell? ⟨wr.heap.size, 0, none⟩ = some (.slice sk.a sk.n sk.cap) := e0
       have e1d : W4.drew.cell? ⟨wr.heap.size, 1, none⟩ = some (.slice sv.a sv.n sv.cap) := e1
       clear e0 e1
       cases hin : inR fr tu it with
       | false =>
        have HT2 : Hid ((es.take (k + 1)).filter (inR fr tu) = (es.take k).filter (inR fr tu)) := by unfold Hid; rw [HTK.out, hin]; simp
        go_wp2_with fail
        go_meet
        case rel => exact ⟨o, os, rfl, HBr.out.trans (HBE.out.mono HWW.out), by unfold Hid; rw [HT2.out]; exact HO.out.below HBE.out⟩
       | true =>
        have HT2 : Hid ((es.take (k + 1)).filter (inR fr tu) = (es.take k).filter (inR fr tu) ++ [it]) := by unfold Hid; rw [HTK.out, hin]; simp
        go_upto_region 11 with fail
        go_region_law (first
         | (refine step_clone (by rfl) 38 49 (by rfl) (.slice sk.a sk.n sk.cap) (by rfl) ?_; refine (HCK.out _ ((Below.refl _ _).drew)).mono ?_; rintro e w5 ⟨s5, rfl, ho5, hb5⟩; have hb45 : Below W4.heap.size W4 w5 := ((Below.refl _ _).drew).trans hb5; have e1x := (RowV.below HXE.out HXE.out.lt hb45).cell 1 (by simp); simp only [List.getElem_cons_zero, List.getElem_cons_succ] at e1x; refine ⟨_, rfl, ?_⟩)
         | (revert hb5; intro hb5; refine step_clone (by rfl) 38 52 (by rfl) (.slice sv.a sv.n sv.cap) (by rfl) ?_; refine (HCV.out _ hb45).mono ?_; rintro e w6 ⟨s6, rfl, ho6, hb6⟩; refine ⟨_, rfl, ?_⟩)
         | (revert hb6; intro hb6; have HBA : Below W4.heap.size W4 (w6.alloc (.cells #[.slice s5.a s5.n s5.cap, .slice s6.a s6.n s6.cap] 164)) := ((hb45.trans (hb6.mono hb45.size)).alloc (Nat.le_trans hb45.size hb6.size) _); have HBX : Below wr.heap.size wr (w6.alloc (.cells #[.slice s5.a s5.n s5.cap, .slice s6.a s6.n s6.cap] 164)) := HBE.out.trans (HBA.mono HBE.out.size); refine step_appendV (by rfl) (.tmp 47) (.tmp 55) 63 (by rfl) w3.heap.size 164 _ 2 48 Tryz.underlying63 Tryz.infoEnt rfl (by decide) (.slice o.a o.n o.cap) os.length (entsC os) (by rfl) (owns_below HO.out.own HBX) ⟨w6.heap.size, 0, none⟩ 1 1 (entsC [(s5, s6)]) (by rfl) rfl (SlV.alloc_new w6 (entsC [(s5, s6)]) _) (entsC_one _) (by have := HOL.out; unfold maxLen; omega) (by have := HOL.out; omega) (Nat.le_trans HWW.out HBX.size) ?_; intro a9 n9 c9 w9 ho9 hf9 hat9))
        all_goals
         go_wp2_with fail
         go_meet
         case rel =>
          have hba : Below w6.heap.size w6 (w6.alloc (.cells #[.slice s5.a s5.n s5.cap, .slice s6.a s6.n s6.cap] 164)) := (Below.refl _ _).alloc (Nat.le_refl _) _
          have hz4 : wr.heap.size ≤ W4.heap.size := HBE.out.size
          have hz5 : W4.heap.size ≤ w5.heap.size := hb45.size
          have h1 : OwnB (w6.alloc (.cells #[.slice s5.a s5.n s5.cap, .slice s6.a s6.n s6.cap] 164)) w3.heap.size s5.val it.key := owns_base (owns_below (owns_below ho5 hb6) hba) (fun q hq => by have g := (ho5.lt q hq).1; have g2 : W4.drew.heap.size = W4.heap.size := rfl; have := HWW.out; omega)
          have h2 : OwnB (w6.alloc (.cells #[.slice s5.a s5.n s5.cap, .slice s6.a s6.n s6.cap] 164)) w3.heap.size s6.val it.more := owns_base (owns_below ho6 hba) (fun q hq => by have g := (ho6.lt q hq).1; have := HWW.out; omega)
          have hO9 : EntsO w9 w3.heap.size ⟨a9, n9, c9⟩ (os ++ [(s5, s6)]) ((es.take k).filter (inR fr tu) ++ [it]) := EntsO.push (N := W4.heap.size) (v := o) (v' := ⟨a9, n9, c9⟩) (HO.out.below HBX) h1 h2 (fun i g q hq => by have g2 := ((HO.out.ob i g (by rw [flatL_length, ← HO.out.len, ← flatE_length]; exact g)).lt q hq).2; omega) (fun q hq => (ho5.lt q hq).1) (fun q hq => by have g := (ho6.lt q hq).1; omega) (fun q hq hq' => by have g := (ho5.lt q hq).2; have g2 := (ho6.lt q hq').1; omega) ho9 hf9
          have hbz : Below w3.heap.size w3 (w6.alloc (.cells #[.slice s5.a s5.n s5.cap, .slice s6.a s6.n s6.cap] 164)) := HBr.out.trans (HBX.mono HWW.out)
          exact ⟨⟨a9, n9, c9⟩, os ++ [(s5, s6)], rfl, hbz.trans (hf9.below hbz.size (fun q hq => (HO.out.own.lt q hq).1)), by unfold Hid; rw [HT2.out]; exact hO9⟩
     case rest =>
      obtain ⟨o', os', rfl, HB9, HO9⟩ := hcut
      go_wp2
      exact ⟨⟨k + 1, o', os', hlt, by go_num, rfl, HB9, HO9⟩, by simp [intOf]; omega⟩
    ·have hkI : ¬ (k : Int) < v.n := by rw [HVN.out]; omega
     obtain rfl : k = es.length := by omega
     have HTE : Hid (es.take es.length = es) := List.take_length
     go_wp2
     go_ret2
     rw [HQ0.out]
     refine ⟨o, os, rfl, HB3.out.trans (HBr.out.mono HB3.out.size), ?_⟩
     have := HO.out
     rw [HTE.out] at this
     exact this.toBase HB3.out.size
end Go.Proofs.YtekegfbjbainhaaGreat


namespace Go.Proofs.YtekegfbjbainhaaGreat
open Go.RowKit
attribute [local go_sem ↓] Go.wp_at_zero Go.wp_at_succ
structure EntV (w : World) (s : SlR) (el : List (SlR × SlR)) (l : List ItR) : Prop where
 sl : SlV w s.a (entsC el)
 n : s.n = el.length
 len : el.length = l.length
 bs : ∀ i (h1 : i < el.length) (h2 : i < l.length), BS w el[i].1 l[i].key ∧ BS w el[i].2 l[i].more
theorem EntsR.toV {w : World} {base : Nat} {v : SlR} {es : List (SlR × SlR)} {l : List ItR} (h : EntsR w base v es l) : EntV w v es l := by
 obtain ⟨h1, h2⟩ := SlV.ofOwn (s := v) h.own
 exact ⟨h1, h2, h.len, h.bs⟩
theorem ownB_bs {w : World} {base : Nat} {v : SlR} {l : List UInt8} (h : OwnB w base v.val l) : BS w v l := by
 have hc := owns_cap (a := v.a) (n' := v.n) (cap := v.cap) h
 obtain ⟨h1, h2, h3⟩ := OwnB.sl (a := v.a) (n := v.n) (cap := v.cap) h
 refine ⟨h1, h2, h3, fun x hx => ?_⟩
 rcases hc.2.2.2 with ⟨e, _⟩ | ⟨g, e, _, hlt⟩
 ·rw [hx] at e; cases e
 ·rw [hx] at e; cases e; exact hlt
theorem flatL_get (l : List ItR) : ∀ (i : Nat) (h : i < l.length), (flatL l)[i * 2]? = some l[i].key ∧ (flatL l)[i * 2 + 1]? = some l[i].more := by
 induction l with
 | nil => intro i h; simp at h
 | cons e l ih =>
  intro i h
  cases i with
  | zero => simp [flatL]
  | succ i =>
   have := ih i (by simpa using h)
   simp only [flatL, List.flatMap_cons] at this ⊢
   rw [show (i + 1) * 2 = i * 2 + 1 + 1 by omega, show i * 2 + 1 + 1 + 1 = (i * 2 + 1) + 1 + 1 by omega]
   simpa using this
theorem EntsO.toV {w : World} {base : Nat} {v : SlR} {es : List (SlR × SlR)} {l : List ItR} (h : EntsO w base v es l) : EntV w v es l := by
 obtain ⟨h1, h2⟩ := SlV.ofOwn (s := v) h.own
 refine ⟨h1, h2, h.len, fun i g1 g2 => ?_⟩
 obtain ⟨a0, a1⟩ := flatE_get es i g1
 have hf : (flatE es).length = es.length * 2 := flatE_length es
 have hfl : (flatL l).length = l.length * 2 := flatL_length l
 have b0 := flatL_get l i g2
 have o0 := h.ob (i * 2) (by omega) (by omega)
 have o1 := h.ob (i * 2 + 1) (by omega) (by omega)
 rw [List.getElem?_eq_getElem (by omega)] at a0 a1
 have b1 := b0.2
 have b2 := b0.1
 rw [List.getElem?_eq_getElem (by omega)] at b1 b2
 rw [Option.some.inj a0, Option.some.inj b2] at o0
 rw [Option.some.inj a1, Option.some.inj b1] at o1
 exact ⟨ownB_bs o0, ownB_bs o1⟩
theorem bs_string {w : World} {s : SlR} {l : List UInt8} (h : BS w s l) (q : Nat) : (convert 38 9 (.slice s.a s.n s.cap)).run Tryz.prog (w.drewN q) = .ok (.string ⟨l.toArray⟩) (w.drewN q) :=
 run_string_SlB (P := Tryz.prog) _ 38 9 5 s.a s.n s.cap _ Tryz.underlying38 Tryz.underlying5 Tryz.underlying9 h.n h.sl h.nil
set_option maxRecDepth 100000 in
set_option maxHeartbeats 2000000 in
theorem same_entries (sa sb : SlR) (ea eb : List (SlR × SlR)) (l : List ItR) (w : World) (ha : EntV w sa ea l) (hb : EntV w sb eb l) (hl : l.length ≤ 1000000000) :
  Calls Tryz.prog 70 #[sa.val, sb.val] w fun e w' => e = .returned (.bool true) ∧ ∃ m, w' = w.drewN m := by
 have hna : sa.n = l.length := by rw [ha.n, ha.len]
 have hnb : sb.n = l.length := by rw [hb.n, hb.len]
 have HA : Hid (EntV w sa ea l) := ha
 have HB : Hid (EntV w sb eb l) := hb
 have HLA : Hid (ea.length = l.length ∧ eb.length = l.length) := ⟨ha.len, hb.len⟩
 have hlI : (l.length : Int) ≤ 1000000000 := by omega
 clear ha hb
 obtain ⟨aa, an, ac⟩ := sa
 obtain ⟨ba, bn, bc⟩ := sb
 unfold SlR.val
 simp only at hna hnb ⊢
 subst hna hnb
 go_enter Tryz.func70, Tryz.ntmps70
 go_wp2_with fail
 go_loopw [5] (fun i wr => ∃ k m : Nat, k ≤ l.length ∧ i = .int .i64 k ∧ wr = w.drewN m) (fun i _ => l.length - (intOf i).toNat)
 case atStart => exact ⟨0, 0, by omega, rfl, rfl⟩
 case round =>
  obtain ⟨k, m, hk, rfl, rfl⟩ := hrel
  by_cases hlt : k < l.length
  ·have hltI : (k : Int) < l.length := by omega
   have hka : k < ea.length := by have := HLA.out; omega
   have hkb : k < eb.length := by have := HLA.out; omega
   obtain ⟨b, o, hca, hbb, c0, c1⟩ := entsC_cells HA.out.sl k hka
   obtain ⟨b', o', hca', hbb', c0', c1'⟩ := entsC_cells HB.out.sl k hkb
   obtain ⟨p1, p2⟩ := HA.out.bs k hka hlt
   obtain ⟨p3, p4⟩ := HB.out.bs k hkb hlt
   have r1 := fun q => bs_string p1 q
   have r2 := fun q => bs_string p2 q
   have r3 := fun q => bs_string p3 q
   have r4 := fun q => bs_string p4 q
   simp only at hca hca'
   subst hca hca'
   have d0 : w.cell? ⟨b, o + k * 2, none⟩ = some (.slice ea[k].1.a ea[k].1.n ea[k].1.cap) := c0
   have d1 : w.cell? ⟨b, o + k * 2 + 1, none⟩ = some (.slice ea[k].2.a ea[k].2.n ea[k].2.cap) := c1
   have d2 : w.cell? ⟨b', o' + k * 2, none⟩ = some (.slice eb[k].1.a eb[k].1.n eb[k].1.cap) := c0'
   have d3 : w.cell? ⟨b', o' + k * 2 + 1, none⟩ = some (.slice eb[k].2.a eb[k].2.n eb[k].2.cap) := c1'
   clear c0 c1 c0' c1' p1 p2 p3 p4
   generalize ea[k].1 = s1 at *
   generalize ea[k].2 = s2 at *
   generalize eb[k].1 = s3 at *
   generalize eb[k].2 = s4 at *
   generalize l[k].key = x1 at *
   generalize l[k].more = x2 at *
   go_wp2_with fail
   go_quiet (fail)
   go_wp2
   refine ⟨⟨k + 1, m + nq, by omega, by go_num, rfl⟩, by simp [intOf]; omega⟩
  ·have hltI : ¬ (k : Int) < l.length := by omega
   go_wp2
   go_ret
   exact ⟨rfl, m, rfl⟩
end Go.Proofs.YtekegfbjbainhaaGreat


namespace Go.Proofs.YtekegfbjbainhaaGreat
open Go.RowKit
attribute [local go_sem ↓] Go.wp_at_zero Go.wp_at_succ
theorem rngC_small (root fr tu proof : List UInt8) : (rngC root fr tu proof).2.length ≤ proof.length ∧ ∀ x ∈ (rngC root fr tu proof).2, x.key.length ≤ 12 ∧ x.more.length ≤ 12 := by
 unfold rngC
 split
 ·rw [rangeC_rrd]
  cases hr : rrd root fr tu proof with
  | none => simp
  | some es =>
   simp only [Option.map_some]
   refine ⟨Nat.le_trans (List.length_filter_le _ _) (rrd_ok root fr tu proof es hr), fun x hx => rrd_lens root fr tu proof es hr x (List.mem_filter.1 hx).1⟩
 ·simp
theorem flatL_small (l : List ItR) (h : ∀ x ∈ l, x.key.length ≤ 12 ∧ x.more.length ≤ 12) : ∀ y ∈ flatL l, y.length ≤ 100000000000000 := fun y hy => by
 obtain ⟨x, hx, hy⟩ := List.mem_flatMap.1 hy
 have := h x hx
 simp only [List.mem_cons, List.not_mem_nil, or_false] at hy
 rcases hy with rfl | rfl <;> omega
theorem checks_book {w W : World} {wb base : Nat} {ps v : SlR} {ds : List PairD} {B : BookD} {el : List (SlR × SlR)} {l : List ItR} (h : LawK w wb ps ds B) (hb : Below w.heap.size w W) (ho : EntsO W base v el l) (hwb : w.heap.size ≤ base) (hbW : base ≤ W.heap.size) (hl : l.length ≤ 1000000000) (hs : ∀ x ∈ l, x.key.length ≤ 12 ∧ x.more.length ≤ 12) (hn : B.rs.length + l.length * 2 ≤ 1200000000000) (hh : B.hs.length ≤ 1200000000000) :
  Calls Tryz.prog 71 #[.pointer (some ⟨wb, 1, none⟩), v.val] W fun e w' => e = .returned (.tuple #[]) ∧ ∃ B' : BookD, LawK w' wb ps ds B' ∧ B'.rs.length = B.rs.length + l.length * 2 ∧ B'.gs = B.gs ∧ B'.hs.length = B.hs.length + 1 ∧ Frame (fun k => k = wb ∨ B.F k) w w' := by
 have hW := h.below hb
 have hwl := RowV.lt h.row
 have hfo : ∀ i (hi : i < (flatE el).length), ∀ k, (flatE el)[i].val.ownBlock = some k → base ≤ k ∧ k < W.heap.size := fun i hi k hk => (ho.ob i hi (by rw [flatL_length, ← ho.len, ← flatE_length]; exact hi)).lt k hk
 have hp : EnPre W wb B.bs B.rs B.es B.hs (flatE el) (flatL l) base := by
  refine ⟨by omega, hbW, fun k hk => ?_, fun k hk => ?_, hfo, ho.pw, by rw [flatE_length, flatL_length, ho.len], flatL_small l hs⟩
  ·have h1 := h.bk.lt k hk
   have h2 := (h.low k (Or.inl hk)).1
   exact ⟨by omega, by omega⟩
  ·have h1 := h.be.lt k hk
   have h2 := (h.low k (Or.inr (Or.inr hk))).1
   exact ⟨by omega, by omega, (h.ap2 k hk).1⟩
 refine (book_entry wb ps B.bs B.dg B.es v B.rs B.hs el l base W hW.row hW.bk hW.be ho hp (by rw [ho.len]; exact hn) hh (by rw [ho.len]; exact hl)).mono ?_
 intro e w' hq
 obtain ⟨B', g1, g2, g3, g4, g5⟩ := h.moreE hb (fun k hk => by have := (ho.own.lt k hk).1; omega) (fun x hx k hk => by
  obtain ⟨i, hi, rfl⟩ := List.getElem_of_mem hx
  have := (hfo i hi k hk).1
  omega) hq
 exact ⟨hq.1, B', g1, by rw [g2, ho.len], g3, g4, g5⟩
set_option maxRecDepth 100000 in
set_option maxHeartbeats 4000000 in
theorem world_checks (root : List UInt8) (s t u : ByteArray) (wb : Nat) (ps : SlR) (ds : List PairD) (B : BookD) (w : World) (h : LawK w wb ps ds B) (hr : root.length = 8) (hs : s.size ≤ 140737488351232) (ht : t.size ≤ 140737488351232) (hu : u.size ≤ 1000000000) (hn : B.rs.length + u.size * 2 ≤ 1200000000000) (hh : B.hs.length ≤ 1200000000000) :
  Calls Tryz.prog 37 #[.pointer (some ⟨wb, 0, none⟩), dV root, .string s, .string t, .string u] w fun e w' => e = .returned (.bool true) ∧ ∃ B' : BookD, LawK w' wb ps ds B' ∧ B'.rs.length ≤ B.rs.length + u.size * 2 ∧ B'.gs = B.gs ∧ B'.hs.length = B.hs.length + 1 ∧ Frame (fun k => k = wb ∨ B.F k) w w' := by
 obtain ⟨x0, x1, x2, x3, x4, x5, x6, x7, rfl⟩ := list8 root hr
 have hu' : u.size ≤ 140737488351232 := by omega
 have HCP : Hid (∀ (W : World) (sk sl sp : SlR), BS W sk s.data.toList → BS W sl t.data.toList → BS W sp u.data.toList → sp.n ≤ sp.cap → Calls Tryz.prog 68 #[dV [x0, x1, x2, x3, x4, x5, x6, x7], sk.val, sl.val, sp.val] W (rngPP W (rngC [x0, x1, x2, x3, x4, x5, x6, x7] s.data.toList t.data.toList u.data.toList))) := fun W sk sl sp h1 h2 h3 h4 => checkRangeP_any sk sl sp _ _ _ _ W rfl h1 h2 h3 h4 (by simp; unfold maxLen; omega) (by simp; unfold maxLen; omega) (by simpa using hu)
 have HCR : Hid (∀ (W : World) (sk sl sp : SlR), BS W sk s.data.toList → BS W sl t.data.toList → BS W sp u.data.toList → sp.n ≤ sp.cap → Calls Tryz.prog 69 #[dV [x0, x1, x2, x3, x4, x5, x6, x7], sk.val, sl.val, sp.val] W (rngPost W (rngC [x0, x1, x2, x3, x4, x5, x6, x7] s.data.toList t.data.toList u.data.toList))) := fun W sk sl sp h1 h2 h3 h4 => checkRangeR_any sk sl sp _ _ _ _ W rfl h1 h2 h3 h4 (by simp; unfold maxLen; omega) (by simp; unfold maxLen; omega) (by simpa using hu)
 have HLQ : Hid ((rngC [x0, x1, x2, x3, x4, x5, x6, x7] s.data.toList t.data.toList u.data.toList).2.length ≤ u.size ∧ ∀ x ∈ (rngC [x0, x1, x2, x3, x4, x5, x6, x7] s.data.toList t.data.toList u.data.toList).2, x.key.length ≤ 12 ∧ x.more.length ≤ 12) := by
  have := rngC_small [x0, x1, x2, x3, x4, x5, x6, x7] s.data.toList t.data.toList u.data.toList
  exact ⟨by simpa using this.1, this.2⟩
 generalize rngC [x0, x1, x2, x3, x4, x5, x6, x7] s.data.toList t.data.toList u.data.toList = q at *
 have HR0 : Hid (RowV (w.alloc (.cells #[.int .u8 (x0.toNat : Int), .int .u8 (x1.toNat : Int), .int .u8 (x2.toNat : Int), .int .u8 (x3.toNat : Int), .int .u8 (x4.toNat : Int), .int .u8 (x5.toNat : Int), .int .u8 (x6.toNat : Int), .int .u8 (x7.toNat : Int)] 36)) w.heap.size 36 [.int .u8 (x0.toNat : Int), .int .u8 (x1.toNat : Int), .int .u8 (x2.toNat : Int), .int .u8 (x3.toNat : Int), .int .u8 (x4.toNat : Int), .int .u8 (x5.toNat : Int), .int .u8 (x6.toNat : Int), .int .u8 (x7.toNat : Int)]) := RowV.new w _ _
 have HA : Hid (Below w.heap.size w (w.alloc (.cells #[.int .u8 (x0.toNat : Int), .int .u8 (x1.toNat : Int), .int .u8 (x2.toNat : Int), .int .u8 (x3.toNat : Int), .int .u8 (x4.toNat : Int), .int .u8 (x5.toNat : Int), .int .u8 (x6.toNat : Int), .int .u8 (x7.toNat : Int)] 36))) := (Below.refl _ _).alloc (Nat.le_refl _) _
 have HH : Hid (LawK w wb ps ds B) := h
 have HN : Hid (B.rs.length + u.size * 2 ≤ 1200000000000 ∧ B.hs.length ≤ 1200000000000 ∧ u.size ≤ 1000000000) := ⟨hn, hh, hu⟩
 have hwb : wb < w.heap.size := RowV.lt h.law.row
 have hsI : (s.size : Int) ≤ 140737488351232 := by omega
 have htI : (t.size : Int) ≤ 140737488351232 := by omega
 have huI : (u.size : Int) ≤ 1000000000 := by omega
 clear h hn hr hh
 unfold dV at HCP HCR ⊢
 unfold u8c at HCP HCR ⊢
 simp only [List.map_cons, List.map_nil] at HCP HCR ⊢
 generalize (x0.toNat : Int) = y0 at *
 generalize (x1.toNat : Int) = y1 at *
 generalize (x2.toNat : Int) = y2 at *
 generalize (x3.toNat : Int) = y3 at *
 generalize (x4.toNat : Int) = y4 at *
 generalize (x5.toNat : Int) = y5 at *
 generalize (x6.toNat : Int) = y6 at *
 generalize (x7.toNat : Int) = y7 at *
 go_enter Tryz.func37, Tryz.ntmps37
 go_wp2_with fail
 refine (lent_ok s _ _ hs).mono ?_
 rintro e w0 ⟨a, cap, rfl, hl0, hb0, hz0⟩
 have HR1 : Hid (RowV w0 w.heap.size 36 _) := RowV.below HR0.out (RowV.lt HR0.out) hb0
 simp only [World.size_alloc] at hb0 hz0 hl0
 have z0 := hb0.size
 simp only [World.size_alloc] at z0
 have HB0 : Hid (Below w.heap.size w w0) := HA.out.trans (hb0.mono (by omega))
 have HL0 : Hid (LentAt w0 (w.heap.size + 1) s a cap) := hl0
 have HLT0 : Hid (∀ k, a = some ⟨k, 0, none⟩ → k = w.heap.size + 1 ∧ k < w0.heap.size) := fun k hk => ⟨(hl0.lt hk).1, by have := hl0.lt hk; omega⟩
 clear hb0 hl0 hz0
 go_wp2_with fail
 refine (lent_ok t _ _ ht).mono ?_
 rintro e w1 ⟨ta, tcap, rfl, hm1, hb1, hz1⟩
 have z1 := hb1.size
 have HL1 : Hid (LentAt w1 (w.heap.size + 1) s a cap) := HL0.out.below hb1 (Nat.le_refl _)
 have HM1 : Hid (LentAt w1 w0.heap.size t ta tcap) := hm1
 have HR2 : Hid (RowV w1 w.heap.size 36 _) := RowV.below HR1.out (RowV.lt HR1.out) hb1
 have HB1 : Hid (Below w.heap.size w w1) := HB0.out.trans (hb1.mono (by omega))
 have HLT1 : Hid (∀ k, ta = some ⟨k, 0, none⟩ → k = w0.heap.size ∧ k < w1.heap.size) := fun k hk => ⟨(hm1.lt hk).1, by have := hm1.lt hk; omega⟩
 clear hm1 hb1 hz1 HL0 HR1 HR0 HA
 go_wp2_with fail
 refine (lent_ok u _ _ hu').mono ?_
 rintro e w2 ⟨ua, ucap, rfl, hu1, hb2, hz2⟩
 have z2 := hb2.size
 have hl2 := HL1.out.below hb2 (Nat.le_refl _)
 have hm2 := HM1.out.below hb2 (Nat.le_refl _)
 have HR3 : Hid (RowV w2 w.heap.size 36 _) := RowV.below HR2.out (RowV.lt HR2.out) hb2
 have HB2 : Hid (Below w.heap.size w w2) := HB1.out.trans (hb2.mono (by omega))
 have HLT2 : Hid (∀ k, ua = some ⟨k, 0, none⟩ → k = w1.heap.size ∧ k < w2.heap.size) := fun k hk => ⟨(hu1.lt hk).1, by have := hu1.lt hk; omega⟩
 have hcap : u.size ≤ ucap := by
  rcases hu1 with ⟨_, rfl, e⟩ | ⟨_, rfl, _⟩
  ·rw [e]; exact Nat.le_refl _
  ·omega
 have HC := HCP.out w2 ⟨a, s.size, cap⟩ ⟨ta, t.size, tcap⟩ ⟨ua, u.size, ucap⟩ hl2.bs hm2.bs hu1.bs hcap
 unfold SlR.val at HC
 have e0 : w2.cell? ⟨w.heap.size, 0, none⟩ = some (.int .u8 y0) := RowV.cell HR3.out 0 (by simp)
 have e1 : w2.cell? ⟨w.heap.size, 1, none⟩ = some (.int .u8 y1) := RowV.cell HR3.out 1 (by simp)
 have e2 : w2.cell? ⟨w.heap.size, 2, none⟩ = some (.int .u8 y2) := RowV.cell HR3.out 2 (by simp)
 have e3 : w2.cell? ⟨w.heap.size, 3, none⟩ = some (.int .u8 y3) := RowV.cell HR3.out 3 (by simp)
 have e4 : w2.cell? ⟨w.heap.size, 4, none⟩ = some (.int .u8 y4) := RowV.cell HR3.out 4 (by simp)
 have e5 : w2.cell? ⟨w.heap.size, 5, none⟩ = some (.int .u8 y5) := RowV.cell HR3.out 5 (by simp)
 have e6 : w2.cell? ⟨w.heap.size, 6, none⟩ = some (.int .u8 y6) := RowV.cell HR3.out 6 (by simp)
 have e7 : w2.cell? ⟨w.heap.size, 7, none⟩ = some (.int .u8 y7) := RowV.cell HR3.out 7 (by simp)
 have HC : Hid (Calls _ _ _ _ _) := HC
 have HL2 : Hid (LentAt w2 (w.heap.size + 1) s a cap) := hl2
 have HM2 : Hid (LentAt w2 w0.heap.size t ta tcap) := hm2
 have HU2 : Hid (LentAt w2 w1.heap.size u ua ucap) := hu1
 have HZ : Hid (w.heap.size + 1 ≤ w0.heap.size ∧ w0.heap.size ≤ w1.heap.size ∧ w1.heap.size ≤ w2.heap.size) := ⟨by omega, by omega, by omega⟩
 clear hl2 hm2 hu1 hb2 hz2 hcap z0 z1 z2 HCP HR2 HL1 HM1 HB0 HB1
 go_wp2_with fail
 refine HC.out.mono ?_
 rintro e w3 ⟨v, el, rfl, hb3, ho3⟩
 unfold SlR.val
 have hl3 := HL2.out.below hb3 (Nat.le_refl _)
 have HM3 : Hid (LentAt w3 w0.heap.size t ta tcap) := HM2.out.below hb3 (Nat.le_refl _)
 have HU3 : Hid (LentAt w3 w1.heap.size u ua ucap) := HU2.out.below hb3 (Nat.le_refl _)
 have HR4 : Hid (RowV w3 w.heap.size 36 _) := RowV.below HR3.out (RowV.lt HR3.out) hb3
 have HO3 : Hid (EntsO w3 w2.heap.size v el q.2) := ho3
 have HB3 : Hid (Below w.heap.size w w3) := HB2.out.trans (hb3.mono HB2.out.size)
 have HZ3 : Hid (w2.heap.size ≤ w3.heap.size) := hb3.size
 clear hb3 ho3 e0 e1 e2 e3 e4 e5 e6 e7 HL2 HM2 HU2 HC HR3
 go_wp2_with fail
 refine (back_ok s a cap (w.heap.size + 1) _ hs hl3).mono ?_
 rintro e w4 ⟨rfl, hf4, hz4⟩
 have hza := HZ.out
 have hzb := HZ3.out
 have HB4 : Hid (Below w.heap.size w w4) := HB3.out.trans (hf4.below HB3.out.size (fun k hk => by have := HLT0.out k hk; omega))
 have HO4 : Hid (EntsO w4 w2.heap.size v el q.2) := HO3.out.frame hf4 (fun k e => by have h2 := HLT0.out k e; omega)
 have hm4 := HM3.out.frame hf4 (fun e => by have := HLT0.out _ e; omega)
 have HU4 : Hid (LentAt w4 w1.heap.size u ua ucap) := HU3.out.frame hf4 (fun e => by have := HLT0.out _ e; omega)
 have HR5 : Hid (RowV w4 w.heap.size 36 _) := RowV.of_block HR4.out (hf4.block _ (RowV.lt HR4.out) (fun e => by have := HLT0.out _ e; omega))
 clear hf4 hl3 HO3 HR4 HM3 HU3 HB3
 go_wp2_with fail
 refine (back_ok t ta tcap w0.heap.size _ ht hm4).mono ?_
 rintro e w5 ⟨rfl, hf5, hz5⟩
 have HB5 : Hid (Below w.heap.size w w5) := HB4.out.trans (hf5.below HB4.out.size (fun k hk => by have := HLT1.out k hk; omega))
 have HO5 : Hid (EntsO w5 w2.heap.size v el q.2) := HO4.out.frame hf5 (fun k e => by have h2 := HLT1.out k e; omega)
 have hu5 := HU4.out.frame hf5 (fun e => by have := HLT1.out _ e; omega)
 have HR6 : Hid (RowV w5 w.heap.size 36 _) := RowV.of_block HR5.out (hf5.block _ (RowV.lt HR5.out) (fun e => by have := HLT1.out _ e; omega))
 clear hf5 hm4 HO4 HR5 HU4 HB4
 go_wp2_with fail
 refine (back_ok u ua ucap w1.heap.size _ hu' hu5).mono ?_
 rintro e w6 ⟨rfl, hf6, hz6⟩
 have HB6 : Hid (Below w.heap.size w w6) := HB5.out.trans (hf6.below HB5.out.size (fun k hk => by have := HLT2.out k hk; omega))
 have HO6 : Hid (EntsO w6 w2.heap.size v el q.2) := HO5.out.frame hf6 (fun k e => by have h2 := HLT2.out k e; omega)
 have HR7 : Hid (RowV w6 w.heap.size 36 _) := RowV.of_block HR6.out (hf6.block _ (RowV.lt HR6.out) (fun e => by have := HLT2.out _ e; omega))
 have HZ6 : Hid (w2.heap.size ≤ w6.heap.size ∧ w.heap.size ≤ w2.heap.size) := ⟨by omega, by omega⟩
 clear hf6 hu5 HO5 HR6 HB5 hza hzb hz4 hz5 hz6
 have e0 : w6.cell? ⟨w.heap.size, 0, none⟩ = some (.int .u8 y0) := RowV.cell HR7.out 0 (by simp)
 have e1 : w6.cell? ⟨w.heap.size, 1, none⟩ = some (.int .u8 y1) := RowV.cell HR7.out 1 (by simp)
 have e2 : w6.cell? ⟨w.heap.size, 2, none⟩ = some (.int .u8 y2) := RowV.cell HR7.out 2 (by simp)
 have e3 : w6.cell? ⟨w.heap.size, 3, none⟩ = some (.int .u8 y3) := RowV.cell HR7.out 3 (by simp)
 have e4 : w6.cell? ⟨w.heap.size, 4, none⟩ = some (.int .u8 y4) := RowV.cell HR7.out 4 (by simp)
 have e5 : w6.cell? ⟨w.heap.size, 5, none⟩ = some (.int .u8 y5) := RowV.cell HR7.out 5 (by simp)
 have e6 : w6.cell? ⟨w.heap.size, 6, none⟩ = some (.int .u8 y6) := RowV.cell HR7.out 6 (by simp)
 have e7 : w6.cell? ⟨w.heap.size, 7, none⟩ = some (.int .u8 y7) := RowV.cell HR7.out 7 (by simp)
 have hcv := fun w => run_bytes_of_string (P := Tryz.prog) w 9 38 5 s Tryz.underlying9 Tryz.underlying38 Tryz.underlying5
 have hcu := fun w => run_bytes_of_string (P := Tryz.prog) w 9 38 5 t Tryz.underlying9 Tryz.underlying38 Tryz.underlying5
 have hcw := fun w => run_bytes_of_string (P := Tryz.prog) w 9 38 5 u Tryz.underlying9 Tryz.underlying38 Tryz.underlying5
 have hwl : w.heap.size < w6.heap.size := RowV.lt HR7.out
 have HREF : Hid (∀ (W : World) (a1 : Option Addr) (n1 c1 : Nat) (a2 : Option Addr) (n2 c2 : Nat) (a3 : Option Addr) (n3 c3 : Nat), Below w6.heap.size w6 W → BS W ⟨a1, n1, c1⟩ s.data.toList → BS W ⟨a2, n2, c2⟩ t.data.toList → BS W ⟨a3, n3, c3⟩ u.data.toList → n3 ≤ c3 → Calls Tryz.prog 69 #[.agg #[.int .u8 y0, .int .u8 y1, .int .u8 y2, .int .u8 y3, .int .u8 y4, .int .u8 y5, .int .u8 y6, .int .u8 y7], .slice a1 n1 c1, .slice a2 n2 c2, .slice a3 n3 c3] W fun e w' => ∃ (v' : SlR) (el' : List (SlR × SlR)), e = .returned (.tuple #[.slice v'.a v'.n v'.cap, .int .i64 (q.1 : Int)]) ∧ Below w6.heap.size w6 w' ∧ EntV w' v' el' q.2) := fun W a1 n1 c1 a2 n2 c2 a3 n3 c3 hb h1 h2 h3 h4 => (HCR.out W ⟨a1, n1, c1⟩ ⟨a2, n2, c2⟩ ⟨a3, n3, c3⟩ h1 h2 h3 h4).mono (by
  rintro e w' ⟨v', el', rfl, hb', hv'⟩
  exact ⟨v', el', rfl, hb.trans (hb'.mono hb.size), hv'.toV⟩)
 go_wp2_with fail
 refine (HREF.out _ _ _ _ _ _ _ _ _ _ (by repeat' (first | (with_reducible exact Below.refl _ _) | (with_reducible refine Below.drew ?_) | (with_reducible refine Below.alloc ?_ ?_ _) | omega | (simp only [World.size_alloc, World.size_drew]; omega))) (by repeat' (first | (with_reducible refine bs_ofString _ _ _ _ _ _ ?_; simp) | (with_reducible refine BS.drew ?_) | (with_reducible refine bs_alloc ?_ _))) (by repeat' (first | (with_reducible refine bs_ofString _ _ _ _ _ _ ?_; simp) | (with_reducible refine BS.drew ?_) | (with_reducible refine bs_alloc ?_ _))) (by repeat' (first | (with_reducible refine bs_ofString _ _ _ _ _ _ ?_; simp) | (with_reducible refine BS.drew ?_) | (with_reducible refine bs_alloc ?_ _))) (grownCap_ge _ _ _ _)).mono ?_
 rintro e w7 ⟨v', el', rfl, hb7, hv7⟩
 have HO7 : Hid (EntsO w7 w2.heap.size v el q.2) := HO6.out.below hb7
 have HB7 : Hid (Below w.heap.size w w7) := HB6.out.trans (hb7.mono HB6.out.size)
 have HZ7 : Hid (w2.heap.size ≤ w7.heap.size) := Nat.le_trans HZ6.out.1 hb7.size
 have HSE : Hid (Calls _ _ _ _ _) := same_entries v v' el el' q.2 w7 HO7.out.toV hv7 (by have := HLQ.out.1; have := HN.out.2.2; omega)
 unfold SlR.val at HSE
 clear hb7 hv7 HREF hcv hcu hcw HCR HO6 HB6 e0 e1 e2 e3 e4 e5 e6 e7 HR7
 go_wp2_with fail
 refine HSE.out.mono ?_
 rintro e w8 ⟨rfl, m, rfl⟩
 have hbd : Below w7.heap.size w7 (w7.drewN m) := by
  have hb := Below.refl w7.heap.size w7
  exact ⟨hb.os, hb.tape, hb.output, hb.size, hb.block⟩
 have HBE : Hid (Calls _ _ _ _ _) := checks_book HH.out (HB7.out.trans (hbd.mono HB7.out.size)) (HO7.out.below hbd) HZ6.out.2 HZ7.out (by have := HLQ.out.1; have := HN.out.2.2; omega) HLQ.out.2 (by have := HLQ.out.1; have := HN.out.1; omega) HN.out.2.1
 unfold SlR.val at HBE
 clear hbd HSE
 go_wp2_with fail
 refine HBE.out.mono ?_
 rintro e w9 ⟨rfl, B', g1, g2, g3, g4, g5⟩
 have G1 : Hid (LawK w9 wb ps ds B') := g1
 have G2 : Hid (B'.rs.length ≤ B.rs.length + u.size * 2) := by have := HLQ.out.1; unfold Hid; omega
 have G5 : Hid (Frame (fun k => k = wb ∨ B.F k) w w9) := g5
 clear g1 g2 g5 HBE
 go_wp2
 go_ret
 exact ⟨rfl, B', G1.out, G2.out, g3, g4, G5.out⟩
end Go.Proofs.YtekegfbjbainhaaGreat
