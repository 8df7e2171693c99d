
import Derived.Test.YtekegfbjbainhaaKJoin23
import Derived.Deep.RegionLaw
import Derived.Deep.DeepCutAuto
import Derived.Deep.CutBlock
set_option linter.unusedVariables false
set_option linter.unusedSimpArgs false
namespace Go.Proofs.Ytekegfbjbainhaa
open Go.RowKit
attribute [local go_sem ↓] Go.wp_at_zero Go.wp_at_succ
theorem step_clone {ops : Array Oper} {o : Oper} {a : Act} {w : World} {K : Act → World → Prop} {Q : Exit → Act → World → Prop} {E : Prop} (hgd : o.guard = none) (t : TypeId) (i : Nat) (ho : o.op = .call { callee := .value (.func 40), args := #[.tmp i], argTypes := #[t] })
  (v : Value) (hx : a.eval (.tmp i) = v) (h : Calls Try.prog 40 #[v] w fun e w' => ∃ u, e = .returned u ∧ K (a.put o.dst u) w') : if Region.wanted o (yielded ops a.tmps) = true then Oper.wp Try.prog o a w K Q else E := by
 have hw : Region.wanted o (yielded ops a.tmps) = true := by simp [Region.wanted, hgd]
 have hx' : a.tmps[i]?.getD undef = v := by rw [← hx]; simp [Act.eval, Array.getD_eq_getD_getElem?]
 rw [if_pos hw]
 unfold Oper.wp execOp
 simp only [ho, List.map_toArray, List.map_cons, List.map_nil, hx]
 go_simp
 refine h.mono ?_
 rintro e w' ⟨u, rfl, hk⟩
 exact hk
theorem rrd_most {root fr tu proof : List UInt8} {es : List ItR} (h : rrd root fr tu proof = some es) : es.length ≤ 2799360000000 := by
 unfold rrd rngRd at h
 cases hp : pgO (some proof) root with
 | none => rw [hp] at h; cases h
 | some q =>
  obtain ⟨⟨lv, its⟩, r⟩ := q
  rw [hp] at h
  simp only at h
  cases hu : readU fr tu lv its r with
  | none => rw [hu] at h; cases h
  | some q2 =>
   obtain ⟨q1, r1⟩ := q2
   rw [hu] at h
   simp only at h
   split at h
   ·cases h
    exact read_most (pgO_ok hp) hu
   ·cases h
set_option maxRecDepth 100000 in
set_option maxHeartbeats 8000000 in
theorem checkRangeP_any (sf st sp : SlR) (fr tu proof root : List UInt8) (w : World) (hr : root.length = 8) (hF : BS w sf fr) (hT : BS w st tu) (hp : BS w sp proof) (hpc : sp.n ≤ sp.cap) (hfm : fr.length ≤ maxLen) (htm : tu.length ≤ maxLen) :
  Calls Try.prog 20 #[dV root, sf.val, st.val, sp.val] w (rngPP w (rngC root fr tu proof)) := by
 obtain ⟨d0, d1, d2, d3, d4, d5, d6, d7, rfl⟩ := list8 root hr
 have hB1 : Below w.heap.size w (w.alloc (.cells #[.int .u8 (d0.toNat : Int), .int .u8 (d1.toNat : Int), .int .u8 (d2.toNat : Int), .int .u8 (d3.toNat : Int), .int .u8 (d4.toNat : Int), .int .u8 (d5.toNat : Int), .int .u8 (d6.toNat : Int), .int .u8 (d7.toNat : Int)] 45)) := (Below.refl _ _).alloc (Nat.le_refl _) _
 have HIR : Hid (Calls _ _ _ _ _) := isRange_any sf st fr tu (w.alloc (.cells #[.int .u8 (d0.toNat : Int), .int .u8 (d1.toNat : Int), .int .u8 (d2.toNat : Int), .int .u8 (d3.toNat : Int), .int .u8 (d4.toNat : Int), .int .u8 (d5.toNat : Int), .int .u8 (d6.toNat : Int), .int .u8 (d7.toNat : Int)] 45)) (hF.below hB1) (hT.below hB1) hfm htm
 have HRR : Hid (Calls _ _ _ _ _) := readRange_any sf st sp fr tu proof [d0, d1, d2, d3, d4, d5, d6, d7] (w.alloc (.cells #[.int .u8 (d0.toNat : Int), .int .u8 (d1.toNat : Int), .int .u8 (d2.toNat : Int), .int .u8 (d3.toNat : Int), .int .u8 (d4.toNat : Int), .int .u8 (d5.toNat : Int), .int .u8 (d6.toNat : Int), .int .u8 (d7.toNat : Int)] 45)) rfl (hF.below hB1) (hT.below hB1) (hp.below hB1) hpc
 rw [show dV [d0, d1, d2, d3, d4, d5, d6, d7] = .agg #[.int .u8 (d0.toNat : Int), .int .u8 (d1.toNat : Int), .int .u8 (d2.toNat : Int), .int .u8 (d3.toNat : Int), .int .u8 (d4.toNat : Int), .int .u8 (d5.toNat : Int), .int .u8 (d6.toNat : Int), .int .u8 (d7.toNat : Int)] from rfl] at HRR ⊢
 have HB1 : Hid (Below w.heap.size w (w.alloc (.cells #[.int .u8 (d0.toNat : Int), .int .u8 (d1.toNat : Int), .int .u8 (d2.toNat : Int), .int .u8 (d3.toNat : Int), .int .u8 (d4.toNat : Int), .int .u8 (d5.toNat : Int), .int .u8 (d6.toNat : Int), .int .u8 (d7.toNat : Int)] 45))) := hB1
 have HD0 : Hid (RowV (w.alloc (.cells #[.int .u8 (d0.toNat : Int), .int .u8 (d1.toNat : Int), .int .u8 (d2.toNat : Int), .int .u8 (d3.toNat : Int), .int .u8 (d4.toNat : Int), .int .u8 (d5.toNat : Int), .int .u8 (d6.toNat : Int), .int .u8 (d7.toNat : Int)] 45)) w.heap.size 45 ([d0, d1, d2, d3, d4, d5, d6, d7].map u8c)) := RowV.new w 45 ([d0, d1, d2, d3, d4, d5, d6, d7].map u8c)
 have HF : Hid (BS (w.alloc (.cells #[.int .u8 (d0.toNat : Int), .int .u8 (d1.toNat : Int), .int .u8 (d2.toNat : Int), .int .u8 (d3.toNat : Int), .int .u8 (d4.toNat : Int), .int .u8 (d5.toNat : Int), .int .u8 (d6.toNat : Int), .int .u8 (d7.toNat : Int)] 45)) sf fr) := hF.below hB1
 have HT : Hid (BS (w.alloc (.cells #[.int .u8 (d0.toNat : Int), .int .u8 (d1.toNat : Int), .int .u8 (d2.toNat : Int), .int .u8 (d3.toNat : Int), .int .u8 (d4.toNat : Int), .int .u8 (d5.toNat : Int), .int .u8 (d6.toNat : Int), .int .u8 (d7.toNat : Int)] 45)) st tu) := hT.below hB1
 obtain ⟨q, hq⟩ : ∃ q, rngC [d0, d1, d2, d3, d4, d5, d6, d7] fr tu proof = q := ⟨_, rfl⟩
 rw [hq]
 have HQ : Hid (rngC [d0, d1, d2, d3, d4, d5, d6, d7] fr tu proof = q) := hq
 unfold SlR.val at HIR ⊢
 clear hr hF hT hp hpc hfm htm hq hB1
 go_enter Try.func20, Try.ntmps20
 go_upto_region 1 with fail
 generalize w.alloc (.cells #[.int .u8 (d0.toNat : Int), .int .u8 (d1.toNat : Int), .int .u8 (d2.toNat : Int), .int .u8 (d3.toNat : Int), .int .u8 (d4.toNat : Int), .int .u8 (d5.toNat : Int), .int .u8 (d6.toNat : Int), .int .u8 (d7.toNat : Int)] 45) = W at *
 cases hro : rngOk fr tu with
 | false =>
  rw [hro] at HIR
  have HQ1 : Hid (q = (1, [])) := by unfold Hid; rw [← HQ.out]; unfold rngC; rw [if_neg (by rw [hro]; simp)]
  go_wp2_with (go_at_call 41; refine HIR.out.mono ?_; rintro r w1 ⟨rfl, hw1⟩; obtain rfl : W = w1 := hw1.symm; clear hw1)
  go_ret2
  rw [HQ1.out]; exact ⟨⟨none, 0, 0⟩, [], rfl, HB1.out, EntsO.nil _ _⟩
 | true =>
  rw [hro] at HIR
  have HQ1 : Hid (q = match rangeC [d0, d1, d2, d3, d4, d5, d6, d7] fr tu proof with
    | none => (5, [])
    | some l => (0, l)) := by unfold Hid; rw [← HQ.out]; unfold rngC; rw [if_pos hro]; cases rangeC [d0, d1, d2, d3, d4, d5, d6, d7] fr tu proof <;> rfl
  have k0 : W.cell? ⟨w.heap.size, 0, none⟩ = some (.int .u8 (d0.toNat : Int)) := HD0.out.cell 0 (by simp)
  have k1 : W.cell? ⟨w.heap.size, 1, none⟩ = some (.int .u8 (d1.toNat : Int)) := HD0.out.cell 1 (by simp)
  have k2 : W.cell? ⟨w.heap.size, 2, none⟩ = some (.int .u8 (d2.toNat : Int)) := HD0.out.cell 2 (by simp)
  have k3 : W.cell? ⟨w.heap.size, 3, none⟩ = some (.int .u8 (d3.toNat : Int)) := HD0.out.cell 3 (by simp)
  have k4 : W.cell? ⟨w.heap.size, 4, none⟩ = some (.int .u8 (d4.toNat : Int)) := HD0.out.cell 4 (by simp)
  have k5 : W.cell? ⟨w.heap.size, 5, none⟩ = some (.int .u8 (d5.toNat : Int)) := HD0.out.cell 5 (by simp)
  have k6 : W.cell? ⟨w.heap.size, 6, none⟩ = some (.int .u8 (d6.toNat : Int)) := HD0.out.cell 6 (by simp)
  have k7 : W.cell? ⟨w.heap.size, 7, none⟩ = some (.int .u8 (d7.toNat : Int)) := HD0.out.cell 7 (by simp)
  go_wp2_with (go_at_call 41; refine HIR.out.mono ?_; rintro r w1 ⟨rfl, hw1⟩; obtain rfl : W = w1 := hw1.symm; clear hw1)
  refine HRR.out.mono ?_
  rintro e w3 ⟨hb3, hm⟩
  have HB3 : Hid (Below w.heap.size w w3) := HB1.out.trans (hb3.mono HB1.out.size)
  have HF3 : Hid (BS w3 sf fr) := HF.out.below hb3
  have HT3 : Hid (BS w3 st tu) := HT.out.below hb3
  clear k0 k1 k2 k3 k4 k5 k6 k7 HRR HIR hb3 HD0 HF HT
  cases hrr : rrd [d0, d1, d2, d3, d4, d5, d6, d7] fr tu proof with
  | none =>
   rw [hrr] at hm
   obtain rfl : e = _ := hm
   have HQ5 : Hid (q = (5, [])) := by unfold Hid; rw [HQ1.out, rangeC_rrd, hrr]; rfl
   go_wp2
   go_ret2
   rw [HQ5.out]; exact ⟨⟨none, 0, 0⟩, [], rfl, HB3.out, EntsO.nil _ _⟩
  | some es =>
   rw [hrr] at hm
   obtain ⟨v, ys, rfl, hen⟩ := hm
   have HQ0 : Hid (q = (0, es.filter (inR fr tu))) := by unfold Hid; rw [HQ1.out, rangeC_rrd, hrr]; rfl
   have hvn : v.n = ys.length := (SlV.ofOwn (s := v) hen.own).2
   have HVN : Hid (v.n = es.length) := by unfold Hid; rw [hvn, hen.len]
   have HLP : Hid (es.length ≤ 2799360000000) := rrd_most hrr
   have HLN : Hid (∀ x ∈ es, x.key.length ≤ 12 ∧ x.more.length ≤ 12) := rrd_lens _ _ _ _ _ hrr
   have HEN : Hid (EnsL 0 w3 (blkOf sp) W.heap.size v ys es) := hen
   have hvI : (v.n : Int) ≤ 2799360000000 := by rw [HVN.out]; have := HLP.out; omega
   clear hrr hen hvn HQ1
   unfold SlR.val
   go_wp2
   go_loopw [12, 14, 31] (fun ov _ ix wr => ∃ (k : Nat) (o : SlR) (os : List (SlR × SlR)), k ≤ es.length ∧ ix = .int .i64 (k : Int) ∧ ov = .slice o.a o.n o.cap ∧ Hid (Below w3.heap.size w3 wr) ∧ Hid (EntsO wr w3.heap.size o os ((es.take k).filter (inR fr tu)))) (fun _ _ ix _ => es.length - (intOf ix).toNat)
   case atStart => exact ⟨0, ⟨none, 0, 0⟩, [], by omega, by simp, rfl, Below.refl _ _, EntsO.nil _ _⟩
   case round =>
    obtain ⟨k, o, os, hk, rfl, rfl, HBr, HO⟩ := hrel
    have hkM : (k : Int) ≤ 2799360000000 := by have := HLP.out; omega
    by_cases hlt : k < es.length
    ·have hkI : (k : Int) < v.n := by rw [HVN.out]; omega
     have hky : k < ys.length := by rw [HEN.out.len]; exact hlt
     have hensr := HEN.out.below HBr.out
     obtain ⟨b, oo, hca, hbb, hrg⟩ := SlE.range (SlV.ofOwn (s := v) hensr.own).1 hensr.d8 k hky
     have hen := hensr.en k hky hlt
     have HTK : Hid ((es.take (k + 1)).filter (inR fr tu) = (es.take k).filter (inR fr tu) ++ (if inR fr tu es[k] = true then [es[k]] else [])) := by
      unfold Hid; rw [List.take_succ_eq_append_getElem hlt, List.filter_append]
      congr 1
      cases h : inR fr tu es[k] <;> simp [h]
     have hln := HLN.out _ (List.getElem_mem hlt)
     generalize ys[k] = y at *
     generalize es[k] = it at *
     obtain ⟨sk, sv, dd⟩ := y
     obtain ⟨x0, x1, x2, x3, x4, x5, x6, x7, rfl⟩ := list8 dd hen.d8
     have HRG : Hid (wr.rangeAt b (oo + k * 10) [.slice sk.a sk.n sk.cap, .slice sv.a sv.n sv.cap, .int .u8 (x0.toNat : Int), .int .u8 (x1.toNat : Int), .int .u8 (x2.toNat : Int), .int .u8 (x3.toNat : Int), .int .u8 (x4.toNat : Int), .int .u8 (x5.toNat : Int), .int .u8 (x6.toNat : Int), .int .u8 (x7.toNat : Int)]) := hrg
     have hbe : Below wr.heap.size wr (wr.alloc (.cells #[.slice sk.a sk.n sk.cap, .slice sv.a sv.n sv.cap, .int .u8 (x0.toNat : Int), .int .u8 (x1.toNat : Int), .int .u8 (x2.toNat : Int), .int .u8 (x3.toNat : Int), .int .u8 (x4.toNat : Int), .int .u8 (x5.toNat : Int), .int .u8 (x6.toNat : Int), .int .u8 (x7.toNat : Int)] 103)) := (Below.refl _ _).alloc (Nat.le_refl _) _
     have HBE : Hid (Below wr.heap.size wr (wr.alloc (.cells #[.slice sk.a sk.n sk.cap, .slice sv.a sv.n sv.cap, .int .u8 (x0.toNat : Int), .int .u8 (x1.toNat : Int), .int .u8 (x2.toNat : Int), .int .u8 (x3.toNat : Int), .int .u8 (x4.toNat : Int), .int .u8 (x5.toNat : Int), .int .u8 (x6.toNat : Int), .int .u8 (x7.toNat : Int)] 103))) := hbe
     have HXE : Hid (RowV (wr.alloc (.cells #[.slice sk.a sk.n sk.cap, .slice sv.a sv.n sv.cap, .int .u8 (x0.toNat : Int), .int .u8 (x1.toNat : Int), .int .u8 (x2.toNat : Int), .int .u8 (x3.toNat : Int), .int .u8 (x4.toNat : Int), .int .u8 (x5.toNat : Int), .int .u8 (x6.toNat : Int), .int .u8 (x7.toNat : Int)] 103)) wr.heap.size 103 [.slice sk.a sk.n sk.cap, .slice sv.a sv.n sv.cap, .int .u8 (x0.toNat : Int), .int .u8 (x1.toNat : Int), .int .u8 (x2.toNat : Int), .int .u8 (x3.toNat : Int), .int .u8 (x4.toNat : Int), .int .u8 (x5.toNat : Int), .int .u8 (x6.toNat : Int), .int .u8 (x7.toNat : Int)]) := RowV.new wr _ _
     have HSK : Hid (BS (wr.alloc (.cells #[.slice sk.a sk.n sk.cap, .slice sv.a sv.n sv.cap, .int .u8 (x0.toNat : Int), .int .u8 (x1.toNat : Int), .int .u8 (x2.toNat : Int), .int .u8 (x3.toNat : Int), .int .u8 (x4.toNat : Int), .int .u8 (x5.toNat : Int), .int .u8 (x6.toNat : Int), .int .u8 (x7.toNat : Int)] 103)) sk it.key) := hen.key.bs.below hbe
     have HSV : Hid (BS (wr.alloc (.cells #[.slice sk.a sk.n sk.cap, .slice sv.a sv.n sv.cap, .int .u8 (x0.toNat : Int), .int .u8 (x1.toNat : Int), .int .u8 (x2.toNat : Int), .int .u8 (x3.toNat : Int), .int .u8 (x4.toNat : Int), .int .u8 (x5.toNat : Int), .int .u8 (x6.toNat : Int), .int .u8 (x7.toNat : Int)] 103)) sv it.more) := (hen.low rfl).1.bs.below hbe
     have HFr : Hid (BS (wr.alloc (.cells #[.slice sk.a sk.n sk.cap, .slice sv.a sv.n sv.cap, .int .u8 (x0.toNat : Int), .int .u8 (x1.toNat : Int), .int .u8 (x2.toNat : Int), .int .u8 (x3.toNat : Int), .int .u8 (x4.toNat : Int), .int .u8 (x5.toNat : Int), .int .u8 (x6.toNat : Int), .int .u8 (x7.toNat : Int)] 103)) sf fr) := (HF3.out.below HBr.out).below hbe
     have HTr : Hid (BS (wr.alloc (.cells #[.slice sk.a sk.n sk.cap, .slice sv.a sv.n sv.cap, .int .u8 (x0.toNat : Int), .int .u8 (x1.toNat : Int), .int .u8 (x2.toNat : Int), .int .u8 (x3.toNat : Int), .int .u8 (x4.toNat : Int), .int .u8 (x5.toNat : Int), .int .u8 (x6.toNat : Int), .int .u8 (x7.toNat : Int)] 103)) st tu) := (HT3.out.below HBr.out).below hbe
     obtain ⟨va, vn, vc⟩ := v
     simp only at hca hkI hvI HVN
     subst hca
     clear hrg hen hbe hensr
     go_upto_block 1 with fail
     go_cut [12] (fun ov wx => ∃ (o' : SlR) (os' : List (SlR × SlR)), ov = .slice o'.a o'.n o'.cap ∧ Hid (Below w3.heap.size w3 wx) ∧ Hid (EntsO wx w3.heap.size o' os' ((es.take (k + 1)).filter (inR fr tu))))
     case first =>
      go_upto_region 10 with (refine wpList_load_mid (by rfl) 103 (.tmp 33) (by rfl) b (oo + k * 10) (by rfl) [.slice sk.a sk.n sk.cap, .slice sv.a sv.n sv.cap, .int .u8 (x0.toNat : Int), .int .u8 (x1.toNat : Int), .int .u8 (x2.toNat : Int), .int .u8 (x3.toNat : Int), .int .u8 (x4.toNat : Int), .int .u8 (x5.toNat : Int), .int .u8 (x6.toNat : Int), .int .u8 (x7.toNat : Int)] _ HRG.out Try.underlying103 rfl Try.sizeEntryB ?_)
      generalize wr.alloc (.cells #[.slice sk.a sk.n sk.cap, .slice sv.a sv.n sv.cap, .int .u8 (x0.toNat : Int), .int .u8 (x1.toNat : Int), .int .u8 (x2.toNat : Int), .int .u8 (x3.toNat : Int), .int .u8 (x4.toNat : Int), .int .u8 (x5.toNat : Int), .int .u8 (x6.toNat : Int), .int .u8 (x7.toNat : Int)] 103) = W4 at *
      have HWW : Hid (w3.heap.size ≤ wr.heap.size) := HBr.out.size
      have e0 := HXE.out.cell 0 (by simp)
      have e1 := HXE.out.cell 1 (by simp)
      simp only [List.getElem_cons_zero, List.getElem_cons_succ] at e0 e1
      have HC1 : Hid (Calls _ _ _ _ _) := compare_any sk sf it.key fr W4 HSK.out HFr.out
      have HC2 : Hid (Calls _ _ _ _ _) := compare_any sk st it.key tu W4 HSK.out HTr.out
      have HL1 := cmp_neg it.key fr
      have HL2 := cmp_neg it.key tu
      have HD1 := cmp_bd it.key fr
      have HD2 := cmp_bd it.key tu
      have HIR2 : Hid (inR fr tu it = (!(Op.bytesLess it.key fr) && Op.bytesLess it.key tu)) := rfl
      generalize Lib.compareBytes it.key fr = c at *
      generalize Lib.compareBytes it.key tu = d at *
      have HEI : Hid (inR fr tu it = (decide (0 ≤ c) && decide (d < 0))) := by
       unfold Hid; rw [HIR2.out]
       have g1 : Op.bytesLess it.key fr = decide (c < 0) := by rw [Bool.eq_iff_iff]; simp [HL1]
       have g2 : Op.bytesLess it.key tu = decide (d < 0) := by rw [Bool.eq_iff_iff]; simp [HL2]
       rw [g1, g2]
       by_cases hc : 0 ≤ c
       ·have : ¬ c < 0 := by omega
        simp [hc, this]
       ·have : c < 0 := by omega
        simp [hc, this]
      unfold SlR.val at HC1 HC2
      clear HL1 HL2 HIR2
      go_cut [46] (fun cv wx => cv = .bool (inR fr tu it) ∧ wx = W4)
      case first =>
       by_cases hc : 0 ≤ c
       ·go_wp2_with (first
         | (go_at_call_of 44 (Value.slice sf.a sf.n sf.cap); refine HC1.out.mono ?_; rintro e w5 ⟨rfl, hw5⟩; obtain rfl : W4 = w5 := hw5.symm; clear hw5)
         | (go_at_call_of 44 (Value.slice st.a st.n st.cap); refine HC2.out.mono ?_; rintro e w5 ⟨rfl, hw5⟩; obtain rfl : W4 = w5 := hw5.symm; clear hw5))
        go_meet
        case rel => exact ⟨by rw [HEI.out]; simp [hc], rfl⟩
       ·go_wp2_with (go_at_call_of 44 (Value.slice sf.a sf.n sf.cap); refine HC1.out.mono ?_; rintro e w5 ⟨rfl, hw5⟩; obtain rfl : W4 = w5 := hw5.symm; clear hw5)
        go_meet
        case rel =>
         have hc2 : ¬ 0 ≤ c := by omega
         exact ⟨by rw [HEI.out]; simp [hc2], rfl⟩
      case rest =>
       obtain ⟨rfl, hwc⟩ := hcut
       obtain rfl : W4 = wc := hwc.symm
       clear hwc HC1 HC2 HEI HD1 HD2
       have HCK : Hid (∀ W', Below W4.heap.size W4 W' → Calls Try.prog 40 #[.slice sk.a sk.n sk.cap] W' fun e w' => ∃ s' : SlR, e = .returned (.slice s'.a s'.n s'.cap) ∧ OwnB w' W'.heap.size s'.val it.key ∧ Below W'.heap.size W' w') := fun W' hW => cloneO_any sk it.key W' (HSK.out.below hW) (by have := hln.1; omega)
       have HCV : Hid (∀ W', Below W4.heap.size W4 W' → Calls Try.prog 40 #[.slice sv.a sv.n sv.cap] W' fun e w' => ∃ s' : SlR, e = .returned (.slice s'.a s'.n s'.cap) ∧ OwnB w' W'.heap.size s'.val it.more ∧ Below W'.heap.size W' w') := fun W' hW => cloneO_any sv it.more W' (HSV.out.below hW) (by have := hln.2; omega)
       have HOL : Hid (os.length ≤ 2799360000000) := by
        unfold Hid; rw [HO.out.len]
        exact Nat.le_trans (List.length_filter_le _ _) (Nat.le_trans (List.length_take_le' _ _) HLP.out)
       have e0d : W4.drew.cell? ⟨wr.heap.size, 0, none⟩ = some (.slice sk.a sk.n sk.cap) := e0
       have e1d : W4.drew.cell? ⟨wr.heap.size, 1, none⟩ = some (.slice sv.a sv.n sv.cap) := e1
       clear e0 e1
       cases hin : inR fr tu it with
       | false =>
        have HT2 : Hid ((es.take (k + 1)).filter (inR fr tu) = (es.take k).filter (inR fr tu)) := by unfold Hid; rw [HTK.out, hin]; simp
        go_wp2_with fail
        go_meet
        case rel => exact ⟨o, os, rfl, HBr.out.trans (HBE.out.mono HWW.out), by unfold Hid; rw [HT2.out]; exact HO.out.below HBE.out⟩
       | true =>
        have HT2 : Hid ((es.take (k + 1)).filter (inR fr tu) = (es.take k).filter (inR fr tu) ++ [it]) := by unfold Hid; rw [HTK.out, hin]; simp
        go_upto_region 11 with fail
        go_region_law (first
         | (refine step_clone (by rfl) 35 49 (by rfl) (.slice sk.a sk.n sk.cap) (by rfl) ?_; refine (HCK.out _ ((Below.refl _ _).drew)).mono ?_; rintro e w5 ⟨s5, rfl, ho5, hb5⟩; have hb45 : Below W4.heap.size W4 w5 := ((Below.refl _ _).drew).trans hb5; have e1x := (RowV.below HXE.out HXE.out.lt hb45).cell 1 (by simp); simp only [List.getElem_cons_zero, List.getElem_cons_succ] at e1x; refine ⟨_, rfl, ?_⟩)
         | (revert hb5; intro hb5; refine step_clone (by rfl) 35 52 (by rfl) (.slice sv.a sv.n sv.cap) (by rfl) ?_; refine (HCV.out _ hb45).mono ?_; rintro e w6 ⟨s6, rfl, ho6, hb6⟩; refine ⟨_, rfl, ?_⟩)
         | (revert hb6; intro hb6; have HBA : Below W4.heap.size W4 (w6.alloc (.cells #[.slice s5.a s5.n s5.cap, .slice s6.a s6.n s6.cap] 37)) := ((hb45.trans (hb6.mono hb45.size)).alloc (Nat.le_trans hb45.size hb6.size) _); have HBX : Below wr.heap.size wr (w6.alloc (.cells #[.slice s5.a s5.n s5.cap, .slice s6.a s6.n s6.cap] 37)) := HBE.out.trans (HBA.mono HBE.out.size); refine step_appendV (by rfl) (.tmp 47) (.tmp 55) 27 (by rfl) w3.heap.size 37 _ 2 48 Try.underlying27 Try.infoEnt rfl (by decide) (.slice o.a o.n o.cap) os.length (entsC os) (by rfl) (owns_below HO.out.own HBX) ⟨w6.heap.size, 0, none⟩ 1 1 (entsC [(s5, s6)]) (by rfl) rfl (SlV.alloc_new w6 (entsC [(s5, s6)]) _) (entsC_one _) (by have := HOL.out; unfold maxLen; omega) (by have := HOL.out; omega) (Nat.le_trans HWW.out HBX.size) ?_; intro a9 n9 c9 w9 ho9 hf9 hat9))
        all_goals
         go_wp2_with fail
         go_meet
         case rel =>
          have hba : Below w6.heap.size w6 (w6.alloc (.cells #[.slice s5.a s5.n s5.cap, .slice s6.a s6.n s6.cap] 37)) := (Below.refl _ _).alloc (Nat.le_refl _) _
          have hz4 : wr.heap.size ≤ W4.heap.size := HBE.out.size
          have hz5 : W4.heap.size ≤ w5.heap.size := hb45.size
          have h1 : OwnB (w6.alloc (.cells #[.slice s5.a s5.n s5.cap, .slice s6.a s6.n s6.cap] 37)) w3.heap.size s5.val it.key := owns_base (owns_below (owns_below ho5 hb6) hba) (fun q hq => by have g := (ho5.lt q hq).1; have g2 : W4.drew.heap.size = W4.heap.size := rfl; have := HWW.out; omega)
          have h2 : OwnB (w6.alloc (.cells #[.slice s5.a s5.n s5.cap, .slice s6.a s6.n s6.cap] 37)) w3.heap.size s6.val it.more := owns_base (owns_below ho6 hba) (fun q hq => by have g := (ho6.lt q hq).1; have := HWW.out; omega)
          have hO9 : EntsO w9 w3.heap.size ⟨a9, n9, c9⟩ (os ++ [(s5, s6)]) ((es.take k).filter (inR fr tu) ++ [it]) := EntsO.push (N := W4.heap.size) (v := o) (v' := ⟨a9, n9, c9⟩) (HO.out.below HBX) h1 h2 (fun i g q hq => by have g2 := ((HO.out.ob i g (by rw [flatL_length, ← HO.out.len, ← flatE_length]; exact g)).lt q hq).2; omega) (fun q hq => (ho5.lt q hq).1) (fun q hq => by have g := (ho6.lt q hq).1; omega) (fun q hq hq' => by have g := (ho5.lt q hq).2; have g2 := (ho6.lt q hq').1; omega) ho9 hf9
          have hbz : Below w3.heap.size w3 (w6.alloc (.cells #[.slice s5.a s5.n s5.cap, .slice s6.a s6.n s6.cap] 37)) := HBr.out.trans (HBX.mono HWW.out)
          exact ⟨⟨a9, n9, c9⟩, os ++ [(s5, s6)], rfl, hbz.trans (hf9.below hbz.size (fun q hq => (HO.out.own.lt q hq).1)), by unfold Hid; rw [HT2.out]; exact hO9⟩
     case rest =>
      obtain ⟨o', os', rfl, HB9, HO9⟩ := hcut
      go_wp2
      exact ⟨⟨k + 1, o', os', hlt, by go_num, rfl, HB9, HO9⟩, by simp [intOf]; omega⟩
    ·have hkI : ¬ (k : Int) < v.n := by rw [HVN.out]; omega
     obtain rfl : k = es.length := by omega
     have HTE : Hid (es.take es.length = es) := List.take_length
     go_wp2
     go_ret2
     rw [HQ0.out]
     refine ⟨o, os, rfl, HB3.out.trans (HBr.out.mono HB3.out.size), ?_⟩
     have := HO.out
     rw [HTE.out] at this
     exact this.toBase HB3.out.size
end Go.Proofs.Ytekegfbjbainhaa
