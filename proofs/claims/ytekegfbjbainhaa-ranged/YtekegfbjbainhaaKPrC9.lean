
import Derived.Test.YtekegfbjbainhaaKJoin21
set_option linter.unusedVariables false
set_option linter.unusedSimpArgs false
namespace Go.Proofs.Ytekegfbjbainhaa
open Go.RowKit
attribute [local go_sem ↓] Go.wp_at_zero Go.wp_at_succ
set_option maxRecDepth 100000 in
set_option maxHeartbeats 8000000 in
theorem eb_succ (fr tu : List UInt8) (m : Nat) (ih : EBSpec fr tu m) : EBSpec fr tu (m + 1) := by
 intro K rb base cur xs its l sf st w hr hK hpo hen hb hF hT hfb htb
 have hrb := hr.lt
 have hm6 : m + 1 ≤ 6 := hpo.le6
 obtain ⟨lvl, hlvl⟩ : ∃ lvl, lvl = m + 1 := ⟨_, rfl⟩
 obtain ⟨se, hse⟩ : ∃ se, se = selE its fr tu its.length := ⟨_, rfl⟩
 rw [show readU fr tu (m + 1) its l = foF fr tu m se l se.length by rw [hse]; unfold foF; rw [List.take_length]; rfl]
 have HLV : Hid (lvl = m + 1) := hlvl
 rw [← hlvl]
 have hA : Below w.heap.size w (w.alloc (.cells #[.int .i64 (lvl : Int), .slice cur.a cur.n cur.cap] 128)) := (Below.refl _ _).alloc (Nat.le_refl _) _
 have HP0 : Hid (RowV (w.alloc (.cells #[.int .i64 (lvl : Int), .slice cur.a cur.n cur.cap] 128)) w.heap.size 128 [.int .i64 (lvl : Int), .slice cur.a cur.n cur.cap]) := RowV.new w _ _
 obtain ⟨hsl, hcn⟩ := SlV.ofOwn (s := cur) hen.own
 have hlen := hen.len
 have HWI : Hid (Calls _ _ _ _ _) := withinE_any cur xs its sf st fr tu (w.alloc (.cells #[.int .i64 (lvl : Int), .slice cur.a cur.n cur.cap] 128)) (by rw [hcn, hlen]) hlen (by have := hpo.len; omega) (SlV.below_all hsl hA) hen.d8 (fun i h1 h2 => ((hen.en i h1 h2).key.bs).below hA) (hF.below hA) (hT.below hA)
 obtain ⟨sx, hsx⟩ : ∃ sx, sx = selX its xs fr tu its.length := ⟨_, rfl⟩
 rw [← hsx] at HWI
 have hzip := sel_zip its xs fr tu (fun x it => EnRd lvl w K x it.key it.more) hlen (by rw [hlvl]; exact hen.en) its.length (Nat.le_refl _)
 rw [← hsx, ← hse] at hzip
 have HZL : Hid (sx.length = se.length) := hzip.1
 have HZE : Hid (∀ i (h1 : i < sx.length) (h2 : i < se.length), EnRd lvl w K sx[i] se[i].key se[i].more) := hzip.2
 have HSL : Hid (se.length ≤ 60) := by unfold Hid; rw [hse]; exact Nat.le_trans (selE_len its fr tu its.length) hpo.len
 have HR : Hid (RdP w K rb l) := hr
 have HK : Hid (∀ k, K k → k < w.heap.size) := hK
 have HF : Hid (BS w sf fr) := hF
 have HT : Hid (BS w st tu) := hT
 have HFB : Hid (∀ x, sf.a = some x → x.block ≠ rb) := hfb
 have HTB : Hid (∀ x, st.a = some x → x.block ≠ rb) := htb
 have HM6 : Hid (m + 1 ≤ 6) := hm6
 have HBS : Hid (base ≤ w.heap.size) := hb
 have HIH : Hid (EBSpec fr tu m) := ih
 have HKO : Hid (¬ K rb) := by obtain ⟨_, _, _, ho⟩ := hr; exact ho
 have HA : Hid (Below w.heap.size w (w.alloc (.cells #[.int .i64 (lvl : Int), .slice cur.a cur.n cur.cap] 128))) := hA
 have hl6 : (lvl : Int) ≤ 6 := by omega
 have hl0e : ((lvl : Int) == 0) = false := by simp; omega
 clear hr hK hpo hen hb hF hT hfb htb hsl hcn hlen hzip hsx hse ih hlvl hm6 hA
 unfold SlR.val at HWI
 go_enter Try.func62, Try.ntmps62
 go_wp2_with fail
 refine HWI.out.mono ?_
 rintro e w1 ⟨o, rfl, ho1, hb1⟩
 have hb01 : Below w.heap.size w w1 := HA.out.trans (hb1.mono (by simp))
 have HF1 : Hid (Frame (fun k => k = rb) w w1) := Frame.of_below_all hb01
 have HP1 : Hid (RowV w1 w.heap.size 128 [.int .i64 (lvl : Int), .slice cur.a cur.n cur.cap]) := RowV.below HP0.out HP0.out.lt hb1
 have HO1 : Hid (w1.ownsRow w.heap.size 103 10 o.val sx.length (ensC sx)) := owns_base ho1 (fun k hk => by have := (ho1.lt k hk).1; simp at this; omega)
 have HOL : Hid (∀ k, o.val.ownBlock = some k → k < w1.heap.size) := fun k hk => (HO1.out.lt k hk).2
 have hon : o.n = sx.length := (SlV.ofOwn (s := o) ho1).2
 have HON : Hid (o.n = se.length) := by unfold Hid; rw [hon, HZL.out]
 have HR1 : Hid (RdP w1 K rb l) := HR.out.below hb01
 have hw1 : w.heap.size < w1.heap.size := HP1.out.lt
 have hoI : (o.n : Int) ≤ 60 := by rw [HON.out]; have := HSL.out; omega
 have H8 : Hid (∀ x ∈ sx, x.d.length = 8) := fun x hx => by
  obtain ⟨i, hi, rfl⟩ := List.mem_iff_getElem.1 hx
  exact (HZE.out i hi (by rw [← HZL.out]; exact hi)).d8
 clear ho1 hb1 HWI HP0 HA hon hb01
 go_wp2
 go_loopw [9, 11, 12, 24] (fun ov _ _ ix wr => ∃ (j : Nat) (v : SlR) (ys : List EnP) (acc : List ItR) (r : List UInt8), j ≤ se.length ∧ ix = .int .i64 (j : Int) ∧ ov = .slice v.a v.n v.cap ∧ Hid (Frame (fun k => k = rb) w wr) ∧ Hid (RowV wr w.heap.size 128 [.int .i64 (lvl : Int), .slice cur.a cur.n cur.cap]) ∧ Hid (wr.ownsRow w.heap.size 103 10 o.val sx.length (ensC sx)) ∧ Hid (RdP wr K rb r) ∧ Hid (EnsL 0 wr K w1.heap.size v ys acc) ∧ Hid (foF fr tu m se l j = some (acc, r)) ∧ Hid (acc.length + r.length ≤ l.length) ∧ Hid (w1.heap.size ≤ wr.heap.size)) (fun _ _ _ ix _ => se.length - (intOf ix).toNat)
 case atStart => exact ⟨0, ⟨none, 0, 0⟩, [], [], l, by omega, by simp, rfl, HF1, HP1, HO1, HR1, EnsL.nil _ _ _ _, rfl, by unfold Hid; simp, Nat.le_refl _⟩
 case round =>
  obtain ⟨j, v, ys, acc, r, hj, rfl, rfl, HFr, HP, HO, HRr, HE, HFO, HLN, HWZ⟩ := hrel
  have hj60 : (j : Int) ≤ 60 := by have := HSL.out; omega
  by_cases hlt : j < se.length
  ·have hjI : (j : Int) < o.n := by rw [HON.out]; omega
   have hjx : j < sx.length := by rw [HZL.out]; exact hlt
   obtain ⟨b, oo, hca, hbb, hrg⟩ := SlE.range (SlV.ofOwn (s := o) HO.out).1 H8.out j hjx
   have hen := HZE.out j hjx hlt
   have HSJ : Hid (foF fr tu m se l (j + 1) = stepU (readU fr tu m) m (acc, r) se[j]) := by unfold Hid; rw [foF_succ hlt, HFO.out]; rfl
   generalize sx[j] = x at *
   generalize se[j] = it at *
   obtain ⟨sk, sv, dd⟩ := x
   obtain ⟨x0, x1, x2, x3, x4, x5, x6, x7, rfl⟩ := list8 dd hen.d8
   have HIM : Hid (it.more = [x0, x1, x2, x3, x4, x5, x6, x7]) := (hen.high (by have := HLV.out; omega)).2.symm
   have HRG : Hid (wr.rangeAt b (oo + j * 10) [.slice sk.a sk.n sk.cap, .slice sv.a sv.n sv.cap, .int .u8 (x0.toNat : Int), .int .u8 (x1.toNat : Int), .int .u8 (x2.toNat : Int), .int .u8 (x3.toNat : Int), .int .u8 (x4.toNat : Int), .int .u8 (x5.toNat : Int), .int .u8 (x6.toNat : Int), .int .u8 (x7.toNat : Int)]) := hrg
   have hbe : Below wr.heap.size wr (wr.alloc (.cells #[.slice sk.a sk.n sk.cap, .slice sv.a sv.n sv.cap, .int .u8 (x0.toNat : Int), .int .u8 (x1.toNat : Int), .int .u8 (x2.toNat : Int), .int .u8 (x3.toNat : Int), .int .u8 (x4.toNat : Int), .int .u8 (x5.toNat : Int), .int .u8 (x6.toNat : Int), .int .u8 (x7.toNat : Int)] 103)) := (Below.refl _ _).alloc (Nat.le_refl _) _
   have HBE : Hid (Below wr.heap.size wr (wr.alloc (.cells #[.slice sk.a sk.n sk.cap, .slice sv.a sv.n sv.cap, .int .u8 (x0.toNat : Int), .int .u8 (x1.toNat : Int), .int .u8 (x2.toNat : Int), .int .u8 (x3.toNat : Int), .int .u8 (x4.toNat : Int), .int .u8 (x5.toNat : Int), .int .u8 (x6.toNat : Int), .int .u8 (x7.toNat : Int)] 103))) := hbe
   have HXE : Hid (RowV (wr.alloc (.cells #[.slice sk.a sk.n sk.cap, .slice sv.a sv.n sv.cap, .int .u8 (x0.toNat : Int), .int .u8 (x1.toNat : Int), .int .u8 (x2.toNat : Int), .int .u8 (x3.toNat : Int), .int .u8 (x4.toNat : Int), .int .u8 (x5.toNat : Int), .int .u8 (x6.toNat : Int), .int .u8 (x7.toNat : Int)] 103)) wr.heap.size 103 [.slice sk.a sk.n sk.cap, .slice sv.a sv.n sv.cap, .int .u8 (x0.toNat : Int), .int .u8 (x1.toNat : Int), .int .u8 (x2.toNat : Int), .int .u8 (x3.toNat : Int), .int .u8 (x4.toNat : Int), .int .u8 (x5.toNat : Int), .int .u8 (x6.toNat : Int), .int .u8 (x7.toNat : Int)]) := RowV.new wr _ _
   have HR4 : Hid (RdP (wr.alloc (.cells #[.slice sk.a sk.n sk.cap, .slice sv.a sv.n sv.cap, .int .u8 (x0.toNat : Int), .int .u8 (x1.toNat : Int), .int .u8 (x2.toNat : Int), .int .u8 (x3.toNat : Int), .int .u8 (x4.toNat : Int), .int .u8 (x5.toNat : Int), .int .u8 (x6.toNat : Int), .int .u8 (x7.toNat : Int)] 103)) K rb r) := HRr.out.below hbe
   have HF4 : Hid (Frame (fun k => k = rb) w (wr.alloc (.cells #[.slice sk.a sk.n sk.cap, .slice sv.a sv.n sv.cap, .int .u8 (x0.toNat : Int), .int .u8 (x1.toNat : Int), .int .u8 (x2.toNat : Int), .int .u8 (x3.toNat : Int), .int .u8 (x4.toNat : Int), .int .u8 (x5.toNat : Int), .int .u8 (x6.toNat : Int), .int .u8 (x7.toNat : Int)] 103))) := HFr.out.trans (Frame.of_below_all hbe)
   obtain ⟨oa, on, oc⟩ := o
   simp only at hca hjI hoI
   subst hca
   clear hrg hen hbe
   go_upto_region 7 with (refine wpList_load_mid (by rfl) 103 (.tmp 26) (by rfl) b (oo + j * 10) (by rfl) [.slice sk.a sk.n sk.cap, .slice sv.a sv.n sv.cap, .int .u8 (x0.toNat : Int), .int .u8 (x1.toNat : Int), .int .u8 (x2.toNat : Int), .int .u8 (x3.toNat : Int), .int .u8 (x4.toNat : Int), .int .u8 (x5.toNat : Int), .int .u8 (x6.toNat : Int), .int .u8 (x7.toNat : Int)] _ HRG.out Try.underlying103 rfl Try.sizeEntryB ?_)
   have hwz := HWZ.out
   have HP4 := RowV.below HP.out HP.out.lt HBE.out
   have HO4 := owns_below HO.out HBE.out
   have HE4 := HE.out.below HBE.out
   generalize wr.alloc (.cells #[.slice sk.a sk.n sk.cap, .slice sv.a sv.n sv.cap, .int .u8 (x0.toNat : Int), .int .u8 (x1.toNat : Int), .int .u8 (x2.toNat : Int), .int .u8 (x3.toNat : Int), .int .u8 (x4.toNat : Int), .int .u8 (x5.toNat : Int), .int .u8 (x6.toNat : Int), .int .u8 (x7.toNat : Int)] 103) = W4 at *
   have HWZ4 : Hid (wr.heap.size ≤ W4.heap.size) := HBE.out.size
   generalize wr.heap.size = eb at *
   have k0 : W4.cell? ⟨eb, 2, none⟩ = some (.int .u8 (x0.toNat : Int)) := HXE.out.cell 2 (by simp)
   have k1 : W4.cell? ⟨eb, 3, none⟩ = some (.int .u8 (x1.toNat : Int)) := HXE.out.cell 3 (by simp)
   have k2 : W4.cell? ⟨eb, 4, none⟩ = some (.int .u8 (x2.toNat : Int)) := HXE.out.cell 4 (by simp)
   have k3 : W4.cell? ⟨eb, 5, none⟩ = some (.int .u8 (x3.toNat : Int)) := HXE.out.cell 5 (by simp)
   have k4 : W4.cell? ⟨eb, 6, none⟩ = some (.int .u8 (x4.toNat : Int)) := HXE.out.cell 6 (by simp)
   have k5 : W4.cell? ⟨eb, 7, none⟩ = some (.int .u8 (x5.toNat : Int)) := HXE.out.cell 7 (by simp)
   have k6 : W4.cell? ⟨eb, 8, none⟩ = some (.int .u8 (x6.toNat : Int)) := HXE.out.cell 8 (by simp)
   have k7 : W4.cell? ⟨eb, 9, none⟩ = some (.int .u8 (x7.toNat : Int)) := HXE.out.cell 9 (by simp)
   have HPG : Hid (Calls _ _ _ _ _) := pageP_any K rb r [x0, x1, x2, x3, x4, x5, x6, x7] W4 HR4.out (fun q hq => Nat.lt_of_lt_of_le (HK.out q hq) HF4.out.size) rfl
   rw [show dV [x0, x1, x2, x3, x4, x5, x6, x7] = .agg #[.int .u8 (x0.toNat : Int), .int .u8 (x1.toNat : Int), .int .u8 (x2.toNat : Int), .int .u8 (x3.toNat : Int), .int .u8 (x4.toNat : Int), .int .u8 (x5.toNat : Int), .int .u8 (x6.toNat : Int), .int .u8 (x7.toNat : Int)] from rfl] at HPG
   go_wp2_with fail
   refine HPG.out.mono ?_
   rintro e w5 ⟨hf5, hm⟩
   have HF5 : Hid (Frame (fun k => k = rb) w w5) := HF4.out.trans hf5
   have HW5 : Hid (W4.heap.size ≤ w5.heap.size) := hf5.size
   have HP5 : Hid (RowV w5 w.heap.size 128 [.int .i64 (lvl : Int), .slice cur.a cur.n cur.cap]) := RowV.of_block HP4 (hf5.block _ HP4.lt (by omega))
   have HO5 : Hid (w5.ownsRow w.heap.size 103 10 (SlR.val ⟨some ⟨b, oo, none⟩, on, oc⟩) sx.length (ensC sx)) := owns_frame HO4 hf5 (fun k hk e => by have := (HO4.lt k hk).1; omega)
   have HE5 : Hid (EnsL 0 w5 K w1.heap.size v ys acc) := HE4.frame hf5 (fun k hk e => by have := (HE4.own.lt k hk).1; omega) (fun k hk e => HKO.out (e ▸ hk))
   clear k0 k1 k2 k3 k4 k5 k6 k7 HPG hf5 HP HO HE HXE HRr HFr HRG HP4 HO4 HE4
   cases hpg : pgO (some r) [x0, x1, x2, x3, x4, x5, x6, x7] with
   | none =>
    rw [hpg] at hm
    obtain rfl : e = pkE := hm
    have HX : Hid (foF fr tu m se l se.length = none) := foF_none (j := j + 1) (by rw [HSJ.out]; unfold stepU; simp only [HIM.out, hpg])
    unfold pkE
    go_wp2
    refine ⟨rfl, HF5.out, ?_⟩
    rw [HX.out]; rfl
   | some q =>
    obtain ⟨⟨lv, its'⟩, r1⟩ := q
    rw [hpg] at hm
    obtain ⟨cur2, xs2, rfl, hens, hr5⟩ := hm
    have hb6 : Below w5.heap.size w5 (w5.alloc (.cells #[.int .i64 (lv : Int), .slice cur2.a cur2.n cur2.cap] 128)) := (Below.refl _ _).alloc (Nat.le_refl _) _
    have HF6 : Hid (Frame (fun k => k = rb) w (w5.alloc (.cells #[.int .i64 (lv : Int), .slice cur2.a cur2.n cur2.cap] 128))) := HF5.out.trans (Frame.of_below_all hb6)
    have HP6 : Hid (RowV (w5.alloc (.cells #[.int .i64 (lv : Int), .slice cur2.a cur2.n cur2.cap] 128)) w.heap.size 128 [.int .i64 (lvl : Int), .slice cur.a cur.n cur.cap]) := RowV.below HP5.out HP5.out.lt hb6
    have HO6 : Hid ((w5.alloc (.cells #[.int .i64 (lv : Int), .slice cur2.a cur2.n cur2.cap] 128)).ownsRow w.heap.size 103 10 (SlR.val ⟨some ⟨b, oo, none⟩, on, oc⟩) sx.length (ensC sx)) := owns_below HO5.out hb6
    have HE6 : Hid (EnsL 0 (w5.alloc (.cells #[.int .i64 (lv : Int), .slice cur2.a cur2.n cur2.cap] 128)) K w1.heap.size v ys acc) := HE5.out.below hb6
    have HN6 : Hid (EnsL lv (w5.alloc (.cells #[.int .i64 (lv : Int), .slice cur2.a cur2.n cur2.cap] 128)) K W4.heap.size cur2 xs2 its') := hens.below hb6
    have HR6 : Hid (RdP (w5.alloc (.cells #[.int .i64 (lv : Int), .slice cur2.a cur2.n cur2.cap] 128)) K rb r1) := hr5.below hb6
    have HQ6 : Hid (RowV (w5.alloc (.cells #[.int .i64 (lv : Int), .slice cur2.a cur2.n cur2.cap] 128)) w5.heap.size 128 [.int .i64 (lv : Int), .slice cur2.a cur2.n cur2.cap]) := RowV.new w5 _ _
    have HW6 : Hid (W4.heap.size ≤ (w5.alloc (.cells #[.int .i64 (lv : Int), .slice cur2.a cur2.n cur2.cap] 128)).heap.size) := Nat.le_trans HW5.out hb6.size
    have HPK : Hid (PageOk lv its') := pgO_ok hpg
    have HPL : Hid (its'.length + r1.length + 4 ≤ r.length) := pgO_len hpg
    have hlv6 : (lv : Int) ≤ 6 := by have := (pgO_ok hpg).le6; omega
    have HSK : Hid (foF fr tu m se l (j + 1) = if lv = m then (readU fr tu lv its' r1).map (fun e => (acc ++ e.1, e.2)) else none) := by
     unfold Hid; rw [HSJ.out]; unfold stepU; simp only [HIM.out, hpg]
     by_cases e : lv = m
     ·subst e; simp
     ·simp [e]
    have hN5 : w.heap.size < w5.heap.size := HP5.out.lt
    clear hens hr5 hb6 HF5 HP5 HO5 HE5 hpg HSJ HIM HW5
    unfold SlR.val
    go_upto_region 8 with fail
    generalize w5.alloc (.cells #[.int .i64 (lv : Int), .slice cur2.a cur2.n cur2.cap] 128) = W6 at *
    generalize w5.heap.size = qb at *
    have p0 := HP6.out.cell 0 (by simp)
    have q0 := HQ6.out.cell 0 (by simp)
    have q1 := HQ6.out.cell 1 (by simp)
    simp only [List.getElem_cons_zero, List.getElem_cons_succ] at p0 q0 q1
    by_cases hlm : lv = m
    ·have HLQ : Hid (lv = m) := hlm
     have heq : ((lv : Int) == (lvl : Int) - 1) = true := by have := HLV.out; simp; omega
     have HSY : Hid (foF fr tu m se l (j + 1) = (readU fr tu lv its' r1).map (fun e => (acc ++ e.1, e.2))) := by unfold Hid; rw [HSK.out, if_pos hlm]
     have HEB : Hid (Calls _ _ _ _ _) := (hlm ▸ HIH.out : EBSpec fr tu lv) K rb W4.heap.size cur2 xs2 its' r1 sf st W6 HR6.out (fun q hq => Nat.lt_of_lt_of_le (HK.out q hq) HF6.out.size) HPK.out HN6.out HW6.out (HF.out.frame HF6.out (fun x hx e => HFB.out x hx e)) (HT.out.frame HF6.out (fun x hx e => HTB.out x hx e)) HFB.out HTB.out
     clear hlm HSK
     go_wp2_with (go_at_call 83; refine (must_yes _).mono ?_; rintro e w8 ⟨rfl, hw8⟩; obtain rfl : W6 = w8 := hw8.symm; clear hw8)
     refine HEB.out.mono ?_
     rintro e w7 ⟨hf7, hm⟩
     have HF7 : Hid (Frame (fun k => k = rb) w w7) := HF6.out.trans hf7
     cases hru : readU fr tu lv its' r1 with
     | none =>
      rw [hru] at hm
      obtain rfl : e = pkE := hm
      have HX : Hid (foF fr tu m se l se.length = none) := foF_none (j := j + 1) (by rw [HSY.out, hru]; rfl)
      unfold pkE
      go_wp2
      refine ⟨rfl, HF7.out, ?_⟩
      rw [HX.out]; rfl
     | some q =>
      obtain ⟨es2, r2⟩ := q
      rw [hru] at hm
      obtain ⟨v2, ys2, rfl, hen7, hr7⟩ := hm
      have HRL := readU_len fr tu lv its' r1 es2 r2 hru
      have HNJ : Hid (foF fr tu m se l (j + 1) = some (acc ++ es2, r2)) := by unfold Hid; rw [HSY.out, hru]; rfl
      have HE7 : Hid (EnsL 0 w7 K w1.heap.size v ys acc) := HE6.out.frame hf7 (fun k hk e => by have := (HE6.out.own.lt k hk).1; omega) (fun k hk e => HKO.out (e ▸ hk))
      have HP7 : Hid (RowV w7 w.heap.size 128 [.int .i64 (lvl : Int), .slice cur.a cur.n cur.cap]) := RowV.of_block HP6.out (hf7.block _ HP6.out.lt (by omega))
      have HO7 : Hid (w7.ownsRow w.heap.size 103 10 (SlR.val ⟨some ⟨b, oo, none⟩, on, oc⟩) sx.length (ensC sx)) := owns_frame HO6.out hf7 (fun k hk e => by have := (HO6.out.lt k hk).1; omega)
      have HV7 : Hid (EnsL 0 w7 K W4.heap.size v2 ys2 es2) := hen7
      have HR7 : Hid (RdP w7 K rb r2) := hr7
      obtain ⟨a5, c5, hv5, hsv5, hnil5, _, _⟩ := owns_form hen7.own
      have hn5 : v2.a = a5 ∧ v2.n = ys2.length ∧ v2.cap = c5 := by unfold SlR.val at hv5; simp only [Value.slice.injEq] at hv5; exact hv5
      obtain ⟨e51, e52, e53⟩ := hn5
      subst e51; subst e53
      have HSV : Hid (SlV w7 v2.a (ensC ys2)) := hsv5
      have HNI : Hid (v2.a = none → v2.n = 0 ∧ v2.cap = 0) := fun e => by have := hnil5 e; rw [e52]; exact ⟨this.2, this.1⟩
      have HN5 : Hid (v2.n = ys2.length) := e52
      have HCL : Hid ((ensC ys2).length = v2.n * 10) := by unfold Hid; rw [e52]; exact ensC_length ys2 hen7.d8
      have HLT : Hid (es2.length + r2.length ≤ r.length) := by unfold Hid; have := HPL.out; omega
      have HLL : Hid (ys.length + v2.n ≤ l.length) := by unfold Hid; rw [e52, HE7.out.len, hen7.len]; have := HLN.out; have := HLT.out; omega
      have HLM : Hid (ys.length + v2.n ≤ 2799360000000) := by
       have h1 : acc.length ≤ ([] : List ItR).length + (se.take j).length * 60 ^ (m + 1) := fold_many (read_many fr tu m) _ _ _ _ _ HFO.out
       have h2 : es2.length ≤ 60 ^ (m + 1) := by
        have h := read_many fr tu lv its' r1 es2 r2 HPK.out.len hru
        rw [HLQ.out] at h
        exact h
       have h3 : 60 ^ (m + 1) ≤ 60 ^ 6 := Nat.pow_le_pow_right (by decide) HM6.out
       have h4 : (se.take j).length ≤ 59 := by rw [List.length_take]; have := HSL.out; omega
       have h5 : (se.take j).length * 60 ^ (m + 1) ≤ 59 * 60 ^ 6 := Nat.mul_le_mul h4 h3
       have h6 : (60 : Nat) ^ 6 = 46656000000 := by decide
       simp only [List.length_nil] at h1
       unfold Hid
       rw [e52, HE7.out.len, hen7.len]
       omega
      have HZ7 : Hid (w1.heap.size ≤ w7.heap.size) := by unfold Hid; have := hf7.size; have := HW6.out; have := HWZ4.out; omega
      clear hv5 hsv5 hnil5 e52 hf7 hr7 hen7 HEB p0 q0 q1 hru HRL HSY HP6 HO6 HE6 HN6 HR6 HQ6
      unfold SlR.val
      go_wp2_with (at_builtin; refine wp_appendW (by rfl) (.tmp 39) (.tmp 44) 83 (by rfl) w1.heap.size 103 _ 10 56 Try.underlying83 Try.infoEntry rfl (by decide) (.slice v.a v.n v.cap) ys.length (ensC ys) (by rfl) HE7.out.own v2.a v2.n v2.cap (ensC ys2) (by rfl) HCL.out HSV.out HNI.out (ensC_one _) (by have := HLM.out; unfold maxLen; omega) (by have := HLM.out; omega) HZ7.out ?_; intro v9 w9 ho9 hf9 hat9; obtain ⟨a9, c9, hv9, _⟩ := owns_form ho9; subst hv9)
      have HE9 : EnsL 0 w9 K w1.heap.size ⟨a9, ys.length + v2.n, c9⟩ (ys ++ ys2) (acc ++ es2) := EnsL.push (cur := v) (cur' := ⟨a9, ys.length + v2.n, c9⟩) HE7.out HV7.out.len HV7.out.en (by rw [← HN5.out]; exact ho9) hf9 (fun q hq => by have := HK.out q hq; omega)
      refine ⟨⟨j + 1, ⟨a9, ys.length + v2.n, c9⟩, ys ++ ys2, acc ++ es2, r2, hlt, by go_num, rfl, HF7.out.inside hf9 (fun x hx e => by have := (HE7.out.own.lt x e).1; omega), RowV.of_block HP7.out (hf9.block _ HP7.out.lt (fun e => by have := (HE7.out.own.lt _ e).1; omega)), owns_frame HO7.out hf9 (fun k hk e => by have := (HE7.out.own.lt k e).1; have := HOL.out k hk; omega), HR7.out.frame hf9 (fun e => by have := (HE7.out.own.lt _ e).1; omega) (fun q hq e => by have := (HE7.out.own.lt _ e).1; have := HK.out q hq; omega), HE9, HNJ, by unfold Hid; rw [List.length_append]; have := HLN.out; have := HLT.out; omega, Nat.le_trans HZ7.out hf9.size⟩, by simp [intOf]; omega⟩
    ·have hne : ¬ (lv + 1 = lvl) := by have := HLV.out; omega
     have heq : ((lv : Int) == (lvl : Int) - 1) = false := by simp; omega
     have HX : Hid (foF fr tu m se l se.length = none) := foF_none (j := j + 1) (by rw [HSK.out, if_neg hlm])
     clear hlm HSK
     go_wp2_with (go_at_call 83; refine (must_no _).mono ?_; rintro e w8 ⟨rfl, hw8⟩; obtain rfl : W6 = w8 := hw8.symm; clear hw8; unfold pkE)
     refine ⟨rfl, HF6.out, ?_⟩
     rw [HX.out]; rfl
  ·have hjI : ¬ (j : Int) < o.n := by rw [HON.out]; omega
   obtain rfl : j = se.length := by omega
   have HEND : Hid (EnsL 0 wr K base v ys acc) := HE.out.toBase (by have := HBS.out; omega)
   go_wp2
   go_ret
   refine ⟨HFr.out, ?_⟩
   rw [HFO.out]
   exact ⟨v, ys, rfl, HEND.out, HRr.out⟩
theorem eb_any (fr tu : List UInt8) : ∀ lvl, EBSpec fr tu lvl
 | 0 => eb_zero fr tu
 | m + 1 => eb_succ fr tu m (eb_any fr tu m)
end Go.Proofs.Ytekegfbjbainhaa
