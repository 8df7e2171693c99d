import Derived.Test.YtekegfbjbainhaaGreatKJoin25
import Derived.Defers
import Derived.Recover
import Derived.Test.YtekegfbjbainhaaGreatKJoin22
set_option linter.unusedVariables false
set_option linter.unusedSimpArgs false

namespace Go.Proofs.YtekegfbjbainhaaGreat
open Go.RowKit
attribute [local go_sem ↓] Go.wp_at_zero Go.wp_at_succ
set_option maxRecDepth 100000 in
set_option maxHeartbeats 8000000 in
theorem eb_succ (fr tu : List UInt8) (m : Nat) (ih : EBSpec fr tu m) : EBSpec fr tu (m + 1) := by
 intro K rb base cur xs its l sf st w hr hK hpo hen hb hF hT hfb htb hM
 have hrb := hr.lt
 have hm6 : m + 1 ≤ 6 := hpo.le6
 obtain ⟨lvl, hlvl⟩ : ∃ lvl, lvl = m + 1 := ⟨_, rfl⟩
 obtain ⟨se, hse⟩ : ∃ se, se = selE its fr tu its.length := ⟨_, rfl⟩
 rw [show readU fr tu (m + 1) its l = foF fr tu m se l se.length by rw [hse]; unfold foF; rw [List.take_length]; rfl]
 have HLV : Hid (lvl = m + 1) := hlvl
 rw [← hlvl]
 have hA : Below w.heap.size w (w.alloc (.cells #[.int .i64 (lvl : Int), .slice cur.a cur.n cur.cap] 171)) := (Below.refl _ _).alloc (Nat.le_refl _) _
 have HP0 : Hid (RowV (w.alloc (.cells #[.int .i64 (lvl : Int), .slice cur.a cur.n cur.cap] 171)) w.heap.size 171 [.int .i64 (lvl : Int), .slice cur.a cur.n cur.cap]) := RowV.new w _ _
 obtain ⟨hsl, hcn⟩ := SlV.ofOwn (s := cur) hen.own
 have hlen := hen.len
 have HWI : Hid (Calls _ _ _ _ _) := withinE_any cur xs its sf st fr tu (w.alloc (.cells #[.int .i64 (lvl : Int), .slice cur.a cur.n cur.cap] 171)) (by rw [hcn, hlen]) hlen (by have := hpo.len; omega) (SlV.below_all hsl hA) hen.d8 (fun i h1 h2 => ((hen.en i h1 h2).key.bs).below hA) (hF.below hA) (hT.below hA)
 obtain ⟨sx, hsx⟩ : ∃ sx, sx = selX its xs fr tu its.length := ⟨_, rfl⟩
 rw [← hsx] at HWI
 have hzip := sel_zip its xs fr tu (fun x it => EnRd lvl w K x it.key it.more) hlen (by rw [hlvl]; exact hen.en) its.length (Nat.le_refl _)
 rw [← hsx, ← hse] at hzip
 have HZL : Hid (sx.length = se.length) := hzip.1
 have HZE : Hid (∀ i (h1 : i < sx.length) (h2 : i < se.length), EnRd lvl w K sx[i] se[i].key se[i].more) := hzip.2
 have HSL : Hid (se.length ≤ 60) := by unfold Hid; rw [hse]; exact Nat.le_trans (selE_len its fr tu its.length) hpo.len
 have HR : Hid (RdP w K rb l) := hr
 have HK : Hid (∀ k, K k → k < w.heap.size) := hK
 have HF : Hid (BS w sf fr) := hF
 have HT : Hid (BS w st tu) := hT
 have HFB : Hid (∀ x, sf.a = some x → x.block ≠ rb) := hfb
 have HTB : Hid (∀ x, st.a = some x → x.block ≠ rb) := htb
 have HM : Hid (l.length ≤ 1000000000) := by unfold Hid; omega
 have HBS : Hid (base ≤ w.heap.size) := hb
 have HIH : Hid (EBSpec fr tu m) := ih
 have HKO : Hid (¬ K rb) := by obtain ⟨_, _, _, ho⟩ := hr; exact ho
 have HA : Hid (Below w.heap.size w (w.alloc (.cells #[.int .i64 (lvl : Int), .slice cur.a cur.n cur.cap] 171))) := hA
 have hl6 : (lvl : Int) ≤ 6 := by omega
 have hl0e : ((lvl : Int) == 0) = false := by simp; omega
 clear hr hK hpo hen hb hF hT hfb htb hM hsl hcn hlen hzip hsx hse ih hlvl hm6 hA
 unfold SlR.val at HWI
 go_enter Tryz.func103, Tryz.ntmps103
 go_wp2_with fail
 refine HWI.out.mono ?_
 rintro e w1 ⟨o, rfl, ho1, hb1⟩
 have hb01 : Below w.heap.size w w1 := HA.out.trans (hb1.mono (by simp))
 have HF1 : Hid (Frame (fun k => k = rb) w w1) := Frame.of_below_all hb01
 have HP1 : Hid (RowV w1 w.heap.size 171 [.int .i64 (lvl : Int), .slice cur.a cur.n cur.cap]) := RowV.below HP0.out HP0.out.lt hb1
 have HO1 : Hid (w1.ownsRow w.heap.size 74 10 o.val sx.length (ensC sx)) := owns_base ho1 (fun k hk => by have := (ho1.lt k hk).1; simp at this; omega)
 have HOL : Hid (∀ k, o.val.ownBlock = some k → k < w1.heap.size) := fun k hk => (HO1.out.lt k hk).2
 have hon : o.n = sx.length := (SlV.ofOwn (s := o) ho1).2
 have HON : Hid (o.n = se.length) := by unfold Hid; rw [hon, HZL.out]
 have HR1 : Hid (RdP w1 K rb l) := HR.out.below hb01
 have hw1 : w.heap.size < w1.heap.size := HP1.out.lt
 have hoI : (o.n : Int) ≤ 60 := by rw [HON.out]; have := HSL.out; omega
 have H8 : Hid (∀ x ∈ sx, x.d.length = 8) := fun x hx => by
  obtain ⟨i, hi, rfl⟩ := List.mem_iff_getElem.1 hx
  exact (HZE.out i hi (by rw [← HZL.out]; exact hi)).d8
 clear ho1 hb1 HWI HP0 HA hon hb01
 go_wp2
 go_loopw [9, 11, 12, 24] (fun ov _ _ ix wr => ∃ (j : Nat) (v : SlR) (ys : List EnP) (acc : List ItR) (r : List UInt8), j ≤ se.length ∧ ix = .int .i64 (j : Int) ∧ ov = .slice v.a v.n v.cap ∧ Hid (Frame (fun k => k = rb) w wr) ∧ Hid (RowV wr w.heap.size 171 [.int .i64 (lvl : Int), .slice cur.a cur.n cur.cap]) ∧ Hid (wr.ownsRow w.heap.size 74 10 o.val sx.length (ensC sx)) ∧ Hid (RdP wr K rb r) ∧ Hid (EnsL 0 wr K w1.heap.size v ys acc) ∧ Hid (foF fr tu m se l j = some (acc, r)) ∧ Hid (acc.length + r.length ≤ l.length) ∧ Hid (w1.heap.size ≤ wr.heap.size)) (fun _ _ _ ix _ => se.length - (intOf ix).toNat)
 case atStart => exact ⟨0, ⟨none, 0, 0⟩, [], [], l, by omega, by simp, rfl, HF1, HP1, HO1, HR1, EnsL.nil _ _ _ _, rfl, by unfold Hid; simp, Nat.le_refl _⟩
 case round =>
  obtain ⟨j, v, ys, acc, r, hj, rfl, rfl, HFr, HP, HO, HRr, HE, HFO, HLN, HWZ⟩ := hrel
  have hj60 : (j : Int) ≤ 60 := by have := HSL.out; omega
  by_cases hlt : j < se.length
  ·have hjI : (j : Int) < o.n := by rw [HON.out]; omega
   have hjx : j < sx.length := by rw [HZL.out]; exact hlt
   obtain ⟨b, oo, hca, hbb, hrg⟩ := SlE.range (SlV.ofOwn (s := o) HO.out).1 H8.out j hjx
   have hen := HZE.out j hjx hlt
   have HSJ : Hid (foF fr tu m se l (j + 1) = stepU (readU fr tu m) m (acc, r) se[j]) := by unfold Hid; rw [foF_succ hlt, HFO.out]; rfl
   generalize sx[j] = x at *
   generalize se[j] = it at *
   obtain ⟨sk, sv, dd⟩ := x
   obtain ⟨x0, x1, x2, x3, x4, x5, x6, x7, rfl⟩ := list8 dd hen.d8
   have HIM : Hid (it.more = [x0, x1, x2, x3, x4, x5, x6, x7]) := (hen.high (by have := HLV.out; omega)).2.symm
   have HRG : Hid (wr.rangeAt b (oo + j * 10) [.slice sk.a sk.n sk.cap, .slice sv.a sv.n sv.cap, .int .u8 (x0.toNat : Int), .int .u8 (x1.toNat : Int), .int .u8 (x2.toNat : Int), .int .u8 (x3.toNat : Int), .int .u8 (x4.toNat : Int), .int .u8 (x5.toNat : Int), .int .u8 (x6.toNat : Int), .int .u8 (x7.toNat : Int)]) := hrg
   have hbe : Below wr.heap.size wr (wr.alloc (.cells #[.slice sk.a sk.n sk.cap, .slice sv.a sv.n sv.cap, .int .u8 (x0.toNat : Int), .int .u8 (x1.toNat : Int), .int .u8 (x2.toNat : Int), .int .u8 (x3.toNat : Int), .int .u8 (x4.toNat : Int), .int .u8 (x5.toNat : Int), .int .u8 (x6.toNat : Int), .int .u8 (x7.toNat : Int)] 74)) := (Below.refl _ _).alloc (Nat.le_refl _) _
   have HBE : Hid (Below wr.heap.size wr (wr.alloc (.cells #[.slice sk.a sk.n sk.cap, .slice sv.a sv.n sv.cap, .int .u8 (x0.toNat : Int), .int .u8 (x1.toNat : Int), .int .u8 (x2.toNat : Int), .int .u8 (x3.toNat : Int), .int .u8 (x4.toNat : Int), .int .u8 (x5.toNat : Int), .int .u8 (x6.toNat : Int), .int .u8 (x7.toNat : Int)] 74))) := hbe
   have HXE : Hid (RowV (wr.alloc (.cells #[.slice sk.a sk.n sk.cap, .slice sv.a sv.n sv.cap, .int .u8 (x0.toNat : Int), .int .u8 (x1.toNat : Int), .int .u8 (x2.toNat : Int), .int .u8 (x3.toNat : Int), .int .u8 (x4.toNat : Int), .int .u8 (x5.toNat : Int), .int .u8 (x6.toNat : Int), .int .u8 (x7.toNat : Int)] 74)) wr.heap.size 74 [.slice sk.a sk.n sk.cap, .slice sv.a sv.n sv.cap, .int .u8 (x0.toNat : Int), .int .u8 (x1.toNat : Int), .int .u8 (x2.toNat : Int), .int .u8 (x3.toNat : Int), .int .u8 (x4.toNat : Int), .int .u8 (x5.toNat : Int), .int .u8 (x6.toNat : Int), .int .u8 (x7.toNat : Int)]) := RowV.new wr _ _
   have HR4 : Hid (RdP (wr.alloc (.cells #[.slice sk.a sk.n sk.cap, .slice sv.a sv.n sv.cap, .int .u8 (x0.toNat : Int), .int .u8 (x1.toNat : Int), .int .u8 (x2.toNat : Int), .int .u8 (x3.toNat : Int), .int .u8 (x4.toNat : Int), .int .u8 (x5.toNat : Int), .int .u8 (x6.toNat : Int), .int .u8 (x7.toNat : Int)] 74)) K rb r) := HRr.out.below hbe
   have HF4 : Hid (Frame (fun k => k = rb) w (wr.alloc (.cells #[.slice sk.a sk.n sk.cap, .slice sv.a sv.n sv.cap, .int .u8 (x0.toNat : Int), .int .u8 (x1.toNat : Int), .int .u8 (x2.toNat : Int), .int .u8 (x3.toNat : Int), .int .u8 (x4.toNat : Int), .int .u8 (x5.toNat : Int), .int .u8 (x6.toNat : Int), .int .u8 (x7.toNat : Int)] 74))) := HFr.out.trans (Frame.of_below_all hbe)
   obtain ⟨oa, on, oc⟩ := o
   simp only at hca hjI hoI
   subst hca
   clear hrg hen hbe
   go_upto_region 7 with (refine wpList_load_mid (by rfl) 74 (.tmp 26) (by rfl) b (oo + j * 10) (by rfl) [.slice sk.a sk.n sk.cap, .slice sv.a sv.n sv.cap, .int .u8 (x0.toNat : Int), .int .u8 (x1.toNat : Int), .int .u8 (x2.toNat : Int), .int .u8 (x3.toNat : Int), .int .u8 (x4.toNat : Int), .int .u8 (x5.toNat : Int), .int .u8 (x6.toNat : Int), .int .u8 (x7.toNat : Int)] _ HRG.out Tryz.underlying74 rfl Tryz.sizeEntryB ?_)
   have hwz := HWZ.out
   have HP4 := RowV.below HP.out HP.out.lt HBE.out
   have HO4 := owns_below HO.out HBE.out
   have HE4 := HE.out.below HBE.out
   generalize wr.alloc (.cells #[.slice sk.a sk.n sk.cap, .slice sv.a sv.n sv.cap, .int .u8 (x0.toNat : Int), .int .u8 (x1.toNat : Int), .int .u8 (x2.toNat : Int), .int .u8 (x3.toNat : Int), .int .u8 (x4.toNat : Int), .int .u8 (x5.toNat : Int), .int .u8 (x6.toNat : Int), .int .u8 (x7.toNat : Int)] 74) = W4 at *
   have HWZ4 : Hid (wr.heap.size ≤ W4.heap.size) := HBE.out.size
   generalize wr.heap.size = eb at *
   have k0 : W4.cell? ⟨eb, 2, none⟩ = some (.int .u8 (x0.toNat : Int)) := HXE.out.cell 2 (by simp)
   have k1 : W4.cell? ⟨eb, 3, none⟩ = some (.int .u8 (x1.toNat : Int)) := HXE.out.cell 3 (by simp)
   have k2 : W4.cell? ⟨eb, 4, none⟩ = some (.int .u8 (x2.toNat : Int)) := HXE.out.cell 4 (by simp)
   have k3 : W4.cell? ⟨eb, 5, none⟩ = some (.int .u8 (x3.toNat : Int)) := HXE.out.cell 5 (by simp)
   have k4 : W4.cell? ⟨eb, 6, none⟩ = some (.int .u8 (x4.toNat : Int)) := HXE.out.cell 6 (by simp)
   have k5 : W4.cell? ⟨eb, 7, none⟩ = some (.int .u8 (x5.toNat : Int)) := HXE.out.cell 7 (by simp)
   have k6 : W4.cell? ⟨eb, 8, none⟩ = some (.int .u8 (x6.toNat : Int)) := HXE.out.cell 8 (by simp)
   have k7 : W4.cell? ⟨eb, 9, none⟩ = some (.int .u8 (x7.toNat : Int)) := HXE.out.cell 9 (by simp)
   have HPG : Hid (Calls _ _ _ _ _) := pageP_any K rb r [x0, x1, x2, x3, x4, x5, x6, x7] W4 HR4.out (fun q hq => Nat.lt_of_lt_of_le (HK.out q hq) HF4.out.size) rfl
   rw [show dV [x0, x1, x2, x3, x4, x5, x6, x7] = .agg #[.int .u8 (x0.toNat : Int), .int .u8 (x1.toNat : Int), .int .u8 (x2.toNat : Int), .int .u8 (x3.toNat : Int), .int .u8 (x4.toNat : Int), .int .u8 (x5.toNat : Int), .int .u8 (x6.toNat : Int), .int .u8 (x7.toNat : Int)] from rfl] at HPG
   go_wp2_with fail
   refine HPG.out.mono ?_
   rintro e w5 ⟨hf5, hm⟩
   have HF5 : Hid (Frame (fun k => k = rb) w w5) := HF4.out.trans hf5
   have HW5 : Hid (W4.heap.size ≤ w5.heap.size) := hf5.size
   have HP5 : Hid (RowV w5 w.heap.size 171 [.int .i64 (lvl : Int), .slice cur.a cur.n cur.cap]) := RowV.of_block HP4 (hf5.block _ HP4.lt (by omega))
   have HO5 : Hid (w5.ownsRow w.heap.size 74 10 (SlR.val ⟨some ⟨b, oo, none⟩, on, oc⟩) sx.length (ensC sx)) := owns_frame HO4 hf5 (fun k hk e => by have := (HO4.lt k hk).1; omega)
   have HE5 : Hid (EnsL 0 w5 K w1.heap.size v ys acc) := HE4.frame hf5 (fun k hk e => by have := (HE4.own.lt k hk).1; omega) (fun k hk e => HKO.out (e ▸ hk))
   clear k0 k1 k2 k3 k4 k5 k6 k7 HPG hf5 HP HO HE HXE HRr HFr HRG HP4 HO4 HE4
   cases hpg : pgO (some r) [x0, x1, x2, x3, x4, x5, x6, x7] with
   | none =>
    rw [hpg] at hm
    obtain rfl : e = pkE := hm
    have HX : Hid (foF fr tu m se l se.length = none) := foF_none (j := j + 1) (by rw [HSJ.out]; unfold stepU; simp only [HIM.out, hpg])
    unfold pkE
    go_wp2
    refine ⟨rfl, HF5.out, ?_⟩
    rw [HX.out]; rfl
   | some q =>
    obtain ⟨⟨lv, its'⟩, r1⟩ := q
    rw [hpg] at hm
    obtain ⟨cur2, xs2, rfl, hens, hr5⟩ := hm
    have hb6 : Below w5.heap.size w5 (w5.alloc (.cells #[.int .i64 (lv : Int), .slice cur2.a cur2.n cur2.cap] 171)) := (Below.refl _ _).alloc (Nat.le_refl _) _
    have HF6 : Hid (Frame (fun k => k = rb) w (w5.alloc (.cells #[.int .i64 (lv : Int), .slice cur2.a cur2.n cur2.cap] 171))) := HF5.out.trans (Frame.of_below_all hb6)
    have HP6 : Hid (RowV (w5.alloc (.cells #[.int .i64 (lv : Int), .slice cur2.a cur2.n cur2.cap] 171)) w.heap.size 171 [.int .i64 (lvl : Int), .slice cur.a cur.n cur.cap]) := RowV.below HP5.out HP5.out.lt hb6
    have HO6 : Hid ((w5.alloc (.cells #[.int .i64 (lv : Int), .slice cur2.a cur2.n cur2.cap] 171)).ownsRow w.heap.size 74 10 (SlR.val ⟨some ⟨b, oo, none⟩, on, oc⟩) sx.length (ensC sx)) := owns_below HO5.out hb6
    have HE6 : Hid (EnsL 0 (w5.alloc (.cells #[.int .i64 (lv : Int), .slice cur2.a cur2.n cur2.cap] 171)) K w1.heap.size v ys acc) := HE5.out.below hb6
    have HN6 : Hid (EnsL lv (w5.alloc (.cells #[.int .i64 (lv : Int), .slice cur2.a cur2.n cur2.cap] 171)) K W4.heap.size cur2 xs2 its') := hens.below hb6
    have HR6 : Hid (RdP (w5.alloc (.cells #[.int .i64 (lv : Int), .slice cur2.a cur2.n cur2.cap] 171)) K rb r1) := hr5.below hb6
    have HQ6 : Hid (RowV (w5.alloc (.cells #[.int .i64 (lv : Int), .slice cur2.a cur2.n cur2.cap] 171)) w5.heap.size 171 [.int .i64 (lv : Int), .slice cur2.a cur2.n cur2.cap]) := RowV.new w5 _ _
    have HW6 : Hid (W4.heap.size ≤ (w5.alloc (.cells #[.int .i64 (lv : Int), .slice cur2.a cur2.n cur2.cap] 171)).heap.size) := Nat.le_trans HW5.out hb6.size
    have HPK : Hid (PageOk lv its') := pgO_ok hpg
    have HPL : Hid (its'.length + r1.length + 4 ≤ r.length) := pgO_len hpg
    have hlv6 : (lv : Int) ≤ 6 := by have := (pgO_ok hpg).le6; omega
    have HSK : Hid (foF fr tu m se l (j + 1) = if lv = m then (readU fr tu lv its' r1).map (fun e => (acc ++ e.1, e.2)) else none) := by
     unfold Hid; rw [HSJ.out]; unfold stepU; simp only [HIM.out, hpg]
     by_cases e : lv = m
     ·subst e; simp
     ·simp [e]
    have hN5 : w.heap.size < w5.heap.size := HP5.out.lt
    clear hens hr5 hb6 HF5 HP5 HO5 HE5 hpg HSJ HIM HW5
    unfold SlR.val
    go_upto_region 8 with fail
    generalize w5.alloc (.cells #[.int .i64 (lv : Int), .slice cur2.a cur2.n cur2.cap] 171) = W6 at *
    generalize w5.heap.size = qb at *
    have p0 := HP6.out.cell 0 (by simp)
    have q0 := HQ6.out.cell 0 (by simp)
    have q1 := HQ6.out.cell 1 (by simp)
    simp only [List.getElem_cons_zero, List.getElem_cons_succ] at p0 q0 q1
    by_cases hlm : lv = m
    ·have heq : ((lv : Int) == (lvl : Int) - 1) = true := by have := HLV.out; simp; omega
     have HSY : Hid (foF fr tu m se l (j + 1) = (readU fr tu lv its' r1).map (fun e => (acc ++ e.1, e.2))) := by unfold Hid; rw [HSK.out, if_pos hlm]
     have HEB : Hid (Calls _ _ _ _ _) := (hlm ▸ HIH.out : EBSpec fr tu lv) K rb W4.heap.size cur2 xs2 its' r1 sf st W6 HR6.out (fun q hq => Nat.lt_of_lt_of_le (HK.out q hq) HF6.out.size) HPK.out HN6.out HW6.out (HF.out.frame HF6.out (fun x hx e => HFB.out x hx e)) (HT.out.frame HF6.out (fun x hx e => HTB.out x hx e)) HFB.out HTB.out (by have := HM.out; have := HLN.out; have := HPL.out; omega)
     clear hlm HSK
     go_wp2_with (go_at_call 132; refine (must_yes _).mono ?_; rintro e w8 ⟨rfl, hw8⟩; obtain rfl : W6 = w8 := hw8.symm; clear hw8)
     refine HEB.out.mono ?_
     rintro e w7 ⟨hf7, hm⟩
     have HF7 : Hid (Frame (fun k => k = rb) w w7) := HF6.out.trans hf7
     cases hru : readU fr tu lv its' r1 with
     | none =>
      rw [hru] at hm
      obtain rfl : e = pkE := hm
      have HX : Hid (foF fr tu m se l se.length = none) := foF_none (j := j + 1) (by rw [HSY.out, hru]; rfl)
      unfold pkE
      go_wp2
      refine ⟨rfl, HF7.out, ?_⟩
      rw [HX.out]; rfl
     | some q =>
      obtain ⟨es2, r2⟩ := q
      rw [hru] at hm
      obtain ⟨v2, ys2, rfl, hen7, hr7⟩ := hm
      have HRL := readU_len fr tu lv its' r1 es2 r2 hru
      have HNJ : Hid (foF fr tu m se l (j + 1) = some (acc ++ es2, r2)) := by unfold Hid; rw [HSY.out, hru]; rfl
      have HE7 : Hid (EnsL 0 w7 K w1.heap.size v ys acc) := HE6.out.frame hf7 (fun k hk e => by have := (HE6.out.own.lt k hk).1; omega) (fun k hk e => HKO.out (e ▸ hk))
      have HP7 : Hid (RowV w7 w.heap.size 171 [.int .i64 (lvl : Int), .slice cur.a cur.n cur.cap]) := RowV.of_block HP6.out (hf7.block _ HP6.out.lt (by omega))
      have HO7 : Hid (w7.ownsRow w.heap.size 74 10 (SlR.val ⟨some ⟨b, oo, none⟩, on, oc⟩) sx.length (ensC sx)) := owns_frame HO6.out hf7 (fun k hk e => by have := (HO6.out.lt k hk).1; omega)
      have HV7 : Hid (EnsL 0 w7 K W4.heap.size v2 ys2 es2) := hen7
      have HR7 : Hid (RdP w7 K rb r2) := hr7
      obtain ⟨a5, c5, hv5, hsv5, hnil5, _, _⟩ := owns_form hen7.own
      have hn5 : v2.a = a5 ∧ v2.n = ys2.length ∧ v2.cap = c5 := by unfold SlR.val at hv5; simp only [Value.slice.injEq] at hv5; exact hv5
      obtain ⟨e51, e52, e53⟩ := hn5
      subst e51; subst e53
      have HSV : Hid (SlV w7 v2.a (ensC ys2)) := hsv5
      have HNI : Hid (v2.a = none → v2.n = 0 ∧ v2.cap = 0) := fun e => by have := hnil5 e; rw [e52]; exact ⟨this.2, this.1⟩
      have HN5 : Hid (v2.n = ys2.length) := e52
      have HCL : Hid ((ensC ys2).length = v2.n * 10) := by unfold Hid; rw [e52]; exact ensC_length ys2 hen7.d8
      have HLT : Hid (es2.length + r2.length ≤ r.length) := by unfold Hid; have := HPL.out; omega
      have HLL : Hid (ys.length + v2.n ≤ l.length) := by unfold Hid; rw [e52, HE7.out.len, hen7.len]; have := HLN.out; have := HLT.out; omega
      have HZ7 : Hid (w1.heap.size ≤ w7.heap.size) := by unfold Hid; have := hf7.size; have := HW6.out; have := HWZ4.out; omega
      clear hv5 hsv5 hnil5 e52 hf7 hr7 hen7 HEB p0 q0 q1 hru HRL HSY HP6 HO6 HE6 HN6 HR6 HQ6
      unfold SlR.val
      go_wp2_with (at_builtin; refine wp_appendV (by rfl) (.tmp 39) (.tmp 44) 67 (by rfl) w1.heap.size 74 _ 10 56 Tryz.underlying67 Tryz.infoEntry rfl (by decide) (.slice v.a v.n v.cap) ys.length (ensC ys) (by rfl) HE7.out.own v2.a v2.n v2.cap (ensC ys2) (by rfl) HCL.out HSV.out HNI.out (ensC_one _) (by have := HLL.out; have := HM.out; unfold maxLen; omega) (by have := HLL.out; have := HM.out; omega) HZ7.out ?_; intro v9 w9 ho9 hf9 hat9; obtain ⟨a9, c9, hv9, _⟩ := owns_form ho9; subst hv9)
      have HE9 : EnsL 0 w9 K w1.heap.size ⟨a9, ys.length + v2.n, c9⟩ (ys ++ ys2) (acc ++ es2) := EnsL.push (cur := v) (cur' := ⟨a9, ys.length + v2.n, c9⟩) HE7.out HV7.out.len HV7.out.en (by rw [← HN5.out]; exact ho9) hf9 (fun q hq => by have := HK.out q hq; omega)
      refine ⟨⟨j + 1, ⟨a9, ys.length + v2.n, c9⟩, ys ++ ys2, acc ++ es2, r2, hlt, by go_num, rfl, HF7.out.inside hf9 (fun x hx e => by have := (HE7.out.own.lt x e).1; omega), RowV.of_block HP7.out (hf9.block _ HP7.out.lt (fun e => by have := (HE7.out.own.lt _ e).1; omega)), owns_frame HO7.out hf9 (fun k hk e => by have := (HE7.out.own.lt k e).1; have := HOL.out k hk; omega), HR7.out.frame hf9 (fun e => by have := (HE7.out.own.lt _ e).1; omega) (fun q hq e => by have := (HE7.out.own.lt _ e).1; have := HK.out q hq; omega), HE9, HNJ, by unfold Hid; rw [List.length_append]; have := HLN.out; have := HLT.out; omega, Nat.le_trans HZ7.out hf9.size⟩, by simp [intOf]; omega⟩
    ·have hne : ¬ (lv + 1 = lvl) := by have := HLV.out; omega
     have heq : ((lv : Int) == (lvl : Int) - 1) = false := by simp; omega
     have HX : Hid (foF fr tu m se l se.length = none) := foF_none (j := j + 1) (by rw [HSK.out, if_neg hlm])
     clear hlm HSK
     go_wp2_with (go_at_call 132; refine (must_no _).mono ?_; rintro e w8 ⟨rfl, hw8⟩; obtain rfl : W6 = w8 := hw8.symm; clear hw8; unfold pkE)
     refine ⟨rfl, HF6.out, ?_⟩
     rw [HX.out]; rfl
  ·have hjI : ¬ (j : Int) < o.n := by rw [HON.out]; omega
   obtain rfl : j = se.length := by omega
   have HEND : Hid (EnsL 0 wr K base v ys acc) := HE.out.toBase (by have := HBS.out; omega)
   go_wp2
   go_ret
   refine ⟨HFr.out, ?_⟩
   rw [HFO.out]
   exact ⟨v, ys, rfl, HEND.out, HRr.out⟩
theorem eb_any (fr tu : List UInt8) : ∀ lvl, EBSpec fr tu lvl
 | 0 => eb_zero fr tu
 | m + 1 => eb_succ fr tu m (eb_any fr tu m)
end Go.Proofs.YtekegfbjbainhaaGreat


namespace Go.Proofs.YtekegfbjbainhaaGreat
open Go.RowKit
attribute [local go_sem ↓] Go.wp_at_zero Go.wp_at_succ
set_option maxRecDepth 100000 in
theorem catch_idle (p q : Addr) (w : World) :
  CallsD Tryz.prog 102 #[.pointer (some p), .pointer (some q)] .returning w fun e u' w' => e = .returned (.tuple #[]) ∧ u' = .returning ∧ w' = w := by
 refine callsD_of_wpS Tryz.func102 rfl fun c₀ cs hu => ?_
 apply wpS_seq
 apply wpS_region
 simp [wpOpsS, go_sem, recoverD, hu, Tryz.ntmps102, Exit.thenS]
 refine wpS_of_wp ?_
 rw [show (#[Value.pointer (some p), Value.pointer (some q)] ++ (Array.replicate 9 undef).setIfInBounds 3 Value.nilIface) = #[.pointer (some p), .pointer (some q), undef, undef, undef, .nilIface, undef, undef, undef, undef, undef] from rfl]
 go_wp2
 cases c₀
 simp_all [bodyPostS, results, Tryz.results102]
set_option maxRecDepth 100000 in
set_option maxHeartbeats 1000000 in
theorem catch_pk (pb qb : Nat) (s : Value) (t : Bool) (w : World) (hc : w.cell? ⟨pb, 0, none⟩ = some s) (hz : w.frozen? ⟨pb, 0, none⟩ = false) (hd : w.cell? ⟨qb, 0, none⟩ = some (.bool t)) (hy : w.frozen? ⟨qb, 0, none⟩ = false) (hpl : pb < w.heap.size) (hql : qb < w.heap.size) (hpq : pb ≠ qb) :
  CallsD Tryz.prog 102 #[.pointer (some ⟨pb, 0, none⟩), .pointer (some ⟨qb, 0, none⟩)] (.panicking [{ v := .iface 166 (.agg #[]), recovered := false }]) w fun e u' w' => e = .returned (.tuple #[]) ∧ u' = .panicking [{ v := .iface 166 (.agg #[]), recovered := true }] ∧ Frame (fun k => k = pb ∨ k = qb) w w' ∧ w'.cell? ⟨pb, 0, none⟩ = some (.slice none 0 0) ∧ w'.cell? ⟨qb, 0, none⟩ = some (.bool false) := by
 refine callsD_of_wpS Tryz.func102 rfl fun c₀ cs hu => ?_
 apply wpS_seq
 apply wpS_region
 simp [wpOpsS, go_sem, recoverD, hu, Tryz.ntmps102, Exit.thenS]
 refine wpS_of_wp ?_
 rw [show (#[Value.pointer (some ⟨pb, 0, none⟩), Value.pointer (some ⟨qb, 0, none⟩)] ++ (Array.replicate 9 undef).setIfInBounds 3 (Value.iface 166 (.agg #[]))) = #[.pointer (some ⟨pb, 0, none⟩), .pointer (some ⟨qb, 0, none⟩), undef, undef, undef, .iface 166 (.agg #[]), undef, undef, undef, undef, undef] from rfl]
 have hta : ∀ W, (Instr.typeAssert (.iface 166 (.agg #[])) 20 166 true).run Tryz.prog W = .ok (.tuple #[.agg #[], .bool true]) W := fun W => by kernel_rfl
 go_wp2
 have hF : Frame (fun k => k = pb ∨ k = qb) w (((w.setCell ⟨pb, 0, none⟩ (.slice none 0 0)).setCell ⟨qb, 0, none⟩ (.bool false)).alloc (.cells #[] 166)) := (((Frame.refl (fun k => k = pb ∨ k = qb) w).setCell (p := ⟨pb, 0, none⟩) (Or.inl rfl) _).setCell (p := ⟨qb, 0, none⟩) (Or.inr rfl) _).alloc _
 have h1 : (((w.setCell ⟨pb, 0, none⟩ (.slice none 0 0)).setCell ⟨qb, 0, none⟩ (.bool false)).alloc (.cells #[] 166)).cell? ⟨pb, 0, none⟩ = some (.slice none 0 0) := by go_simp
 have h2 : (((w.setCell ⟨pb, 0, none⟩ (.slice none 0 0)).setCell ⟨qb, 0, none⟩ (.bool false)).alloc (.cells #[] 166)).cell? ⟨qb, 0, none⟩ = some (.bool false) := by go_simp
 clear hc hz hd hy hta hu
 cases c₀
 simp [bodyPostS, results, Tryz.results102]
 exact ⟨hF, h1, h2⟩
end Go.Proofs.YtekegfbjbainhaaGreat


namespace Go.Proofs.YtekegfbjbainhaaGreat
open Go.RowKit
attribute [local go_sem ↓] Go.wp_at_zero Go.wp_at_succ
def undPost (w : World) (K : Nat → Prop) (rb : Nat) (fr tu : List UInt8) (N : Nat) (R : Option (List ItR × List UInt8)) (e : Ending) (w' : World) : Prop :=
 ∃ (v : SlR) (es : List (SlR × SlR)) (l0 : List ItR), e = .returned v.val ∧ Frame (fun k => k = rb) w w' ∧ RdO w' K rb (R.map (·.2)) ∧ EntsR w' w.heap.size v es l0 ∧ l0.length ≤ N ∧ ∀ l r', R = some (l, r') → l0 = l.filter (inR fr tu)
def UnderSpec (fr tu : List UInt8) (lvl : Nat) : Prop := ∀ (K : Nat → Prop) (rb : Nat) (cur : SlR) (its : List ItR) (r : List UInt8) (w : World), RdO w K rb (some r) → (∀ k, K k → k < w.heap.size) → PageOk lvl its → SlI w cur.a its → cur.n = its.length → (∀ x, cur.a = some x → x.block < w.heap.size ∧ x.block ≠ rb) → its.length + r.length ≤ 1000000000 →
 Calls Tryz.prog 109 #[.pointer (some ⟨rb, 0, none⟩), .agg #[.int .i64 (lvl : Int), cur.val], .string ⟨fr.toArray⟩, .string ⟨tu.toArray⟩] w (undPost w K rb fr tu (its.length + r.length) (readU fr tu lvl its r))
theorem RdO.cells {w : World} {K : Nat → Prop} {rb : Nat} {o : Option (List UInt8)} (h : RdO w K rb o) : w.cell? ⟨rb, 1, none⟩ = some (.bool o.isNone) ∧ w.frozen? ⟨rb, 1, none⟩ = false := by
 obtain ⟨s, l, bad, h, e⟩ := h
 refine ⟨?_, h.row.frozen 1⟩
 have : w.cell? ⟨rb, 1, none⟩ = some (.bool bad) := RowV.cell h.row 1 (by simp)
 rw [this, e]; cases bad <;> rfl
theorem wp_toBytes {ops : Array Oper} {rest : List Oper} {o : Oper} {a : Act} {w : World} {Q : Exit → Act → World → Prop} (hgd : o.guard = none) (x : Operand) (ho : o.op = .convert 9 38 x) (l : List UInt8) (hx : a.eval x = .string ⟨l.toArray⟩)
  (h : ∀ (s : SlR) (w' : World), BS w' s l → Below w.heap.size w w' → (∀ x, s.a = some x → w.heap.size ≤ x.block) → wpList Tryz.prog ops Q rest (a.put o.dst (.slice s.a s.n s.cap)) w') : wpList Tryz.prog ops Q (o :: rest) a w := by
 refine wpList_plain hgd fun K hK => ?_
 have hr := run_bytes_of_string (P := Tryz.prog) w 9 38 5 ⟨l.toArray⟩ Tryz.underlying9 Tryz.underlying38 Tryz.underlying5
 unfold Oper.wp execOp
 simp only [ho, Option.map, hx]
 go_simp
 refine hK _ _ (h ⟨some ⟨w.heap.size, 0, none⟩, l.length, grownCap w l.length 0 5⟩ _ ?_ ?_ ?_)
 ·have hb := (BS.ofString w ⟨l.toArray⟩ (grownCap w l.length 0 5) 5 ((bytesRow ⟨l.toArray⟩ (grownCap w l.length 0 5)).size, (bytesRow ⟨l.toArray⟩ (grownCap w l.length 0 5)).size + 1)).drew
  simpa [ba_size] using hb
 ·exact ((Below.refl _ _).alloc (Nat.le_refl _) _).drew
 ·intro x hx; cases hx; exact Nat.le_refl _
set_option maxRecDepth 100000 in
set_option maxHeartbeats 4000000 in
theorem under_zero (fr tu : List UInt8) : UnderSpec fr tu 0 := by
 intro K rb cur its r w hr hK hpo hsi hcn hcb hM
 have hrb := hr.lt
 have hA : Below w.heap.size w (w.alloc (.cells #[.int .i64 0, .slice cur.a cur.n cur.cap] 80)) := (Below.refl _ _).alloc (Nat.le_refl _) _
 have HF0 : Hid (Frame (fun k => k = rb) w (w.alloc (.cells #[.int .i64 0, .slice cur.a cur.n cur.cap] 80))) := Frame.of_below_all hA
 have HP0 : Hid (RowV (w.alloc (.cells #[.int .i64 0, .slice cur.a cur.n cur.cap] 80)) w.heap.size 80 [.int .i64 0, .slice cur.a cur.n cur.cap]) := RowV.new w _ _
 have HR0 : Hid (RdO (w.alloc (.cells #[.int .i64 0, .slice cur.a cur.n cur.cap] 80)) K rb (some r)) := hr.below hA
 have HSI : Hid (∀ wr, Frame (fun k => k = rb) w wr → SlI wr cur.a its) := fun wr hf => SlV.frame hsi hf (fun x hx e => (hcb x hx).2 e)
 have HCN : Hid (cur.n = its.length) := hcn
 have HPO : Hid (PageOk 0 its) := hpo
 have HL60 : Hid (its.length ≤ 60) := hpo.len
 have hc60 : (cur.n : Int) ≤ 60 := by rw [hcn]; have := hpo.len; omega
 have HK : Hid (∀ k, K k → k < w.heap.size) := hK
 clear hr hK hpo hsi hcn hcb hM hA
 show Calls Tryz.prog 109 #[.pointer (some ⟨rb, 0, none⟩), .agg #[.int .i64 0, .slice cur.a cur.n cur.cap], .string ⟨fr.toArray⟩, .string ⟨tu.toArray⟩] w (undPost w K rb fr tu (its.length + r.length) (some (its, r)))
 go_enter Tryz.func109, Tryz.ntmps109
 go_wp2
 go_loopw [9, 10, 11, 12, 13, 14] (fun ov i _ _ _ _ wr => ∃ (k : Nat) (v : SlR) (es : List (SlR × SlR)), k ≤ its.length ∧ i = .int .i64 (k : Int) ∧ ov = .slice v.a v.n v.cap ∧ Hid (Frame (fun k => k = rb) w wr) ∧ Hid (RowV wr w.heap.size 80 [.int .i64 0, .slice cur.a cur.n cur.cap]) ∧ Hid (RdO wr K rb (some r)) ∧ Hid (EntsR wr w.heap.size v es ((its.take k).filter (inR fr tu)))) (fun _ i _ _ _ _ _ => its.length - (intOf i).toNat)
 case atStart => exact ⟨0, ⟨none, 0, 0⟩, [], by omega, by simp, rfl, HF0, HP0, HR0, EntsR.nil _ _⟩
 case round =>
  obtain ⟨k, v, es, hk, rfl, rfl, HF, HP, HR, HE⟩ := hrel
  obtain ⟨r1, fr1⟩ := HR.out.cells
  have p0 := HP.out.cell 0 (by simp)
  have p1 := HP.out.cell 1 (by simp)
  simp only [List.getElem_cons_zero, List.getElem_cons_succ, Option.isNone_some] at p0 p1 r1
  have hk60 : (k : Int) ≤ 60 := by have := HL60.out; omega
  have hpw : w.heap.size < wr.heap.size := HP.out.lt
  by_cases hlt : k < its.length
  ·have hkI : (k : Int) < cur.n := by rw [HCN.out]; omega
   obtain ⟨bb, oo, hca, hbb, z0, z1, z2⟩ := SlI.cells (HSI.out wr HF.out) k hlt
   unfold strV at z0 z1
   have HTK : Hid ((its.take (k + 1)).filter (inR fr tu) = (its.take k).filter (inR fr tu) ++ (if inR fr tu its[k] = true then [its[k]] else [])) := by
    unfold Hid; rw [List.take_succ_eq_append_getElem hlt, List.filter_append]
    congr 1
    cases h : inR fr tu its[k] <;> simp [h]
   have HIN : Hid (inR fr tu its[k] = (!(Op.bytesLess its[k].key fr) && Op.bytesLess its[k].key tu)) := rfl
   have HK12 : Hid (its[k].key.length ≤ 12) := (HPO.out.key _ (List.getElem_mem hlt)).2
   have HM12 : Hid (its[k].more.length ≤ 12) := HPO.out.low rfl _ (List.getElem_mem hlt)
   obtain ⟨ca, cn, cc⟩ := cur
   simp only at hca hkI HCN p1 hc60
   subst hca
   generalize its[k] = x at *
   obtain ⟨key, mo, bl⟩ := x
   simp only at z0 z1 z2 HIN HK12 HM12
   by_cases hA : Op.bytesLess key fr = true
   ·have HT2 : Hid ((its.take (k + 1)).filter (inR fr tu) = (its.take k).filter (inR fr tu)) := by unfold Hid; rw [HTK.out, HIN.out, hA]; simp
    go_wp2
    have hba : Below wr.heap.size wr (wr.alloc (.cells #[.string ⟨key.toArray⟩, .string ⟨mo.toArray⟩, .int .i64 (bl : Int)] 84)) := (Below.refl _ _).alloc (Nat.le_refl _) _
    refine ⟨⟨k + 1, v, es, hlt, by go_num, rfl, HF.out.trans (Frame.of_below_all hba), HP.out.below HP.out.lt hba, HR.out.below hba, ?_⟩, by simp [intOf]; omega⟩
    unfold Hid; rw [HT2.out]; exact HE.out.below hba
   ·have hA' : Op.bytesLess key fr = false := by simpa using hA
    by_cases hB : Op.bytesLess key tu = true
    ·have HT2 : Hid ((its.take (k + 1)).filter (inR fr tu) = (its.take k).filter (inR fr tu) ++ [⟨key, mo, bl⟩]) := by unfold Hid; rw [HTK.out, HIN.out, hA', hB]; simp
     have HBI : Hid (Below wr.heap.size wr (wr.alloc (.cells #[.string ⟨key.toArray⟩, .string ⟨mo.toArray⟩, .int .i64 (bl : Int)] 84))) := (Below.refl _ _).alloc (Nat.le_refl _) _
     have HXI : Hid (RowV (wr.alloc (.cells #[.string ⟨key.toArray⟩, .string ⟨mo.toArray⟩, .int .i64 (bl : Int)] 84)) wr.heap.size 84 [.string ⟨key.toArray⟩, .string ⟨mo.toArray⟩, .int .i64 (bl : Int)]) := RowV.new wr _ _
     have HEL : Hid (es.length ≤ 60) := by
      unfold Hid; rw [HE.out.len]
      exact Nat.le_trans (List.length_filter_le _ _) (Nat.le_trans (List.length_take_le' _ _) HL60.out)
     have HWR : Hid (w.heap.size ≤ wr.heap.size) := HF.out.size
     go_wp2_with (first
      | (refine wp_toBytes (by rfl) (.tmp 49) (by rfl) key (by rfl) ?_; intro s1 w1 hb1 hB1 hn1; have y1 := (RowV.below HXI.out HXI.out.lt hB1).cell 1 (by simp); simp only [List.getElem_cons_zero, List.getElem_cons_succ] at y1)
      | (refine wp_toBytes (by rfl) (.tmp 52) (by rfl) mo (by rfl) ?_; intro s2 w2 hb2 hB2 hn2)
      | (at_builtin; have HBE : Hid (Below wr.heap.size wr (w2.alloc (.cells #[.slice s1.a s1.n s1.cap, .slice s2.a s2.n s2.cap] 164))) := (((HBI.out.trans (hB1.mono HBI.out.size)).trans (hB2.mono (Nat.le_trans HBI.out.size hB1.size))).alloc (Nat.le_trans (Nat.le_trans HBI.out.size hB1.size) hB2.size) _); refine wp_appendV (by rfl) (.tmp 47) (.tmp 55) 63 (by rfl) w.heap.size 164 _ 2 48 Tryz.underlying63 Tryz.infoEnt rfl (by decide) (.slice v.a v.n v.cap) es.length (entsC es) (by rfl) (owns_below HE.out.own HBE.out) (some ⟨w2.heap.size, 0, none⟩) 1 1 (entsC [(s1, s2)]) (by rfl) rfl (SlV.alloc_new w2 (entsC [(s1, s2)]) _) (fun h => by cases h) (entsC_one _) (by have := HEL.out; unfold maxLen; omega) (by have := HEL.out; omega) (Nat.le_trans HWR.out HBE.out.size) ?_; intro v4 w4 ho4 hf4 hat4; obtain ⟨a4, c4, hv4, _⟩ := owns_form ho4; subst hv4))
     have hb2' : Below w2.heap.size w2 (w2.alloc (.cells #[.slice s1.a s1.n s1.cap, .slice s2.a s2.n s2.cap] 164)) := (Below.refl _ _).alloc (Nat.le_refl _) _
     have HE3 := HE.out.below HBE.out
     have hg1 : wr.heap.size ≤ w1.heap.size := Nat.le_trans HBI.out.size hB1.size
     have HE4 : EntsR w4 w.heap.size ⟨a4, es.length + 1, c4⟩ (es ++ [(s1, s2)]) ((its.take k).filter (inR fr tu) ++ [⟨key, mo, bl⟩]) := by
      refine EntsR.push (v := v) (v' := ⟨a4, es.length + 1, c4⟩) HE3 rfl (fun i h1 h2 => ?_) (fun e he x hx => ?_) ho4 hf4 hat4
      ·simp only [List.length_singleton] at h1
       obtain rfl : i = 0 := by omega
       exact ⟨(hb1.below hB2).below hb2', hb2.below hb2'⟩
      ·simp only [List.mem_singleton] at he
       subst he
       have hge : wr.heap.size ≤ x.block := by
        rcases hx with hx | hx
        ·have := hn1 x hx; have := HBI.out.size; omega
        ·have := hn2 x hx; omega
       exact ⟨by have := HWR.out; omega, fun e => by have := (HE.out.own.lt _ e).2; omega⟩
     have hin : ∀ x, x < w.heap.size → (Value.slice v.a v.n v.cap).ownBlock = some x → x = rb := fun x hx e => by have := (HE.out.own.lt x e).1; omega
     refine ⟨⟨k + 1, ⟨a4, es.length + 1, c4⟩, es ++ [(s1, s2)], hlt, by go_num, rfl, (HF.out.trans (Frame.of_below_all HBE.out)).inside hf4 hin, RowV.of_block (HP.out.below HP.out.lt HBE.out) (hf4.block _ (RowV.lt (HP.out.below HP.out.lt HBE.out)) (fun e => owns_ne HE3.own (HP.out.below HP.out.lt HBE.out) (by decide) e)), (HR.out.below HBE.out).frame hf4 (fun e => by have := (HE.out.own.lt _ e).1; omega) (fun q hq e => by have := (HE.out.own.lt _ e).1; have := HK.out q hq; omega), ?_⟩, by simp [intOf]; omega⟩
     unfold Hid; rw [HT2.out]; exact HE4
    ·have hB' : Op.bytesLess key tu = false := by simpa using hB
     have HT2 : Hid ((its.take (k + 1)).filter (inR fr tu) = (its.take k).filter (inR fr tu)) := by unfold Hid; rw [HTK.out, HIN.out, hA', hB']; simp
     go_wp2
     have hba : Below wr.heap.size wr (wr.alloc (.cells #[.string ⟨key.toArray⟩, .string ⟨mo.toArray⟩, .int .i64 (bl : Int)] 84)) := (Below.refl _ _).alloc (Nat.le_refl _) _
     refine ⟨⟨k + 1, v, es, hlt, by go_num, rfl, HF.out.trans (Frame.of_below_all hba), HP.out.below HP.out.lt hba, HR.out.below hba, ?_⟩, by simp [intOf]; omega⟩
     unfold Hid; rw [HT2.out]; exact HE.out.below hba
  ·have hkI : ¬ (k : Int) < cur.n := by rw [HCN.out]; omega
   have HTE : Hid (its.take k = its) := List.take_of_length_le (by omega)
   go_wp2
   go_ret
   have h1 := HE.out
   rw [HTE.out] at h1
   exact ⟨v, es, _, rfl, HF.out, HR.out, h1, by have := List.length_filter_le (inR fr tu) its; omega, fun l r' e => by cases e; rfl⟩
end Go.Proofs.YtekegfbjbainhaaGreat


namespace Go.Proofs.YtekegfbjbainhaaGreat
open Go.RowKit
attribute [local go_sem ↓] Go.wp_at_zero Go.wp_at_succ
def stF (fr tu : List UInt8) (m : Nat) (its : List ItR) (r : List UInt8) (k : Nat) : Option (List ItR × List UInt8) := (selE its fr tu k).foldlM (stepU (readU fr tu m) m) ([], r)
theorem stF_yes {fr tu : List UInt8} {m : Nat} {its : List ItR} {r : List UInt8} {k : Nat} (h : withB its k fr tu = true) : stF fr tu m its r (k + 1) = (stF fr tu m its r k).bind (fun s => stepU (readU fr tu m) m s (its.getD k it0)) := by
 unfold stF
 rw [selE_yes _ _ _ _ h, List.foldlM_append]
 cases (selE its fr tu k).foldlM (stepU (readU fr tu m) m) ([], r) with
 | none => rfl
 | some s => simp
theorem stF_no {fr tu : List UInt8} {m : Nat} {its : List ItR} {r : List UInt8} {k : Nat} (h : withB its k fr tu = false) : stF fr tu m its r (k + 1) = stF fr tu m its r k := by
 unfold stF
 rw [selE_no _ _ _ _ h]
theorem stF_none {fr tu : List UInt8} {m : Nat} {its : List ItR} {r : List UInt8} {k : Nat} (h : stF fr tu m its r k = none) : ∀ n, k ≤ n → stF fr tu m its r n = none
 | 0, hn => by
  obtain rfl : k = 0 := by omega
  exact h
 | n + 1, hn => by
  by_cases e : k = n + 1
  ·subst e; exact h
  ·have ih := stF_none h n (by omega)
   cases hw : withB its n fr tu
   ·rw [stF_no hw]; exact ih
   ·rw [stF_yes hw, ih]; rfl
theorem own_lt {w : World} {base e size n : Nat} {s : SlR} {xs : List Value} (h : w.ownsRow base e size s.val n xs) : ∀ x, s.a = some x → base ≤ x.block ∧ x.block < w.heap.size := fun x hx => by
 obtain ⟨a, c, hv, _, _, h2, _⟩ := owns_form h
 unfold SlR.val at hv
 cases hv
 exact (h2 x hx).2.2
set_option maxRecDepth 100000 in
set_option maxHeartbeats 8000000 in
theorem under_succ (fr tu : List UInt8) (m : Nat) (ih : UnderSpec fr tu m) : UnderSpec fr tu (m + 1) := by
 intro K rb cur its r w hr hK hpo hsi hcn hcb hM
 have hrb := hr.lt
 have hm6 : m + 1 ≤ 6 := hpo.le6
 obtain ⟨lvl, hlvl⟩ : ∃ lvl, lvl = m + 1 := ⟨_, rfl⟩
 rw [show readU fr tu (m + 1) its r = stF fr tu m its r its.length from rfl]
 obtain ⟨N, hN⟩ : ∃ N, N = its.length + r.length := ⟨_, rfl⟩
 rw [← hlvl, ← hN]
 have hA : Below w.heap.size w (w.alloc (.cells #[.int .i64 (lvl : Int), .slice cur.a cur.n cur.cap] 80)) := (Below.refl _ _).alloc (Nat.le_refl _) _
 have HF0 : Hid (Frame (fun k => k = rb) w (w.alloc (.cells #[.int .i64 (lvl : Int), .slice cur.a cur.n cur.cap] 80))) := Frame.of_below_all hA
 have HP0 : Hid (RowV (w.alloc (.cells #[.int .i64 (lvl : Int), .slice cur.a cur.n cur.cap] 80)) w.heap.size 80 [.int .i64 (lvl : Int), .slice cur.a cur.n cur.cap]) := RowV.new w _ _
 have HR0 : Hid (RdO (w.alloc (.cells #[.int .i64 (lvl : Int), .slice cur.a cur.n cur.cap] 80)) K rb (some r)) := hr.below hA
 have HSI : Hid (∀ wr, Frame (fun k => k = rb) w wr → SlI wr cur.a its) := fun wr hf => SlV.frame hsi hf (fun x hx e => (hcb x hx).2 e)
 have HCN : Hid (cur.n = its.length) := hcn
 have HPO : Hid (PageOk (m + 1) its) := hpo
 have HL60 : Hid (its.length ≤ 60) := hpo.len
 have hc60 : (cur.n : Int) ≤ 60 := by rw [hcn]; have := hpo.len; omega
 have HK : Hid (∀ k, K k → k < w.heap.size) := hK
 have HM : Hid (its.length + r.length ≤ 1000000000) := hM
 have HLV : Hid (lvl = m + 1) := hlvl
 have HNN : Hid (N = its.length + r.length) := hN
 have hl6 : (lvl : Int) ≤ 6 := by omega
 have hl0e : ((lvl : Int) == 0) = false := by simp; omega
 have HIH : Hid (UnderSpec fr tu m) := ih
 clear hr hK hpo hsi hcn hcb hM hA ih hlvl hm6 hN
 unfold SlR.val
 go_enter Tryz.func109, Tryz.ntmps109
 go_wp2
 go_loopw [9, 10, 11, 12, 13, 14] (fun ov i _ _ _ _ wr => ∃ (k : Nat) (v : SlR) (es : List (SlR × SlR)) (l0 : List ItR), k ≤ its.length ∧ i = .int .i64 (k : Int) ∧ ov = .slice v.a v.n v.cap ∧ Hid (Frame (fun k => k = rb) w wr) ∧ Hid (RowV wr w.heap.size 80 [.int .i64 (lvl : Int), .slice cur.a cur.n cur.cap]) ∧ Hid (RdO wr K rb ((stF fr tu m its r k).map (·.2))) ∧ Hid (EntsR wr w.heap.size v es l0) ∧ Hid (l0.length ≤ r.length) ∧ Hid (∀ l r', stF fr tu m its r k = some (l, r') → l0 = l.filter (inR fr tu) ∧ l.length + r'.length ≤ r.length)) (fun _ i _ _ _ _ _ => its.length - (intOf i).toNat)
 case atStart => exact ⟨0, ⟨none, 0, 0⟩, [], [], by omega, by simp, rfl, HF0, HP0, HR0, EntsR.nil _ _, by unfold Hid; simp, fun l r' e => by cases e; simp⟩
 case round =>
  obtain ⟨k, v, es, l0, hk, rfl, rfl, HF, HP, HR, HE, HL0, HST⟩ := hrel
  obtain ⟨r1, fr1⟩ := HR.out.cells
  have p0 := HP.out.cell 0 (by simp)
  have p1 := HP.out.cell 1 (by simp)
  simp only [List.getElem_cons_zero, List.getElem_cons_succ, Option.isNone_map] at p0 p1 r1
  have hk60 : (k : Int) ≤ 60 := by have := HL60.out; omega
  have hpw : w.heap.size < wr.heap.size := HP.out.lt
  cases hst : stF fr tu m its r k with
  | none =>
   rw [hst] at r1 HR
   simp only [Option.isNone_none] at r1
   have HRN : Hid (stF fr tu m its r its.length = none) := stF_none hst _ hk
   have HEND : Hid (undPost w K rb fr tu N none (.returned (.slice v.a v.n v.cap)) wr) := ⟨v, es, l0, rfl, HF.out, HR.out, HE.out, by have := HL0.out; have := HNN.out; omega, fun l r' e => by cases e⟩
   by_cases hlt : k < its.length
   ·have hkI : (k : Int) < cur.n := by rw [HCN.out]; omega
    go_wp2
    go_ret
    rw [HRN.out]; exact HEND.out
   ·have hkI : ¬ (k : Int) < cur.n := by rw [HCN.out]; omega
    go_wp2
    go_ret
    rw [HRN.out]; exact HEND.out
  | some q =>
   obtain ⟨acc, rr⟩ := q
   rw [hst] at r1 HR
   simp only [Option.isNone_some] at r1
   obtain ⟨hl0, hlen⟩ := HST.out acc rr hst
   have HLA : Hid (l0 = acc.filter (inR fr tu)) := hl0
   have HLN : Hid (acc.length + rr.length ≤ r.length) := hlen
   have HSK : Hid (stF fr tu m its r k = some (acc, rr)) := hst
   have HL0A : Hid (l0.length ≤ acc.length) := by unfold Hid; rw [hl0]; exact List.length_filter_le _ _
   clear hl0 hlen HST hst
   by_cases hlt : k < its.length
   ·have hkI : (k : Int) < cur.n := by rw [HCN.out]; omega
    have hsl := HSI.out wr HF.out
    obtain ⟨bb, oo, hca, hbb, z0, z1, z2⟩ := SlI.cells hsl k hlt
    unfold strV at z0 z1
    have HGD : Hid (its.getD k it0 = its[k]) := by unfold Hid; rw [List.getD_eq_getElem?_getD, List.getElem?_eq_getElem hlt]; rfl
    have hbi : Below wr.heap.size wr (wr.alloc (.cells #[.string ⟨its[k].key.toArray⟩, .string ⟨its[k].more.toArray⟩, .int .i64 (its[k].below : Int)] 84)) := (Below.refl _ _).alloc (Nat.le_refl _) _
    have HWI : Hid (Calls _ _ _ _ _) := withinR_any lvl cur.a cur.cap its k hlt fr tu _ (by have := HL60.out; omega) (SlV.below_all hsl hbi)
    rw [← HCN.out] at HWI
    have HBI : Hid (Below wr.heap.size wr (wr.alloc (.cells #[.string ⟨its[k].key.toArray⟩, .string ⟨its[k].more.toArray⟩, .int .i64 (its[k].below : Int)] 84))) := hbi
    have HXI : Hid (RowV (wr.alloc (.cells #[.string ⟨its[k].key.toArray⟩, .string ⟨its[k].more.toArray⟩, .int .i64 (its[k].below : Int)] 84)) wr.heap.size 84 [.string ⟨its[k].key.toArray⟩, .string ⟨its[k].more.toArray⟩, .int .i64 (its[k].below : Int)]) := RowV.new wr _ _
    have HWR : Hid (w.heap.size ≤ wr.heap.size) := HF.out.size
    clear hsl hbi
    unfold strV at HWI
    generalize its[k] = x at *
    obtain ⟨key, mo, bl⟩ := x
    simp only at z0 z1 z2 HBI HXI HWI
    obtain ⟨ca, cn, cc⟩ := cur
    simp only at hca hkI HCN p1 hc60 HWI HP
    subst hca
    go_wp2_with fail
    refine HWI.out.mono ?_
    rintro e w2 ⟨rfl, hb2⟩
    have HB2 : Hid (Below wr.heap.size wr w2) := HBI.out.trans (hb2.mono HBI.out.size)
    have HX2 : Hid (RowV w2 wr.heap.size 84 [.string ⟨key.toArray⟩, .string ⟨mo.toArray⟩, .int .i64 (bl : Int)]) := RowV.below HXI.out HXI.out.lt hb2
    have y1 := HX2.out.cell 1 (by simp)
    simp only [List.getElem_cons_zero, List.getElem_cons_succ] at y1
    have HR2 : Hid (RdO w2 K rb (some rr)) := HR.out.below HB2.out
    clear hb2 HWI HBI HXI z0 z1 z2
    cases hwb : withB its k fr tu with
    | false =>
     have HNX : Hid (stF fr tu m its r (k + 1) = some (acc, rr)) := by unfold Hid; rw [stF_no hwb]; exact HSK.out
     go_wp2
     refine ⟨⟨k + 1, v, es, l0, hlt, by go_num, rfl, HF.out.trans (Frame.of_below_all HB2.out), HP.out.below HP.out.lt HB2.out, ?_, HE.out.below HB2.out, HL0, ?_⟩, by simp [intOf]; omega⟩
     ·unfold Hid; rw [HNX.out]; exact HR2.out
     ·unfold Hid; rw [HNX.out]; intro l r' e; cases e; exact ⟨HLA.out, HLN.out⟩
    | true =>
     have HNX : Hid (stF fr tu m its r (k + 1) = stepU (readU fr tu m) m (acc, rr) ⟨key, mo, bl⟩) := by unfold Hid; rw [stF_yes hwb, HSK.out, HGD.out]; rfl
     have HPG : Hid (Calls _ _ _ _ _) := rpage_any K rb (some rr) mo w2 HR2.out (fun q hq => Nat.lt_of_lt_of_le (HK.out q hq) (Nat.le_trans HWR.out HB2.out.size))
     clear hwb HGD
     go_wp2_with fail
     refine HPG.out.mono ?_
     rintro e w3 ⟨lvl2, cur2, rfl, hlvl2, hf3, hr3, hown3⟩
     have hf3' : Frame (fun k => k = rb) w w3 := (HF.out.trans (Frame.of_below_all HB2.out)).trans hf3
     have hp3 : RowV w3 w.heap.size 80 [.int .i64 (lvl : Int), .slice (some ⟨bb, oo, none⟩) cn cc] := RowV.of_block (HP.out.below HP.out.lt HB2.out) (hf3.block _ (RowV.lt (HP.out.below HP.out.lt HB2.out)) (by omega))
     have he3 : EntsR w3 w.heap.size v es l0 := (HE.out.below HB2.out).frame hf3 (fun q hq => by omega)
     have hb4 : Below w3.heap.size w3 (w3.alloc (.cells #[.int .i64 (lvl2 : Int), .slice cur2.a cur2.n cur2.cap] 80)) := (Below.refl _ _).alloc (Nat.le_refl _) _
     have HF4 : Hid (Frame (fun k => k = rb) w (w3.alloc (.cells #[.int .i64 (lvl2 : Int), .slice cur2.a cur2.n cur2.cap] 80))) := hf3'.trans (Frame.of_below_all hb4)
     have HP4 : Hid (RowV (w3.alloc (.cells #[.int .i64 (lvl2 : Int), .slice cur2.a cur2.n cur2.cap] 80)) w.heap.size 80 [.int .i64 (lvl : Int), .slice (some ⟨bb, oo, none⟩) cn cc]) := hp3.below hp3.lt hb4
     have HE4 : Hid (EntsR (w3.alloc (.cells #[.int .i64 (lvl2 : Int), .slice cur2.a cur2.n cur2.cap] 80)) w.heap.size v es l0) := he3.below hb4
     have HR4 : Hid (RdO (w3.alloc (.cells #[.int .i64 (lvl2 : Int), .slice cur2.a cur2.n cur2.cap] 80)) K rb ((pgO (some rr) mo).map (·.2))) := hr3.below hb4
     have HQ4 : Hid (RowV (w3.alloc (.cells #[.int .i64 (lvl2 : Int), .slice cur2.a cur2.n cur2.cap] 80)) w3.heap.size 80 [.int .i64 (lvl2 : Int), .slice cur2.a cur2.n cur2.cap]) := RowV.new w3 _ _
     have HOWN : Hid (∀ (lv : Nat) (its : List ItR) (r' : List UInt8), pgO (some rr) mo = some ((lv, its), r') → lvl2 = lv ∧ OwnI (w3.alloc (.cells #[.int .i64 (lvl2 : Int), .slice cur2.a cur2.n cur2.cap] 80)) w2.heap.size cur2.val its) := fun lv its r' e => by
      obtain ⟨e1, h⟩ := hown3 lv its r' e
      exact ⟨e1, owns_below h hb4⟩
     have hpw3 : w.heap.size < w3.heap.size := hp3.lt
     have HW23 : Hid (w.heap.size ≤ w2.heap.size) := Nat.le_trans HWR.out HB2.out.size
     clear hf3' hp3 he3 hb4 hr3 hf3 hown3 HPG y1 HX2 HR2 HF HP HE HR p0 p1 r1 fr1 hbb
     unfold SlR.val
     go_upto_region 12 with fail
     generalize w3.alloc (.cells #[.int .i64 (lvl2 : Int), .slice cur2.a cur2.n cur2.cap] 80) = W4 at *
     have hqW : w3.heap.size < W4.heap.size := HQ4.out.lt
     generalize w3.heap.size = qb at *
     have hrW : rb < W4.heap.size := HR4.out.lt
     obtain ⟨r1, fr1⟩ := HR4.out.cells
     have p0 := HP4.out.cell 0 (by simp)
     have p1 := HP4.out.cell 1 (by simp)
     have q0 := HQ4.out.cell 0 (by simp)
     have q1 := HQ4.out.cell 1 (by simp)
     simp only [List.getElem_cons_zero, List.getElem_cons_succ, Option.isNone_map] at p0 p1 r1 q0 q1
     have HBAD : Hid (Frame (fun k => k = rb) W4 (W4.setCell ⟨rb, 1, none⟩ (.bool true))) := (Frame.refl (fun k => k = rb) _).setCell (p := ⟨rb, 1, none⟩) rfl _
     have hneI : rb ≠ w.heap.size := by omega
     cases hpg : pgO (some rr) mo with
     | none =>
      have HN2 : Hid (stF fr tu m its r (k + 1) = none) := by unfold Hid; rw [HNX.out]; unfold stepU; simp only [hpg]
      rw [hpg] at r1
      simp only [Option.isNone_none] at r1
      clear hpg
      go_wp2
      refine ⟨⟨k + 1, v, es, l0, hlt, by go_num, rfl, HF4.out.trans HBAD.out, RowV.of_block HP4.out (HBAD.out.block _ HP4.out.lt (by omega)), ?_, HE4.out.frame HBAD.out (fun q hq => by omega), HL0, ?_⟩, by simp [intOf]; omega⟩
      ·unfold Hid; rw [HN2.out]; exact HR4.out.bad
      ·unfold Hid; rw [HN2.out]; intro l r' e; cases e
     | some q =>
      obtain ⟨⟨l, its'⟩, rr'⟩ := q
      obtain ⟨hle, how⟩ := HOWN.out l its' rr' hpg
      have HLE : Hid (lvl2 = l) := hle
      rw [hpg] at r1
      simp only [Option.isNone_some] at r1
      by_cases hlm : l = m
      ·have hne : ((lvl2 : Int) == (lvl : Int) - 1) = true := by have := HLV.out; simp; omega
       have HR5 : Hid (RdO W4 K rb (some rr')) := by have := HR4.out; rw [hpg] at this; exact this
       have hpok := pgO_ok hpg
       have hplen := pgO_len hpg
       obtain ⟨hsl5, hcn5⟩ := SlV.ofOwn (s := cur2) how
       have HNY : Hid (stF fr tu m its r (k + 1) = (readU fr tu m its' rr').map (fun e => (acc ++ e.1, e.2))) := by
        unfold Hid; rw [HNX.out]; unfold stepU; simp only [hpg, hlm, if_true]
       subst hlm
       have HUN : Hid (Calls _ _ _ _ _) := HIH.out K rb cur2 its' rr' W4 HR5.out (fun q hq => by have := HK.out q hq; omega) hpok hsl5 hcn5 (fun x hx => by have := own_lt how x hx; have := HW23.out; exact ⟨by omega, by omega⟩) (by have := HM.out; have := HLN.out; omega)
       have HPL : Hid (its'.length + rr'.length + 4 ≤ rr.length) := hplen
       obtain rfl : lvl2 = l := HLE.out
       unfold SlR.val at HUN
       clear hpok hplen hsl5 hcn5 how hle hpg HOWN
       go_wp2_with fail
       refine HUN.out.mono ?_
       rintro e w5 ⟨v5, es5, l5, rfl, hf5, hr5, he5, hl5, hR5⟩
       have HE5 : Hid (EntsR w5 w.heap.size v es l0) := HE4.out.frame hf5 (fun q hq => by omega)
       have HV5 : Hid (EntsR w5 W4.heap.size v5 es5 l5) := he5
       obtain ⟨a5, c5, hv5, hsv5, hnil5, _, _⟩ := owns_form he5.own
       have hn5 : v5.a = a5 ∧ v5.n = es5.length ∧ v5.cap = c5 := by unfold SlR.val at hv5; simp only [Value.slice.injEq] at hv5; exact hv5
       obtain ⟨e51, e52, e53⟩ := hn5
       subst e51; subst e53
       have HSV : Hid (SlV w5 v5.a (entsC es5)) := hsv5
       have HNI : Hid (v5.a = none → v5.n = 0 ∧ v5.cap = 0) := fun e => by have := hnil5 e; rw [e52]; exact ⟨this.2, this.1⟩
       have HN5 : Hid (v5.n = es5.length) := e52
       have HLL : Hid (es.length + v5.n ≤ r.length) := by unfold Hid; rw [e52, HE5.out.len, he5.len]; have := HL0A.out; have := HLN.out; have := HPL.out; omega
       have HL5 : Hid (l5.length ≤ its'.length + rr'.length) := hl5
       have HR6 : Hid (RdO w5 K rb ((readU fr tu lvl2 its' rr').map (·.2))) := hr5
       have HRR : Hid (∀ l1 r1, readU fr tu lvl2 its' rr' = some (l1, r1) → l5 = l1.filter (inR fr tu)) := hR5
       have HF5 : Hid (Frame (fun k => k = rb) w w5) := HF4.out.trans hf5
       have HP5 : Hid (RowV w5 w.heap.size 80 [.int .i64 (lvl : Int), .slice (some ⟨bb, oo, none⟩) cn cc]) := RowV.of_block HP4.out (hf5.block _ HP4.out.lt (by omega))
       clear hv5 hsv5 hnil5 e52 hf5 hr5 he5 hl5 hR5 HUN p0 p1 q0 q1 r1 fr1
       unfold SlR.val
       go_wp2_with (at_builtin; refine wp_appendV (by rfl) (.tmp 88) (.tmp 89) 63 (by rfl) w.heap.size 164 _ 2 48 Tryz.underlying63 Tryz.infoEnt rfl (by decide) (.slice v.a v.n v.cap) es.length (entsC es) (by rfl) HE5.out.own v5.a v5.n v5.cap (entsC es5) (by rfl) (by rw [entsC_length, HN5.out]) HSV.out HNI.out (entsC_one _) (by have := HLL.out; have := HM.out; unfold maxLen; omega) (by have := HLL.out; have := HM.out; omega) HF5.out.size ?_; intro v6 w6 ho6 hf6 hat6; obtain ⟨a6, c6, hv6, _⟩ := owns_form ho6; subst hv6)
       have HE6 : EntsR w6 w.heap.size ⟨a6, es.length + v5.n, c6⟩ (es ++ es5) (l0 ++ l5) := by
        refine EntsR.push (v := v) (v' := ⟨a6, es.length + v5.n, c6⟩) HE5.out HV5.out.len HV5.out.bs (fun e he x hx => ?_) (by rw [← HN5.out]; exact ho6) hf6 hat6
        have := (HV5.out.ge e he x hx).1
        exact ⟨by have := HF4.out.size; omega, fun e => by have := (HE4.out.own.lt _ e).2; omega⟩
       have hin : ∀ x, x < w.heap.size → (Value.slice v.a v.n v.cap).ownBlock = some x → x = rb := fun x hx e => by have := (HE5.out.own.lt x e).1; omega
       have hl05 : (l0 ++ l5).length ≤ r.length := by rw [List.length_append]; have := HL0A.out; have := HL5.out; have := HPL.out; have := HLN.out; omega
       refine ⟨⟨k + 1, ⟨a6, es.length + v5.n, c6⟩, es ++ es5, l0 ++ l5, hlt, by go_num, rfl, HF5.out.inside hf6 hin, RowV.of_block HP5.out (hf6.block _ HP5.out.lt (fun e => owns_ne HE5.out.own HP5.out (by decide) e)), ?_, HE6, hl05, ?_⟩, by simp [intOf]; omega⟩
       ·have h1 := HR6.out.frame hf6 (fun e => by have := (HE5.out.own.lt _ e).1; omega) (fun q hq e => by have := (HE5.out.own.lt _ e).1; have := HK.out q hq; omega)
        unfold Hid; rw [HNY.out]
        cases hu : readU fr tu lvl2 its' rr' with
        | none => rw [hu] at h1; exact h1
        | some q => rw [hu] at h1; exact h1
       ·unfold Hid; rw [HNY.out]; intro l1 r1 e
        cases hu : readU fr tu lvl2 its' rr' with
        | none => rw [hu] at e; cases e
        | some q =>
         obtain ⟨q1, q2⟩ := q
         rw [hu] at e
         simp only [Option.map_some, Option.some.injEq, Prod.mk.injEq] at e
         obtain ⟨rfl, rfl⟩ := e
         rw [HLA.out, HRR.out q1 q2 hu, List.filter_append]
         refine ⟨rfl, ?_⟩
         have := readU_len fr tu lvl2 its' rr' q1 q2 hu
         have := HPL.out; have := HLN.out
         rw [List.length_append]; omega
      ·have hne : ((lvl2 : Int) == (lvl : Int) - 1) = false := by
        have := HLV.out
        have : ¬ (l + 1 = lvl) := by omega
        simp; omega
       have HN2 : Hid (stF fr tu m its r (k + 1) = none) := by unfold Hid; rw [HNX.out]; unfold stepU; simp only [hpg, if_neg hlm]
       clear hpg
       go_wp2
       refine ⟨⟨k + 1, v, es, l0, hlt, by go_num, rfl, HF4.out.trans HBAD.out, RowV.of_block HP4.out (HBAD.out.block _ HP4.out.lt (by omega)), ?_, HE4.out.frame HBAD.out (fun q hq => by omega), HL0, ?_⟩, by simp [intOf]; omega⟩
       ·unfold Hid; rw [HN2.out]; exact HR4.out.bad
       ·unfold Hid; rw [HN2.out]; intro l r' e; cases e
   ·have hkI : ¬ (k : Int) < cur.n := by rw [HCN.out]; omega
    have hke : k = its.length := by omega
    have HRN : Hid (stF fr tu m its r its.length = some (acc, rr)) := by unfold Hid; rw [← hke]; exact HSK.out
    go_wp2
    go_ret
    rw [HRN.out]
    exact ⟨v, es, l0, rfl, HF.out, HR.out, HE.out, by have := HL0.out; have := HNN.out; omega, fun l r' e => by cases e; exact HLA.out⟩
theorem under_good (fr tu : List UInt8) : ∀ lvl, UnderSpec fr tu lvl
 | 0 => under_zero fr tu
 | m + 1 => under_succ fr tu m (under_good fr tu m)
end Go.Proofs.YtekegfbjbainhaaGreat
