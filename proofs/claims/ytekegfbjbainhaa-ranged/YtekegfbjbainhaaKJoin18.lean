import Derived.Test.YtekegfbjbainhaaKK2
import Derived.BigQuiet
import Derived.Test.YtekegfbjbainhaaKJoin13
import Derived.Great.Frames
set_option linter.unusedVariables false
set_option linter.unusedSimpArgs false

namespace Go.Proofs.Ytekegfbjbainhaa
open Go.RowKit
attribute [local go_sem ↓] Go.wp_at_zero Go.wp_at_succ
theorem bel_drewN (w : World) (q : Nat) : Below w.heap.size w (w.drewN q) := ⟨rfl, rfl, rfl, Nat.le_refl _, fun _ _ => rfl⟩
theorem memQ {es nes : List (SlR × SlR)} {e : SlR × SlR} (h : ∀ x ∈ es, x ∈ nes) (he : e ∈ nes) : ∀ x ∈ es ++ [e], x ∈ nes := fun x hx => by
 rcases List.mem_append.1 hx with h1 | h1
 ·exact h x h1
 ·rw [List.mem_singleton.1 h1]; exact he
theorem delN_len {l : List ItR} {key : List UInt8} (h : thereB l key = true) : (delN l key).length + 1 = l.length := by
 have := thereB_lt h
 unfold delN; simp; omega
set_option maxRecDepth 100000 in
set_option maxHeartbeats 4000000 in
theorem house_take (hb sb N : Nat) (en tr : SlR) (mp : Option Nat) (ms : List MEn) (xs : List EnP) (tds : List Nd) (past done : Value) (nw : SlR) (nes : List (SlR × SlR)) (its : List ItR) (sk : SlR) (key : List UInt8) (w : World) (hR : RowV w hb 32 [.pointer (some ⟨sb, 0, none⟩), nw.val, past, done]) (hS : StoAt w sb N en tr mp ms xs its tds) (hE : EnsK w 0 nw nes its) (hK : BS w sk key) (hko : keyOk key = true)
  (hs1 : ∀ k, ensF nw nes k → k ≠ sb ∧ k ≠ hb) (hs2 : ¬ stoF sb en tr mp ms xs tds hb) (hs3 : hb ≠ sb) :
  Calls Try.prog 13 #[.pointer (some ⟨hb, 0, none⟩), sk.val] w (hpost w hb sb N en tr mp ms xs its tds nw nes past done (fun _ => False) (delL its key)) := by
 obtain ⟨hn, hnn⟩ := SlV.ofOwn (s := nw) hE.own
 have hbs : BsL w nes its := ⟨hE.len, hE.bs⟩
 have hl : its.length ≤ 60 := hS.len
 have HRI : Hid (Rising its) := hS.rise
 have HS : Hid (StoAt w sb N en tr mp ms xs its tds) := hS
 have HEK : Hid (EnsK w 0 nw nes its) := hE
 have HS1 : Hid (∀ k, ensF nw nes k → k ≠ sb ∧ k ≠ hb) := hs1
 have HS2 : Hid (¬ stoF sb en tr mp ms xs tds hb) := hs2
 have HS3 : Hid (hb ≠ sb) := hs3
 have HKO : Hid (keyOk key = true) := hko
 clear hE hS hs1 hs2 hs3 hko
 have hhb := hR.lt
 have HR : Hid (RowV w hb 32 [.pointer (some ⟨sb, 0, none⟩), nw.val, past, done]) := hR
 have HN : Hid (SlV w nw.a (entsC nes)) := hn
 have HBS : Hid (BsL w nes its) := hbs
 have HKK : Hid (BS w sk key) := hK
 have hnl : nes.length = its.length := hbs.1
 have hlI : (its.length : Int) ≤ 60 := by omega
 obtain ⟨na', nn, nc⟩ := nw
 simp only at hnn
 obtain rfl : nn = its.length := by rw [hnn, hnl]
 have r1 : w.cell? ⟨hb, 1, none⟩ = some (.slice na' its.length nc) := RowV.cell? hR 1
 clear hR hn hbs hK hnn
 unfold SlR.val
 go_enter Try.func13, Try.ntmps13
 go_wp2
 go_loopw [5, 6] (fun lv i wr => ∃ (k : Nat) (v : SlR) (es : List (SlR × SlR)), k ≤ its.length ∧ i = .int .i64 (k : Int) ∧ lv = .slice v.a v.n v.cap ∧ Hid (Below w.heap.size w wr) ∧ Hid (wr.ownsRow w.heap.size 37 2 (.slice v.a v.n v.cap) es.length (entsC es)) ∧ Hid (BsL w es (htA its key k)) ∧ Hid (∀ e ∈ es, e ∈ nes)) (fun _ i _ => its.length - (intOf i).toNat)
 case atStart => exact ⟨0, ⟨none, 0, 0⟩, [], by omega, rfl, rfl, Below.refl _ _, World.ownsRow_nil _ _ _ _, by unfold Hid htA; exact BsL.nil _, fun e he => (by cases he)⟩
 case round =>
  obtain ⟨k, v, es, hk, rfl, rfl, HB, HO, HE, HM⟩ := hrel
  have r1' : wr.cell? ⟨hb, 1, none⟩ = some (.slice na' its.length nc) := by rw [HB.out.cell (p := ⟨hb, 1, none⟩) hhb]; exact r1
  have hkI : (k : Int) ≤ 60 := by omega
  by_cases hlt : k < its.length
  ·have hltI : (k : Int) < its.length := by omega
   have hkn : k < nes.length := by omega
   obtain ⟨b, o, hca, hbb, c0, c1⟩ := entsC_cells HN.out k hkn
   subst hca
   have d0 : wr.cell? ⟨b, o + k * 2, none⟩ = some (.slice nes[k].1.a nes[k].1.n nes[k].1.cap) := by rw [HB.out.cell (p := ⟨b, o + k * 2, none⟩) hbb]; exact c0
   have d1 : wr.cell? ⟨b, o + k * 2 + 1, none⟩ = some (.slice nes[k].2.a nes[k].2.n nes[k].2.cap) := by rw [HB.out.cell (p := ⟨b, o + k * 2 + 1, none⟩) hbb]; exact c1
   obtain ⟨p1, p2⟩ := HBS.out.2 k hkn hlt
   have HP1 : Hid (BS w nes[k].1 its[k].key) := p1
   have HP2 : Hid (BS w nes[k].2 its[k].more) := p2
   have HMN : Hid ((nes[k].1, nes[k].2) ∈ nes) := List.getElem_mem hkn
   have hsucc := htA_succ (key := key) hlt
   have HT : Hid _ := hsucc
   clear c0 c1 p1 p2 hsucc
   generalize nes[k].1 = s1 at *
   generalize nes[k].2 = s2 at *
   generalize its[k] = x at *
   obtain ⟨xk, xm, xb⟩ := x
   simp only at HP1 HP2 HT
   have HEL : Hid (es.length ≤ 61) := (show es.length ≤ 61 by have h1 := HE.out.1; have h2 := htA_len its key k; omega)
   have e1 := fun q => bs_run HP1.out (HB.out.trans ((bel_drewN wr q).mono HB.out.size))
   have e2 := fun q => bs_run HKK.out (HB.out.trans ((bel_drewN wr q).mono HB.out.size))
   by_cases hxe : xk = key
   ·have HT2 : Hid (htA its key (k + 1) = htA its key k) := by unfold Hid; rw [HT.out, hxe]; simp
    have hb2 : (xk == key) = true := by simpa using hxe
    clear hxe
    go_wp2_with fail
    go_quiet (fail)
    go_wp2
    refine ⟨⟨k + 1, v, es, by omega, by go_num, rfl, HB.out.trans ((bel_drewN wr _).mono HB.out.size), owns_below HO.out (bel_drewN wr _), by unfold Hid; rw [HT2.out]; exact HE.out, HM⟩, by simp [intOf]; omega⟩
   ·have HT2 : Hid (htA its key (k + 1) = htA its key k ++ [⟨xk, xm, xb⟩]) := by
     unfold Hid; rw [HT.out, if_pos (by simpa using hxe)]
    have hb2 : (xk == key) = false := by simpa using hxe
    clear hxe
    go_wp2_with fail
    go_quiet (fail)
    have HBQ : Hid (Below w.heap.size w (wr.drewN nq)) := HB.out.trans ((bel_drewN wr _).mono HB.out.size)
    go_wp2_with (first
     | (at_builtin; have HBe4 : Hid (Below (wr.drewN nq).heap.size (wr.drewN nq) ((wr.drewN nq).alloc (.cells #[.slice s1.a s1.n s1.cap, .slice s2.a s2.n s2.cap] 37))) := (Below.refl _ _).alloc (Nat.le_refl _) _; refine wp_appendV (by rfl) (.tmp 29) (.tmp 37) 27 (by rfl) w.heap.size 37 _ 2 48 Try.underlying27 Try.infoEnt rfl (by decide) (.slice v.a v.n v.cap) es.length (entsC es) (by rfl) (owns_below (owns_below HO.out (bel_drewN wr nq)) HBe4.out) (some ⟨wr.heap.size, 0, none⟩) 1 1 (entsC [(s1, s2)]) (by rfl) rfl (by have h := SlV.alloc_new (wr.drewN nq) (entsC [(s1, s2)]) 37; (try simp only [World.size_alloc] at h); exact h) (fun h => by cases h) (entsC_one _) (by have := HEL.out; unfold maxLen; omega) (by have := HEL.out; omega) (Nat.le_trans HBQ.out.size HBe4.out.size) ?_; intro v4 w4 ho4 hf4 hat4; obtain ⟨a4, c4, hv4, _⟩ := owns_form ho4; subst hv4; have HB4 : Hid (Below w.heap.size w w4) := (HBQ.out.trans (HBe4.out.mono HBQ.out.size)).trans (hf4.below (Nat.le_trans HBQ.out.size HBe4.out.size) (fun q hq => (World.ownsRow.lt (owns_below HO.out (bel_drewN wr nq)) q hq).1)); have HO4 : Hid (w4.ownsRow w.heap.size 37 2 (.slice a4 (es.length + 1) c4) (es ++ [(s1, s2)]).length (entsC (es ++ [(s1, s2)]))) := by { unfold Hid; rw [entsC_append, show (es ++ [(s1, s2)]).length = es.length + 1 from List.length_append]; exact ho4 }))
    refine ⟨⟨k + 1, ⟨a4, es.length + 1, c4⟩, es ++ [(s1, s2)], by omega, by go_num, rfl, HB4, HO4, ?_, memQ HM.out HMN.out⟩, by simp [intOf]; omega⟩
    unfold Hid; rw [HT2.out]; exact HE.out.push HP1.out HP2.out
  ·have hltI : ¬ (k : Int) < its.length := by omega
   obtain rfl : k = its.length := by omega
   obtain ⟨va2, vn2, vc2⟩ := v
   simp only at HO
   obtain rfl : vn2 = es.length := (owns_cap (a := va2) (n' := vn2) (cap := vc2) HO.out).1
   have hE2 : es.length = (htA its key its.length).length := HE.out.1
   have hen := htA_end (key := key) HRI.out
   have hsbw : sb < w.heap.size := HS.out.row.lt
   have r0 : wr.cell? ⟨hb, 0, none⟩ = some (.pointer (some ⟨sb, 0, none⟩)) := by rw [HB.out.cell (p := ⟨hb, 0, none⟩) hhb]; exact RowV.cell? HR.out 0
   have HDEL : Hid (Calls _ _ _ _ _) := sto_del sb N en tr mp ms xs its tds sk key wr (HS.out.below HB.out) (HKK.out.below HB.out) (by have h := HKO.out; unfold keyOk at h; simp at h; unfold maxLen; omega)
   unfold SlR.val at HDEL
   have HRc : Hid (RowV wr hb 32 [.pointer (some ⟨sb, 0, none⟩), .slice na' its.length nc, past, done]) := RowV.below HR.out hhb HB.out
   have HF1 : Hid (∀ w6, Frame (fun k => k = sb) wr w6 → RowV w6 hb 32 [.pointer (some ⟨sb, 0, none⟩), .slice na' its.length nc, past, done]) := fun w6 hf6 => HRc.out.of_block (hf6.block _ HRc.out.lt HS3.out)
   cases ht : thereB its key with
   | false =>
    have hpe : delE its key = 3 := by unfold delE; simp [HKO.out, ht]
    have HPL : Hid (delL its key = its) := by unfold Hid delL; rw [hpe]; rfl
    rw [ht] at hen
    simp only [Bool.false_eq_true, if_false] at hen
    rw [hen] at hE2
    have hgI : (es.length : Int) = its.length := by omega
    clear hE2 hen
    go_wp2_with (first
     | (go_at_call 33; refine HDEL.out.mono ?_; rintro e w6 ⟨rfl, en', xs', hS6, hf6, hF6⟩; rw [hpe]; have g1 : w6.cell? ⟨hb, 1, none⟩ = some (.slice na' its.length nc) := RowV.cell? (HF1.out _ hf6) 1))
    go_ret
    rw [HPL.out] at hS6
    unfold hpost
    rw [HPL.out]
    refine ⟨rfl, en', xs', ⟨na', its.length, nc⟩, nes, hS6, ⟨owns_frame (owns_below HEK.out.own HB.out) hf6 (fun k hk e => (HS1.out k (Or.inl hk)).1 e), HEK.out.len, ((HBS.out.below HB.out).frame hf6 (fun k hk e => (HS1.out k (Or.inr hk)).1 e)).2⟩, HF1.out _ hf6, (Frame.of_below_all HB.out).inside hf6 (fun x _ e => Or.inl e), fun k hk hlt => hF6 k hk (Nat.lt_of_lt_of_le hlt HB.out.size), fun k hk _ => Or.inl hk⟩
   | true =>
    have hpe : delE its key = 0 := by unfold delE; simp [HKO.out, ht]
    have HPL : Hid (delL its key = delN its key) := by unfold Hid delL; rw [hpe]; rfl
    rw [ht] at hen
    simp only [if_true] at hen
    have HEE : Hid (BsL w es (delN its key)) := by unfold Hid; rw [← hen]; exact HE.out
    rw [hen] at hE2
    have hdl := delN_len ht
    have hgI : ¬ (es.length : Int) = its.length := by omega
    have hgb : ((es.length : Int) == its.length) = false := by simpa using hgI
    clear hE2 hen hdl
    go_wp2_with (first
     | (go_at_call 33; refine HDEL.out.mono ?_; rintro e w6 ⟨rfl, en', xs', hS6, hf6, hF6⟩; rw [hpe]; have g1 : w6.cell? ⟨hb, 1, none⟩ = some (.slice na' its.length nc) := RowV.cell? (HF1.out _ hf6) 1; have g2 : w6.frozen? ⟨hb, 1, none⟩ = false := RowV.frozen (HF1.out _ hf6) 1))
    go_ret
    rw [HPL.out] at hS6
    unfold hpost
    rw [HPL.out]
    have hfs : Frame (fun k => k = hb) w6 (w6.setCell ⟨hb, 1, none⟩ (.slice va2 es.length vc2)) := Frame.setCell (S := fun k => k = hb) (Frame.refl _ _) (p := ⟨hb, 1, none⟩) rfl _
    have hbl : ∀ k, (∃ e ∈ es, blkOf e.1 k ∨ blkOf e.2 k) → ensF ⟨na', its.length, nc⟩ nes k := fun k ⟨e, he, hk⟩ => Or.inr ⟨e, HM.out e he, hk⟩
    refine ⟨rfl, en', xs', ⟨va2, es.length, vc2⟩, es, hS6.frame hfs (fun k hk e => ?_), ⟨owns_base (owns_frame (owns_frame HO.out hf6 (fun k hk e => ?_)) hfs (fun k hk e => ?_)) (fun k _ => Nat.zero_le _), HEE.out.1, (((HEE.out.below HB.out).frame hf6 (fun k hk e => (HS1.out k (hbl k hk)).1 e)).frame hfs (fun k hk e => (HS1.out k (hbl k hk)).2 e)).2⟩, (HF1.out _ hf6).set 1 _, ((Frame.of_below_all HB.out).inside hf6 (fun x _ e => Or.inl e)).inside hfs (fun x _ e => Or.inr e), fun k hk hlt => hF6 k hk (Nat.lt_of_lt_of_le hlt HB.out.size), fun k hk hlt => ?_⟩
    ·subst e; exact HS2.out (hF6 _ hk (Nat.lt_of_lt_of_le hhb HB.out.size))
    ·have := (HO.out.lt k hk).1; omega
    ·have := (HO.out.lt k hk).1; omega
    ·rcases hk with hk | hk
     ·have := (HO.out.lt k hk).1; omega
     ·exact Or.inl (hbl k hk)
end Go.Proofs.Ytekegfbjbainhaa


namespace Go.Proofs.Ytekegfbjbainhaa
open Go.RowKit
theorem Try.infoCommit : (Try.prog.info? 49).map (fun i => (i.zero, i.size, i.bytes)) = some (some (.agg zero18.toArray), 18, 32) := by kernel_rfl
set_option maxRecDepth 100000 in
theorem bs18' (v0 v1 v2 v3 v4 v5 v6 v7 v8 v9 v10 v11 v12 v13 v14 v15 v16 v17 : Value) (W : World) : (Instr.buildSlice 30 1 #[(0, Value.agg #[v0, v1, v2, v3, v4, v5, v6, v7, v8, v9, v10, v11, v12, v13, v14, v15, v16, v17])]).run Try.prog W = .ok (.slice (some ⟨W.heap.size, 0, none⟩) 1 1) (W.alloc (.cells #[v0, v1, v2, v3, v4, v5, v6, v7, v8, v9, v10, v11, v12, v13, v14, v15, v16, v17] 49)) := by
 kernel_rfl
theorem bs18 (C : List Value) (hC : C.length = 18) (W : World) : (Instr.buildSlice 30 1 #[(0, Value.agg C.toArray)]).run Try.prog W = .ok (.slice (some ⟨W.heap.size, 0, none⟩) 1 1) (W.alloc (.cells C.toArray 49)) := by
 match C, hC with
 | [v0, v1, v2, v3, v4, v5, v6, v7, v8, v9, v10, v11, v12, v13, v14, v15, v16, v17], _ => exact bs18' v0 v1 v2 v3 v4 v5 v6 v7 v8 v9 v10 v11 v12 v13 v14 v15 v16 v17 W
theorem op_store1 {o : Oper} {a : Act} {w : World} {K : Act → World → Prop} {Q : Exit → Act → World → Prop} (x y : Operand) (ho : o.op = .store 30 x y)
  (b k : Nat) (v : Value) (sa : Option Addr) (n c : Nat) (hx : a.eval x = .pointer (some ⟨b, k, none⟩)) (hy : a.eval y = .slice sa n c) (hc : w.cell? ⟨b, k, none⟩ = some v) (hf : w.frozen? ⟨b, k, none⟩ = false)
  (h : K (a.put o.dst undef) (w.setCell ⟨b, k, none⟩ (.slice sa n c))) : Oper.wp Try.prog o a w K Q := by
 unfold Oper.wp execOp
 simp only [ho, hx, hy]
 go_simp
 exact h
theorem op_buildR {o : Oper} {a : Act} {w : World} {K : Act → World → Prop} {Q : Exit → Act → World → Prop} (t e : TypeId) (x : Operand) (ho : o.op = .buildSlice t 1 #[(0, x)])
  (C : List Value) (hx : a.eval x = .agg C.toArray) (hb : ∀ W, (Instr.buildSlice t 1 #[(0, .agg C.toArray)]).run Try.prog W = .ok (.slice (some ⟨W.heap.size, 0, none⟩) 1 1) (W.alloc (.cells C.toArray e)))
  (h : K (a.put o.dst (.slice (some ⟨w.heap.size, 0, none⟩) 1 1)) (w.alloc (.cells C.toArray e))) : Oper.wp Try.prog o a w K Q := by
 unfold Oper.wp execOp
 simp only [ho, List.map_toArray, List.map_cons, List.map_nil, hx, Sem.run_bind, hb, Result.andThen_ok, Sem.run_pure]
 exact h
end Go.Proofs.Ytekegfbjbainhaa
