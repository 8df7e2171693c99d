
import Derived.Test.YtekegfbjbainhaaKJoin13
import Derived.Deep.RegionHeld3
import Derived.Deep.DrawnRows
set_option linter.unusedVariables false
set_option linter.unusedSimpArgs false
namespace Go.Proofs.Ytekegfbjbainhaa
open Go.RowKit
structure TrAt (w : World) (base : Nat) (L : List (List Nd)) : Prop where
 ok : ∀ nds ∈ L, ∀ x ∈ nds, NdOk w x
 lo : ∀ nds ∈ L, ∀ x ∈ nds, ∀ k, ndF x k → k < base
theorem TrAt.below {w w' : World} {base : Nat} {L : List (List Nd)} (h : TrAt w base L) (hb : Below base w w') (hs : w.heap.size ≤ w'.heap.size) : TrAt w' base L :=
 ⟨fun nds hn x hx => (h.ok nds hn x hx).frame (S := fun k => base ≤ k) ⟨hb.os, hb.tape, hb.output, hs, fun k _ hk => hb.block k (by omega)⟩ (fun k hk e => by have := h.lo nds hn x hx k hk; omega), h.lo⟩
structure BLow (w : World) (base : Nat) (s : SlR) (l : List UInt8) : Prop where
 bs : BS w s l
 lo : ∀ x, s.a = some x → x.block < base
theorem BLow.below {w w' : World} {base : Nat} {s : SlR} {l : List UInt8} (h : BLow w base s l) (hb : Below base w w') (hs : w.heap.size ≤ w'.heap.size) : BLow w' base s l :=
 ⟨h.bs.frame (S := fun k => base ≤ k) ⟨hb.os, hb.tape, hb.output, hs, fun k _ hk => hb.block k (by omega)⟩ (fun x hx e => by have := h.lo x hx; omega), h.lo⟩
theorem wrap_u8 (x : Int) : IntKind.u8.wrap x = x % 256 := by
 simp [IntKind.wrap, IntKind.bits, IntKind.signed]
theorem RowV.cellP {w : World} {b t : Nat} {l : List Value} (h : RowV w b t l) (k : Nat) (v : Value) (hv : l[k]? = some v) : w.cell? ⟨b, k, none⟩ = some v := by
 rw [h.cell? k]; exact hv
attribute [local go_sem ↓] Go.wp_at_zero Go.wp_at_succ
set_option maxRecDepth 100000 in
set_option maxHeartbeats 4000000 in
theorem pages_step (L : List (List Nd)) (sf st : SlR) (fr tu : List UInt8) (x : Nd) (v : SlR) (l C : List UInt8) (its : List ItR) (fs : List (List UInt8)) (base : Nat) (w : World) (hA : TrAt w base L) (hx : ∃ nds ∈ L, x ∈ nds) (hF : BLow w base sf fr) (hS : BLow w base st tu) (hb : base ≤ w.heap.size) (ho : OwnB w base v.val l)
  (hC : codeB x.level x.its = C) (hC6 : C.length ≤ 6000) (hl : its.length = x.bl.length) (h200 : its.length ≤ 200) (hen : ∀ (W : World), TrAt W base L → ∀ i (h1 : i < x.bl.length) (h2 : i < its.length), ∃ la : SlR, W.cell? ⟨x.bl[i], 0, none⟩ = some la.val ∧ x.bl[i] < W.heap.size ∧ BS W la its[i].key)
  (hfs : fs.length = (selF its fr tu x.bl its.length).length) (hlen : l.length + 2 + C.length + fs.flatten.length ≤ 140737488355328)
  (hrec : ∀ (t : Nat) (ht : t < (selF its fr tu x.bl its.length).length) (ht2 : t < fs.length) (v2 : SlR) (l2 : List UInt8) (W : World), TrAt W base L → BLow W base sf fr → BLow W base st tu → base ≤ W.heap.size → OwnB W base v2.val l2 → l2.length + fs[t].length ≤ 140737488355328 →
   Calls Try.prog 60 #[v2.val, .pointer (some ⟨(selF its fr tu x.bl its.length)[t], 0, none⟩), sf.val, st.val] W fun e w' => ∃ v' : SlR, e = .returned v'.val ∧ OwnB w' base v'.val (l2 ++ fs[t]) ∧ Frame (fun k => v2.val.ownBlock = some k) W w' ∧ (∀ k, v'.val.ownBlock = some k → k < W.heap.size → v2.val.ownBlock = some k)) :
  Calls Try.prog 60 #[v.val, .pointer (some ⟨x.b, 0, none⟩), sf.val, st.val] w fun e w' => ∃ v' : SlR, e = .returned v'.val ∧ OwnB w' base v'.val (l ++ (bt (C.length / 256) :: bt (C.length % 256) :: C) ++ fs.flatten) ∧ Frame (fun k => v.val.ownBlock = some k) w w' ∧ (∀ k, v'.val.ownBlock = some k → k < w.heap.size → v.val.ownBlock = some k) := by
 obtain ⟨nds, hnds, hxn⟩ := hx
 have HX : Hid (∀ W, TrAt W base L → NdOk W x) := fun W h => h.ok nds hnds x hxn
 have hxw := hA.ok nds hnds x hxn
 have hby := hxw.by_
 rw [hC] at hby
 have hnI : (x.by_.n : Int) ≤ 6000 := by rw [hby.n]; omega
 have c1 : w.cell? ⟨x.b, 1, none⟩ = some (.slice x.by_.a x.by_.n x.by_.cap) := hxw.row.cellP 1 _ (by simp [ndC, SlR.val])
 have HSH : Hid (x.by_.n = C.length) := hby.n
 unfold SlR.val at ho
 have hAB : Below w.heap.size w (w.alloc (.cells #[.int .u8 (IntKind.u8.wrap ((x.by_.n : Int) / 256)), .int .u8 (IntKind.u8.wrap (x.by_.n : Int))] 5)).drew := by
  have hz : Below w.heap.size w (w.alloc (.cells #[.int .u8 (IntKind.u8.wrap ((x.by_.n : Int) / 256)), .int .u8 (IntKind.u8.wrap (x.by_.n : Int))] 5)) := (Below.refl _ _).alloc (Nat.le_refl _) _
  exact ⟨hz.os, hz.tape, hz.output, hz.size, hz.block⟩
 have HO0 : Hid ((w.alloc (.cells #[.int .u8 (IntKind.u8.wrap ((x.by_.n : Int) / 256)), .int .u8 (IntKind.u8.wrap (x.by_.n : Int))] 5)).drew.ownsRow base 5 1 (.slice v.a v.n v.cap) l.length (l.map u8c)) := owns_below ho hAB
 have HB2 : Hid ([bt (C.length / 256), bt (C.length % 256)].map u8c = [.int .u8 (IntKind.u8.wrap ((x.by_.n : Int) / 256)), .int .u8 (IntKind.u8.wrap (x.by_.n : Int))]) := by
  unfold Hid
  simp only [List.map_cons, List.map_nil]
  rw [bt_c (by omega), bt_c (by omega), hby.n, wrap_u8, wrap_u8]
  simp
  omega
 have HS0 : Hid (SlV (w.alloc (.cells #[.int .u8 (IntKind.u8.wrap ((x.by_.n : Int) / 256)), .int .u8 (IntKind.u8.wrap (x.by_.n : Int))] 5)).drew (some ⟨w.heap.size, 0, none⟩) ([bt (C.length / 256), bt (C.length % 256)].map u8c)) := by
  unfold Hid; rw [HB2.out]; exact SlV.alloc_new w _ _
 have HAB : Hid (Below w.heap.size w (w.alloc (.cells #[.int .u8 (IntKind.u8.wrap ((x.by_.n : Int) / 256)), .int .u8 (IntKind.u8.wrap (x.by_.n : Int))] 5)).drew) := hAB
 have HLEN : Hid (l.length + 2 + C.length + fs.flatten.length ≤ 140737488355328) := hlen
 have HBA : Hid (base ≤ w.heap.size) := hb
 have HOV : Hid (∀ k, (Value.slice v.a v.n v.cap).ownBlock = some k → base ≤ k ∧ k < w.heap.size) := ho.lt
 have HA : Hid (TrAt w base L) := hA
 have HF : Hid (BLow w base sf fr) := hF
 have HS : Hid (BLow w base st tu) := hS
 have HCO : Hid (codeB x.level x.its = C) := hC
 have HNX : Hid (∀ W, Frame (fun k => (Value.slice v.a v.n v.cap).ownBlock = some k) w W → TrAt W base L ∧ BLow W base sf fr ∧ BLow W base st tu ∧ base ≤ W.heap.size) := fun W hf => by
  have hbl : Below base w W := hf.below hb (fun k hk => (ho.lt k hk).1)
  exact ⟨hA.below hbl hf.size, hF.below hbl hf.size, hS.below hbl hf.size, Nat.le_trans hb hf.size⟩
 have HC1 : Hid (∀ W, TrAt W base L → W.cell? ⟨x.b, 1, none⟩ = some (.slice x.by_.a x.by_.n x.by_.cap)) := fun W h => (h.ok nds hnds x hxn).row.cellP 1 _ (by simp [ndC, SlR.val])
 have HC10 : Hid (∀ W, TrAt W base L → W.cell? ⟨x.b, 10, none⟩ = some (.slice x.be.a x.be.n x.be.cap)) := fun W h => (h.ok nds hnds x hxn).row.cellP 10 _ (by simp [ndC, SlR.val, digB_length])
 have HBY : Hid (∀ W, TrAt W base L → SlB W x.by_.a C) := fun W h => by
  have := (h.ok nds hnds x hxn).by_.sl
  rw [hC] at this
  exact this
 have HBN : Hid (x.by_.a = none → x.by_.cap = 0) := hxw.by_.nil
 have HWI : Hid (∀ W, TrAt W base L → BLow W base sf fr → BLow W base st tu → Calls Try.prog 79 #[.slice x.be.a x.be.n x.be.cap, .func (.func 80) #[] #[], .slice sf.a sf.n sf.cap, .slice st.a st.n st.cap] W fun e w' => ∃ o : SlR, e = .returned (.slice o.a o.n o.cap) ∧ w'.ownsRow W.heap.size 96 1 (.slice o.a o.n o.cap) (selF its fr tu x.bl its.length).length ((selF its fr tu x.bl its.length).map ptrV) ∧ Below W.heap.size W w') := fun W h1 h2 h3 => by
  have hxW := h1.ok nds hnds x hxn
  have := withinN_any x.be.a x.be.n x.be.cap x.bl its sf st fr tu W (by rw [hxW.ben, hl]) hl h200 hxW.be (hen W h1) h2.bs h3.bs
  rw [show x.be.n = its.length by rw [hxW.ben, hl]] at this ⊢
  exact this
 have HFS : Hid (fs.length = (selF its fr tu x.bl its.length).length) := hfs
 have HRC : Hid (∀ (t : Nat) (ht : t < (selF its fr tu x.bl its.length).length) (ht2 : t < fs.length) (v2 : SlR) (l2 : List UInt8) (W : World), _) := hrec
 have HSL : Hid ((selF its fr tu x.bl its.length).length ≤ 200) := by have := sel_len its fr tu x.bl its.length; unfold Hid; omega
 generalize selF its fr tu x.bl its.length = sel at *
 clear hAB hby hxw hA hF hS hlen hb hC ho hfs hrec hl hen h200
 unfold SlR.val
 go_enter Try.func60, Try.ntmps60
 go_wp2
 go_region_held3 (fun W => W.cell? ⟨x.b, 1, none⟩ = some (.slice x.by_.a x.by_.n x.by_.cap)) (go_keep)
  ((refine step_appendV (by rfl) (.tmp 11) (.tmp 25) 35 (by rfl) base 5 _ 1 1 Try.underlying35 Try.infoU8 rfl (by decide) (.slice v.a v.n v.cap) l.length (l.map u8c) (by rfl) HO0.out ⟨w.heap.size, 0, none⟩ 2 2 ([bt (C.length / 256), bt (C.length % 256)].map u8c) (by rfl) rfl HS0.out (u8c_one _) (by have := HLEN.out; unfold maxLen; omega) (by have := HLEN.out; omega) (Nat.le_trans HBA.out HAB.out.size) ?_; intro a1 n1 k1 w1 ho1 hf1 hat1; have hfw1 := Frame.trans (Frame.of_below_all HAB.out) hf1; obtain ⟨hA1, hF1, hS1, hb1⟩ := HNX.out w1 hfw1; have d1 := HC1.out w1 hA1))
 have HO1 : Hid (OwnB w1 base (.slice a1 n1 k1) (l ++ [bt (C.length / 256), bt (C.length % 256)])) := by
  unfold Hid OwnB
  rw [List.length_append, List.map_append]
  exact ho1
 have HV1 : Hid (∀ k, (Value.slice a1 n1 k1).ownBlock = some k → k < w.heap.size → (Value.slice v.a v.n v.cap).ownBlock = some k) := fun k hk hlt => by
  rcases hat1 with e | e
  ·rw [← e]; exact hk
  ·rw [e] at hk
   have := Option.some.inj hk
   have := HAB.out.size
   simp at *; omega
 have HFW1 : Hid (Frame (fun k => (Value.slice v.a v.n v.cap).ownBlock = some k) w w1) := hfw1
 have HB1 : Hid (base ≤ w1.heap.size) := hb1
 have hsb1 := HBY.out w1 hA1
 clear ho1 hf1 hat1 hfw1 hF1 hS1 hb1 hA1
 go_wp2_with (at_builtin; refine wp_appendB (by rfl) (.tmp 27) (.tmp 31) (by rfl) base _ (l ++ [bt (C.length / 256), bt (C.length % 256)]) (by rfl) HO1.out x.by_.a x.by_.n x.by_.cap C (by rfl) HSH.out hsb1 HBN.out (by have := HLEN.out; simp; omega) HB1.out ?_; intro a2 n2 c2 w2 hn2 ho2 hs2 hf2 hat2; clear hn2 hs2; have HO2 : Hid (OwnB w2 base (.slice a2 n2 c2) (l ++ [bt (C.length / 256), bt (C.length % 256)] ++ C)) := ho2; have HFW2 : Hid (Frame (fun k => (Value.slice v.a v.n v.cap).ownBlock = some k) w w2) := Frame.inside HFW1.out hf2 (fun k hlt hk => HV1.out k hk hlt); have HAT2 : Hid ((Value.slice a2 n2 c2).ownBlock = (Value.slice a1 n1 k1).ownBlock ∨ (Value.slice a2 n2 c2).ownBlock = some w1.heap.size) := hat2; clear ho2 hf2 hat2; obtain ⟨hA2, hF2, hS2, hb2⟩ := HNX.out w2 HFW2.out; have d10 := HC10.out w2 hA2; have HW2 : Hid (Calls _ _ _ _ _) := HWI.out w2 hA2 hF2 hS2; clear hA2 hF2 hS2 hb2)
 have HV2 : Hid (∀ k, (Value.slice a2 n2 c2).ownBlock = some k → k < w.heap.size → (Value.slice v.a v.n v.cap).ownBlock = some k) := fun k hk hlt => by
  rcases HAT2.out with e | e
  ·exact HV1.out k (by rw [← e]; exact hk) hlt
  ·rw [e] at hk
   have h1 := Option.some.inj hk
   have h2 := HFW1.out.size
   omega
 refine HW2.out.mono ?_
 rintro e w3 ⟨o, rfl, ho3, hb3⟩
 have hon : o.n = sel.length := (owns_cap (a := o.a) (n' := o.n) (cap := o.cap) ho3).1
 have HON : Hid (o.n = sel.length) := hon
 have hoI : (o.n : Int) ≤ 200 := by have := HSL.out; omega
 have HO3 : Hid (OwnB w3 base (.slice a2 n2 c2) (l ++ [bt (C.length / 256), bt (C.length % 256)] ++ C)) := owns_below HO2.out hb3
 have HFW3 : Hid (Frame (fun k => (Value.slice v.a v.n v.cap).ownBlock = some k) w w3) := HFW2.out.trans (Frame.of_below_all hb3)
 have HP3 : Hid (w3.ownsRow w2.heap.size 96 1 (.slice o.a o.n o.cap) sel.length (sel.map ptrV)) := ho3
 clear ho3 hb3 hon
 go_wp2
 go_loopw [0, 10, 41] (fun pv _ ix wr => ∃ (t : Nat) (v2 : SlR), t ≤ o.n ∧ ix = .int .i64 t ∧ pv = v2.val ∧ Hid (OwnB wr base v2.val (l ++ [bt (C.length / 256), bt (C.length % 256)] ++ C ++ (fs.take t).flatten)) ∧ Hid (Frame (fun k => (Value.slice v.a v.n v.cap).ownBlock = some k) w wr) ∧ Hid (wr.ownsRow w2.heap.size 96 1 (.slice o.a o.n o.cap) sel.length (sel.map ptrV)) ∧ Hid (∀ k, v2.val.ownBlock = some k → k < w.heap.size → (Value.slice v.a v.n v.cap).ownBlock = some k)) (fun _ _ ix _ => o.n - (intOf ix).toNat)
 case atStart => exact ⟨0, ⟨a2, n2, c2⟩, by omega, by simp, rfl, by unfold Hid; rw [List.take_zero, List.flatten_nil, List.append_nil]; exact HO3.out, HFW3, HP3, HV2⟩
 case round =>
  obtain ⟨t, v2, ht, rfl, rfl, HO, HFW, HP, HV⟩ := hrel
  by_cases hlt : t < o.n
  ·have hltI : (t : Int) < o.n := by omega
   have hts : t < sel.length := by have := HON.out; omega
   have htf : t < fs.length := by have := HFS.out; omega
   obtain ⟨b, q, hoa, hbb, hcell⟩ := SlV.ptr (SlV.ofOwn (s := o) HP.out).1 t hts
   obtain ⟨hA4, hF4, hS4, hb4⟩ := HNX.out wr HFW.out
   have HTK : Hid ((fs.take (t + 1)).flatten = (fs.take t).flatten ++ fs[t]) := by
    unfold Hid
    rw [List.take_succ_eq_append_getElem htf, List.flatten_append]; simp
   have HL2 : Hid ((l ++ [bt (C.length / 256), bt (C.length % 256)] ++ C ++ (fs.take t).flatten).length + fs[t].length ≤ 140737488355328) := by
    have h1 := HLEN.out
    have h2 := congrArg List.length HTK.out
    have h3 : ((fs.take (t + 1)).flatten).length ≤ fs.flatten.length := by
     have h := congrArg (fun m => m.flatten.length) (List.take_append_drop (t + 1) fs)
     simp only [List.flatten_append, List.length_append] at h
     omega
    rw [List.length_append] at h2
    unfold Hid
    simp only [List.length_append, List.length_cons, List.length_nil] at h1 h2 h3 ⊢
    omega
   have HR : Hid (Calls _ _ _ _ _) := HRC.out t hts htf v2 _ wr hA4 hF4 hS4 hb4 HO.out HL2.out
   generalize sel[t] = y at *
   obtain ⟨oa, on, oc⟩ := o
   simp only at hoa hltI ht hlt hoI
   subst hoa
   clear hA4 hF4 hS4 hb4
   unfold SlR.val at HR ⊢
   go_wp2_with (go_at_call 60; refine HR.out.mono ?_; rintro e w5 ⟨v5, rfl, ho5, hf5, hv5⟩)
   have HV5 : Hid (∀ k, v5.val.ownBlock = some k → k < w.heap.size → (Value.slice v.a v.n v.cap).ownBlock = some k) := fun k hk hlt' => HV.out k (hv5 k hk (by have := HFW.out.size; omega)) hlt'
   refine ⟨⟨t + 1, v5, by omega, by go_num, rfl, ?_, ?_, ?_, HV5⟩, by simp [intOf]; omega⟩
   ·unfold Hid; rw [HTK.out, ← List.append_assoc]; exact ho5
   ·exact Frame.inside HFW.out hf5 (fun k hlt' hk => HV.out k hk hlt')
   ·exact owns_frame HP.out hf5 (fun k hk e => owns_ne2 HP.out HO.out (by decide) k hk e)
  ·obtain rfl : t = o.n := by omega
   have HTE : Hid (fs.take o.n = fs) := by unfold Hid; rw [HON.out, ← HFS.out, List.take_length]
   unfold SlR.val
   go_wp2
   go_ret
   refine ⟨v2, rfl, ?_, HFW.out, HV.out⟩
   have h1 := HO.out
   rw [HTE.out] at h1
   have e : l ++ (bt (C.length / 256) :: bt (C.length % 256) :: C) ++ fs.flatten = l ++ [bt (C.length / 256), bt (C.length % 256)] ++ C ++ fs.flatten := by simp
   rw [e]
   exact h1
end Go.Proofs.Ytekegfbjbainhaa
