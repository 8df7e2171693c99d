import Derived.Test.YtekegfbjbainhaaKJoin13
import Derived.Deep.RegionHeld3
import Derived.Deep.DrawnRows
import Derived.Test.YtekegfbjbainhaaKJoin12
set_option linter.unusedVariables false
set_option linter.unusedSimpArgs false

namespace Go.Proofs.Ytekegfbjbainhaa
open Go.RowKit
structure TrAt (w : World) (base : Nat) (L : List (List Nd)) : Prop where
 ok : ∀ nds ∈ L, ∀ x ∈ nds, NdOk w x
 lo : ∀ nds ∈ L, ∀ x ∈ nds, ∀ k, ndF x k → k < base
theorem TrAt.below {w w' : World} {base : Nat} {L : List (List Nd)} (h : TrAt w base L) (hb : Below base w w') (hs : w.heap.size ≤ w'.heap.size) : TrAt w' base L :=
 ⟨fun nds hn x hx => (h.ok nds hn x hx).frame (S := fun k => base ≤ k) ⟨hb.os, hb.tape, hb.output, hs, fun k _ hk => hb.block k (by omega)⟩ (fun k hk e => by have := h.lo nds hn x hx k hk; omega), h.lo⟩
structure BLow (w : World) (base : Nat) (s : SlR) (l : List UInt8) : Prop where
 bs : BS w s l
 lo : ∀ x, s.a = some x → x.block < base
theorem BLow.below {w w' : World} {base : Nat} {s : SlR} {l : List UInt8} (h : BLow w base s l) (hb : Below base w w') (hs : w.heap.size ≤ w'.heap.size) : BLow w' base s l :=
 ⟨h.bs.frame (S := fun k => base ≤ k) ⟨hb.os, hb.tape, hb.output, hs, fun k _ hk => hb.block k (by omega)⟩ (fun x hx e => by have := h.lo x hx; omega), h.lo⟩
theorem wrap_u8 (x : Int) : IntKind.u8.wrap x = x % 256 := by
 simp [IntKind.wrap, IntKind.bits, IntKind.signed]
theorem RowV.cellP {w : World} {b t : Nat} {l : List Value} (h : RowV w b t l) (k : Nat) (v : Value) (hv : l[k]? = some v) : w.cell? ⟨b, k, none⟩ = some v := by
 rw [h.cell? k]; exact hv
attribute [local go_sem ↓] Go.wp_at_zero Go.wp_at_succ
set_option maxRecDepth 100000 in
set_option maxHeartbeats 4000000 in
theorem pages_step (L : List (List Nd)) (sf st : SlR) (fr tu : List UInt8) (x : Nd) (v : SlR) (l C : List UInt8) (its : List ItR) (fs : List (List UInt8)) (base : Nat) (w : World) (hA : TrAt w base L) (hx : ∃ nds ∈ L, x ∈ nds) (hF : BLow w base sf fr) (hS : BLow w base st tu) (hb : base ≤ w.heap.size) (ho : OwnB w base v.val l)
  (hC : codeB x.level x.its = C) (hC6 : C.length ≤ 6000) (hl : its.length = x.bl.length) (h200 : its.length ≤ 200) (hen : ∀ (W : World), TrAt W base L → ∀ i (h1 : i < x.bl.length) (h2 : i < its.length), ∃ la : SlR, W.cell? ⟨x.bl[i], 0, none⟩ = some la.val ∧ x.bl[i] < W.heap.size ∧ BS W la its[i].key)
  (hfs : fs.length = (selF its fr tu x.bl its.length).length) (hlen : l.length + 2 + C.length + fs.flatten.length ≤ 140737488355328)
  (hrec : ∀ (t : Nat) (ht : t < (selF its fr tu x.bl its.length).length) (ht2 : t < fs.length) (v2 : SlR) (l2 : List UInt8) (W : World), TrAt W base L → BLow W base sf fr → BLow W base st tu → base ≤ W.heap.size → OwnB W base v2.val l2 → l2.length + fs[t].length ≤ 140737488355328 →
   Calls Try.prog 60 #[v2.val, .pointer (some ⟨(selF its fr tu x.bl its.length)[t], 0, none⟩), sf.val, st.val] W fun e w' => ∃ v' : SlR, e = .returned v'.val ∧ OwnB w' base v'.val (l2 ++ fs[t]) ∧ Frame (fun k => v2.val.ownBlock = some k) W w' ∧ (∀ k, v'.val.ownBlock = some k → k < W.heap.size → v2.val.ownBlock = some k)) :
  Calls Try.prog 60 #[v.val, .pointer (some ⟨x.b, 0, none⟩), sf.val, st.val] w fun e w' => ∃ v' : SlR, e = .returned v'.val ∧ OwnB w' base v'.val (l ++ (bt (C.length / 256) :: bt (C.length % 256) :: C) ++ fs.flatten) ∧ Frame (fun k => v.val.ownBlock = some k) w w' ∧ (∀ k, v'.val.ownBlock = some k → k < w.heap.size → v.val.ownBlock = some k) := by
 obtain ⟨nds, hnds, hxn⟩ := hx
 have HX : Hid (∀ W, TrAt W base L → NdOk W x) := fun W h => h.ok nds hnds x hxn
 have hxw := hA.ok nds hnds x hxn
 have hby := hxw.by_
 rw [hC] at hby
 have hnI : (x.by_.n : Int) ≤ 6000 := by rw [hby.n]; omega
 have c1 : w.cell? ⟨x.b, 1, none⟩ = some (.slice x.by_.a x.by_.n x.by_.cap) := hxw.row.cellP 1 _ (by simp [ndC, SlR.val])
 have HSH : Hid (x.by_.n = C.length) := hby.n
 unfold SlR.val at ho
 have hAB : Below w.heap.size w (w.alloc (.cells #[.int .u8 (IntKind.u8.wrap ((x.by_.n : Int) / 256)), .int .u8 (IntKind.u8.wrap (x.by_.n : Int))] 5)).drew := by
  have hz : Below w.heap.size w (w.alloc (.cells #[.int .u8 (IntKind.u8.wrap ((x.by_.n : Int) / 256)), .int .u8 (IntKind.u8.wrap (x.by_.n : Int))] 5)) := (Below.refl _ _).alloc (Nat.le_refl _) _
  exact ⟨hz.os, hz.tape, hz.output, hz.size, hz.block⟩
 have HO0 : Hid ((w.alloc (.cells #[.int .u8 (IntKind.u8.wrap ((x.by_.n : Int) / 256)), .int .u8 (IntKind.u8.wrap (x.by_.n : Int))] 5)).drew.ownsRow base 5 1 (.slice v.a v.n v.cap) l.length (l.map u8c)) := owns_below ho hAB
 have HB2 : Hid ([bt (C.length / 256), bt (C.length % 256)].map u8c = [.int .u8 (IntKind.u8.wrap ((x.by_.n : Int) / 256)), .int .u8 (IntKind.u8.wrap (x.by_.n : Int))]) := by
  unfold Hid
  simp only [List.map_cons, List.map_nil]
  rw [bt_c (by omega), bt_c (by omega), hby.n, wrap_u8, wrap_u8]
  simp
  omega
 have HS0 : Hid (SlV (w.alloc (.cells #[.int .u8 (IntKind.u8.wrap ((x.by_.n : Int) / 256)), .int .u8 (IntKind.u8.wrap (x.by_.n : Int))] 5)).drew (some ⟨w.heap.size, 0, none⟩) ([bt (C.length / 256), bt (C.length % 256)].map u8c)) := by
  unfold Hid; rw [HB2.out]; exact SlV.alloc_new w _ _
 have HAB : Hid (Below w.heap.size w (w.alloc (.cells #[.int .u8 (IntKind.u8.wrap ((x.by_.n : Int) / 256)), .int .u8 (IntKind.u8.wrap (x.by_.n : Int))] 5)).drew) := hAB
 have HLEN : Hid (l.length + 2 + C.length + fs.flatten.length ≤ 140737488355328) := hlen
 have HBA : Hid (base ≤ w.heap.size) := hb
 have HOV : Hid (∀ k, (Value.slice v.a v.n v.cap).ownBlock = some k → base ≤ k ∧ k < w.heap.size) := ho.lt
 have HA : Hid (TrAt w base L) := hA
 have HF : Hid (BLow w base sf fr) := hF
 have HS : Hid (BLow w base st tu) := hS
 have HCO : Hid (codeB x.level x.its = C) := hC
 have HNX : Hid (∀ W, Frame (fun k => (Value.slice v.a v.n v.cap).ownBlock = some k) w W → TrAt W base L ∧ BLow W base sf fr ∧ BLow W base st tu ∧ base ≤ W.heap.size) := fun W hf => by
  have hbl : Below base w W := hf.below hb (fun k hk => (ho.lt k hk).1)
  exact ⟨hA.below hbl hf.size, hF.below hbl hf.size, hS.below hbl hf.size, Nat.le_trans hb hf.size⟩
 have HC1 : Hid (∀ W, TrAt W base L → W.cell? ⟨x.b, 1, none⟩ = some (.slice x.by_.a x.by_.n x.by_.cap)) := fun W h => (h.ok nds hnds x hxn).row.cellP 1 _ (by simp [ndC, SlR.val])
 have HC10 : Hid (∀ W, TrAt W base L → W.cell? ⟨x.b, 10, none⟩ = some (.slice x.be.a x.be.n x.be.cap)) := fun W h => (h.ok nds hnds x hxn).row.cellP 10 _ (by simp [ndC, SlR.val, digB_length])
 have HBY : Hid (∀ W, TrAt W base L → SlB W x.by_.a C) := fun W h => by
  have := (h.ok nds hnds x hxn).by_.sl
  rw [hC] at this
  exact this
 have HBN : Hid (x.by_.a = none → x.by_.cap = 0) := hxw.by_.nil
 have HWI : Hid (∀ W, TrAt W base L → BLow W base sf fr → BLow W base st tu → Calls Try.prog 79 #[.slice x.be.a x.be.n x.be.cap, .func (.func 80) #[] #[], .slice sf.a sf.n sf.cap, .slice st.a st.n st.cap] W fun e w' => ∃ o : SlR, e = .returned (.slice o.a o.n o.cap) ∧ w'.ownsRow W.heap.size 96 1 (.slice o.a o.n o.cap) (selF its fr tu x.bl its.length).length ((selF its fr tu x.bl its.length).map ptrV) ∧ Below W.heap.size W w') := fun W h1 h2 h3 => by
  have hxW := h1.ok nds hnds x hxn
  have := withinN_any x.be.a x.be.n x.be.cap x.bl its sf st fr tu W (by rw [hxW.ben, hl]) hl h200 hxW.be (hen W h1) h2.bs h3.bs
  rw [show x.be.n = its.length by rw [hxW.ben, hl]] at this ⊢
  exact this
 have HFS : Hid (fs.length = (selF its fr tu x.bl its.length).length) := hfs
 have HRC : Hid (∀ (t : Nat) (ht : t < (selF its fr tu x.bl its.length).length) (ht2 : t < fs.length) (v2 : SlR) (l2 : List UInt8) (W : World), _) := hrec
 have HSL : Hid ((selF its fr tu x.bl its.length).length ≤ 200) := by have := sel_len its fr tu x.bl its.length; unfold Hid; omega
 generalize selF its fr tu x.bl its.length = sel at *
 clear hAB hby hxw hA hF hS hlen hb hC ho hfs hrec hl hen h200
 unfold SlR.val
 go_enter Try.func60, Try.ntmps60
 go_wp2
 go_region_held3 (fun W => W.cell? ⟨x.b, 1, none⟩ = some (.slice x.by_.a x.by_.n x.by_.cap)) (go_keep)
  ((refine step_appendV (by rfl) (.tmp 11) (.tmp 25) 35 (by rfl) base 5 _ 1 1 Try.underlying35 Try.infoU8 rfl (by decide) (.slice v.a v.n v.cap) l.length (l.map u8c) (by rfl) HO0.out ⟨w.heap.size, 0, none⟩ 2 2 ([bt (C.length / 256), bt (C.length % 256)].map u8c) (by rfl) rfl HS0.out (u8c_one _) (by have := HLEN.out; unfold maxLen; omega) (by have := HLEN.out; omega) (Nat.le_trans HBA.out HAB.out.size) ?_; intro a1 n1 k1 w1 ho1 hf1 hat1; have hfw1 := Frame.trans (Frame.of_below_all HAB.out) hf1; obtain ⟨hA1, hF1, hS1, hb1⟩ := HNX.out w1 hfw1; have d1 := HC1.out w1 hA1))
 have HO1 : Hid (OwnB w1 base (.slice a1 n1 k1) (l ++ [bt (C.length / 256), bt (C.length % 256)])) := by
  unfold Hid OwnB
  rw [List.length_append, List.map_append]
  exact ho1
 have HV1 : Hid (∀ k, (Value.slice a1 n1 k1).ownBlock = some k → k < w.heap.size → (Value.slice v.a v.n v.cap).ownBlock = some k) := fun k hk hlt => by
  rcases hat1 with e | e
  ·rw [← e]; exact hk
  ·rw [e] at hk
   have := Option.some.inj hk
   have := HAB.out.size
   simp at *; omega
 have HFW1 : Hid (Frame (fun k => (Value.slice v.a v.n v.cap).ownBlock = some k) w w1) := hfw1
 have HB1 : Hid (base ≤ w1.heap.size) := hb1
 have hsb1 := HBY.out w1 hA1
 clear ho1 hf1 hat1 hfw1 hF1 hS1 hb1 hA1
 go_wp2_with (at_builtin; refine wp_appendB (by rfl) (.tmp 27) (.tmp 31) (by rfl) base _ (l ++ [bt (C.length / 256), bt (C.length % 256)]) (by rfl) HO1.out x.by_.a x.by_.n x.by_.cap C (by rfl) HSH.out hsb1 HBN.out (by have := HLEN.out; simp; omega) HB1.out ?_; intro a2 n2 c2 w2 hn2 ho2 hs2 hf2 hat2; clear hn2 hs2; have HO2 : Hid (OwnB w2 base (.slice a2 n2 c2) (l ++ [bt (C.length / 256), bt (C.length % 256)] ++ C)) := ho2; have HFW2 : Hid (Frame (fun k => (Value.slice v.a v.n v.cap).ownBlock = some k) w w2) := Frame.inside HFW1.out hf2 (fun k hlt hk => HV1.out k hk hlt); have HAT2 : Hid ((Value.slice a2 n2 c2).ownBlock = (Value.slice a1 n1 k1).ownBlock ∨ (Value.slice a2 n2 c2).ownBlock = some w1.heap.size) := hat2; clear ho2 hf2 hat2; obtain ⟨hA2, hF2, hS2, hb2⟩ := HNX.out w2 HFW2.out; have d10 := HC10.out w2 hA2; have HW2 : Hid (Calls _ _ _ _ _) := HWI.out w2 hA2 hF2 hS2; clear hA2 hF2 hS2 hb2)
 have HV2 : Hid (∀ k, (Value.slice a2 n2 c2).ownBlock = some k → k < w.heap.size → (Value.slice v.a v.n v.cap).ownBlock = some k) := fun k hk hlt => by
  rcases HAT2.out with e | e
  ·exact HV1.out k (by rw [← e]; exact hk) hlt
  ·rw [e] at hk
   have h1 := Option.some.inj hk
   have h2 := HFW1.out.size
   omega
 refine HW2.out.mono ?_
 rintro e w3 ⟨o, rfl, ho3, hb3⟩
 have hon : o.n = sel.length := (owns_cap (a := o.a) (n' := o.n) (cap := o.cap) ho3).1
 have HON : Hid (o.n = sel.length) := hon
 have hoI : (o.n : Int) ≤ 200 := by have := HSL.out; omega
 have HO3 : Hid (OwnB w3 base (.slice a2 n2 c2) (l ++ [bt (C.length / 256), bt (C.length % 256)] ++ C)) := owns_below HO2.out hb3
 have HFW3 : Hid (Frame (fun k => (Value.slice v.a v.n v.cap).ownBlock = some k) w w3) := HFW2.out.trans (Frame.of_below_all hb3)
 have HP3 : Hid (w3.ownsRow w2.heap.size 96 1 (.slice o.a o.n o.cap) sel.length (sel.map ptrV)) := ho3
 clear ho3 hb3 hon
 go_wp2
 go_loopw [0, 10, 41] (fun pv _ ix wr => ∃ (t : Nat) (v2 : SlR), t ≤ o.n ∧ ix = .int .i64 t ∧ pv = v2.val ∧ Hid (OwnB wr base v2.val (l ++ [bt (C.length / 256), bt (C.length % 256)] ++ C ++ (fs.take t).flatten)) ∧ Hid (Frame (fun k => (Value.slice v.a v.n v.cap).ownBlock = some k) w wr) ∧ Hid (wr.ownsRow w2.heap.size 96 1 (.slice o.a o.n o.cap) sel.length (sel.map ptrV)) ∧ Hid (∀ k, v2.val.ownBlock = some k → k < w.heap.size → (Value.slice v.a v.n v.cap).ownBlock = some k)) (fun _ _ ix _ => o.n - (intOf ix).toNat)
 case atStart => exact ⟨0, ⟨a2, n2, c2⟩, by omega, by simp, rfl, by unfold Hid; rw [List.take_zero, List.flatten_nil, List.append_nil]; exact HO3.out, HFW3, HP3, HV2⟩
 case round =>
  obtain ⟨t, v2, ht, rfl, rfl, HO, HFW, HP, HV⟩ := hrel
  by_cases hlt : t < o.n
  ·have hltI : (t : Int) < o.n := by omega
   have hts : t < sel.length := by have := HON.out; omega
   have htf : t < fs.length := by have := HFS.out; omega
   obtain ⟨b, q, hoa, hbb, hcell⟩ := SlV.ptr (SlV.ofOwn (s := o) HP.out).1 t hts
   obtain ⟨hA4, hF4, hS4, hb4⟩ := HNX.out wr HFW.out
   have HTK : Hid ((fs.take (t + 1)).flatten = (fs.take t).flatten ++ fs[t]) := by
    unfold Hid
    rw [List.take_succ_eq_append_getElem htf, List.flatten_append]; simp
   have HL2 : Hid ((l ++ [bt (C.length / 256), bt (C.length % 256)] ++ C ++ (fs.take t).flatten).length + fs[t].length ≤ 140737488355328) := by
    have h1 := HLEN.out
    have h2 := congrArg List.length HTK.out
    have h3 : ((fs.take (t + 1)).flatten).length ≤ fs.flatten.length := by
     have h := congrArg (fun m => m.flatten.length) (List.take_append_drop (t + 1) fs)
     simp only [List.flatten_append, List.length_append] at h
     omega
    rw [List.length_append] at h2
    unfold Hid
    simp only [List.length_append, List.length_cons, List.length_nil] at h1 h2 h3 ⊢
    omega
   have HR : Hid (Calls _ _ _ _ _) := HRC.out t hts htf v2 _ wr hA4 hF4 hS4 hb4 HO.out HL2.out
   generalize sel[t] = y at *
   obtain ⟨oa, on, oc⟩ := o
   simp only at hoa hltI ht hlt hoI
   subst hoa
   clear hA4 hF4 hS4 hb4
   unfold SlR.val at HR ⊢
   go_wp2_with (go_at_call 60; refine HR.out.mono ?_; rintro e w5 ⟨v5, rfl, ho5, hf5, hv5⟩)
   have HV5 : Hid (∀ k, v5.val.ownBlock = some k → k < w.heap.size → (Value.slice v.a v.n v.cap).ownBlock = some k) := fun k hk hlt' => HV.out k (hv5 k hk (by have := HFW.out.size; omega)) hlt'
   refine ⟨⟨t + 1, v5, by omega, by go_num, rfl, ?_, ?_, ?_, HV5⟩, by simp [intOf]; omega⟩
   ·unfold Hid; rw [HTK.out, ← List.append_assoc]; exact ho5
   ·exact Frame.inside HFW.out hf5 (fun k hlt' hk => HV.out k hk hlt')
   ·exact owns_frame HP.out hf5 (fun k hk e => owns_ne2 HP.out HO.out (by decide) k hk e)
  ·obtain rfl : t = o.n := by omega
   have HTE : Hid (fs.take o.n = fs) := by unfold Hid; rw [HON.out, ← HFS.out, List.take_length]
   unfold SlR.val
   go_wp2
   go_ret
   refine ⟨v2, rfl, ?_, HFW.out, HV.out⟩
   have h1 := HO.out
   rw [HTE.out] at h1
   have e : l ++ (bt (C.length / 256) :: bt (C.length % 256) :: C) ++ fs.flatten = l ++ [bt (C.length / 256), bt (C.length % 256)] ++ C ++ fs.flatten := by simp
   rw [e]
   exact h1
end Go.Proofs.Ytekegfbjbainhaa


namespace Go.Proofs.Ytekegfbjbainhaa
open Go.RowKit
attribute [local go_sem ↓] Go.wp_at_zero Go.wp_at_succ
end Go.Proofs.Ytekegfbjbainhaa


namespace Go.Proofs.Ytekegfbjbainhaa
open Go.RowKit
end Go.Proofs.Ytekegfbjbainhaa


namespace Go.Proofs.Ytekegfbjbainhaa
open Go.RowKit
def prfB (p : List ItR) (fr tu : List UInt8) : List UInt8 := rangeF (grownN p) fr tu (rootLevel p) (rootPage p)
def epochBad (n : Nat) (e : Int) : Bool := decide (e < 0) || decide ((n : Int) ≤ e)
def prvE (n : Nat) (e : Int) (key : List UInt8) : Nat := if epochBad n e = true then 4 else if keyOk key = false then 1 else 0
def rngOk (fr tu : List UInt8) : Bool := keyOk fr && keyOk tu && Op.bytesLess fr tu
def rngE (n : Nat) (e : Int) (fr tu : List UInt8) : Nat := if epochBad n e = true then 4 else if rngOk fr tu = false then 1 else 0
def pastAt (pp : List (List ItR)) (e : Int) : List ItR := pp.getD e.toNat []
def prvB (pp : List (List ItR)) (e : Int) (key : List UInt8) : List UInt8 := if prvE pp.length e key = 0 then prfB (pastAt pp e) key key else []
def rngB (pp : List (List ItR)) (e : Int) (fr tu : List UInt8) : List UInt8 := if rngE pp.length e fr tu = 0 then prfB (pastAt pp e) fr tu else []
def PastR (p : List ItR) : Prop := RiseK p ∧ (∀ x ∈ p, ItOk x) ∧ p.length ≤ 60
theorem epoch_in {n : Nat} {e : Int} (h : epochBad n e = false) : ∃ k : Nat, e = k ∧ k < n := by
 unfold epochBad at h
 simp at h
 exact ⟨e.toNat, by omega, by omega⟩
end Go.Proofs.Ytekegfbjbainhaa


namespace Go.Proofs.Ytekegfbjbainhaa
open Go.RowKit
theorem appendPages_any (lvls : List (List (List ItR))) (L : List (List Nd)) (hT : TreeRep lvls L) (hL : LvlsOk lvls) (sf st : SlR) (fr tu : List UInt8) : ∀ (n j : Nat) (nds : List Nd) (x : Nd) (v : SlR) (l : List UInt8) (base : Nat) (w : World), L[n]? = some nds → nds[j]? = some x → TrAt w base L → BLow w base sf fr → BLow w base st tu → base ≤ w.heap.size → OwnB w base v.val l → l.length + (rangeF lvls fr tu n (pageAt lvls n j)).length ≤ 140737488355328 →
  Calls Try.prog 60 #[v.val, .pointer (some ⟨x.b, 0, none⟩), sf.val, st.val] w fun e w' => ∃ v' : SlR, e = .returned v'.val ∧ OwnB w' base v'.val (l ++ rangeF lvls fr tu n (pageAt lvls n j)) ∧ Frame (fun k => v.val.ownBlock = some k) w w' ∧ (∀ k, v'.val.ownBlock = some k → k < w.heap.size → v.val.ownBlock = some k)
 | 0, j, nds, x, v, l, base, w, h1, h2, hA, hF, hS, hb, ho, hlen => by
  obtain ⟨e1, e2, _⟩ := hT.node h1 h2
  obtain ⟨h60, hok, _⟩ := pageAt_ok hL 0 j
  have hbl := hT.low' h1 h2
  have h6 : (codeB 0 (pageAt lvls 0 j)).length ≤ 6000 := by
   have := frameB_length 0 _ hok h60
   simp only [frameB, List.length_cons] at this
   omega
  have hfl : (rangeF lvls fr tu 0 (pageAt lvls 0 j)).length = 2 + (codeB 0 (pageAt lvls 0 j)).length := by
   simp only [rangeF, frameB, List.length_cons]; omega
  have h := pages_step L sf st fr tu x v l (codeB 0 (pageAt lvls 0 j)) [] [] base w hA ⟨nds, List.mem_of_getElem? h1, List.mem_of_getElem? h2⟩ hF hS hb ho (by rw [e1, e2, code_norm]) h6 (by rw [hbl]; rfl) (by simp) (fun W _ i _ h => absurd h (Nat.not_lt_zero _)) rfl (by simp; omega) (fun t _ ht => absurd ht (Nat.not_lt_zero _))
  rw [List.flatten_nil, List.append_nil] at h
  exact h
 | n + 1, j, nds, x, v, l, base, w, h1, h2, hA, hF, hS, hb, ho, hlen => by
  obtain ⟨e1, e2, _⟩ := hT.node h1 h2
  obtain ⟨h60, hok, _⟩ := pageAt_ok hL (n + 1) j
  obtain ⟨hbl, hdn⟩ := hT.down hL h1 h2
  have h6 : (codeB (n + 1) (pageAt lvls (n + 1) j)).length ≤ 6000 := by
   have := frameB_length (n + 1) _ hok h60
   simp only [frameB, List.length_cons] at this
   omega
  have hbeh : behindF lvls fr tu n (pageAt lvls (n + 1) j) (pageAt lvls (n + 1) j).length = ((selI (pageAt lvls (n + 1) j) fr tu (pageAt lvls (n + 1) j).length).map (fun i => rangeF lvls fr tu n (pageAt lvls n (belowAt (pageAt lvls (n + 1) j) i)))).flatten := by
   rw [behind_places]; rfl
  have hfl : (rangeF lvls fr tu (n + 1) (pageAt lvls (n + 1) j)).length = 2 + (codeB (n + 1) (pageAt lvls (n + 1) j)).length + (behindF lvls fr tu n (pageAt lvls (n + 1) j) (pageAt lvls (n + 1) j).length).length := by
   rw [rangeF_succ]
   simp only [frameB, List.length_append, List.length_cons]; omega
  have h := pages_step L sf st fr tu x v l (codeB (n + 1) (pageAt lvls (n + 1) j)) (pageAt lvls (n + 1) j) ((selI (pageAt lvls (n + 1) j) fr tu (pageAt lvls (n + 1) j).length).map (fun i => rangeF lvls fr tu n (pageAt lvls n (belowAt (pageAt lvls (n + 1) j) i)))) base w hA ⟨nds, List.mem_of_getElem? h1, List.mem_of_getElem? h2⟩ hF hS hb ho (by rw [e1, e2, code_norm]) h6 hbl.symm (by omega)
   (fun W hW i hi1 hi2 => by
    obtain ⟨nds', y, g1, g2, g3, g4⟩ := hdn i hi2
    have hy := hW.ok nds' (List.mem_of_getElem? g1) y (List.mem_of_getElem? g2)
    rw [List.getElem?_eq_getElem hi1] at g3
    have g3' := Option.some.inj g3
    rw [g3']
    refine ⟨y.la, hy.row.cellP 0 _ (by simp [ndC]), hy.row.lt, ?_⟩
    have := hy.la
    rw [g4] at this
    exact this)
   (by rw [sel_places]; simp) (by rw [← hbeh]; omega)
   (fun t ht ht2 v2 l2 W hA2 hF2 hS2 hb2 ho2 hl2 => by
    have hti : t < (selI (pageAt lvls (n + 1) j) fr tu (pageAt lvls (n + 1) j).length).length := by simpa using ht2
    have hit := selI_lt (List.getElem_mem hti)
    obtain ⟨nds', y, g1, g2, g3, g4⟩ := hdn _ hit
    have es : (selF (pageAt lvls (n + 1) j) fr tu x.bl (pageAt lvls (n + 1) j).length)[t] = y.b := by
     have e : (selF (pageAt lvls (n + 1) j) fr tu x.bl (pageAt lvls (n + 1) j).length)[t]? = some y.b := by
      rw [sel_places, List.getElem?_map, List.getElem?_eq_getElem hti]
      simp only [Option.map_some, List.getD_eq_getElem?_getD]
      rw [g3]; rfl
     exact (List.getElem?_eq_some_iff.1 e).2
    rw [es]
    simp only [List.getElem_map] at hl2 ⊢
    exact appendPages_any lvls L hT hL sf st fr tu n _ nds' y v2 l2 base W g1 g2 hA2 hF2 hS2 hb2 ho2 hl2)
  rw [← hbeh] at h
  rw [rangeF_succ, ← List.append_assoc]
  exact h
theorem TreeRep.root {p : List ItR} {L : List (List Nd)} (h : TreeRep (grownN p) L) {ℓ : Nat} (hl : L.length = ℓ + 1) (fr tu : List UInt8) : prfB p fr tu = rangeF (grownN p) fr tu ℓ (pageAt (grownN p) ℓ 0) := by
 have e : (grownN p).length = ℓ + 1 := by
  have := congrArg List.length h.its
  simp only [List.length_map] at this
  omega
 have e2 : rootPage p = pageAt (grownN p) ℓ 0 := by
  unfold rootPage pageAt
  rw [e, show ℓ + 1 - 1 = ℓ by omega]
  cases ((grownN p)[ℓ]?.getD []) <;> rfl
 unfold prfB
 rw [e2, show rootLevel p = ℓ by unfold rootLevel; omega]
set_option maxRecDepth 100000 in
set_option maxHeartbeats 400000 in
theorem ofRange_any (p : List ItR) (hP : PastR p) (L : List (List Nd)) (hT : TreeRep (grownN p) L) (ℓ : Nat) (nd : Nd) (hl : L.length = ℓ + 1) (hr : L[ℓ]? = some [nd]) (sf st : SlR) (fr tu : List UInt8) (w : World) (hA : ∀ nds ∈ L, ∀ x ∈ nds, NdOk w x) (hF : BS w sf fr) (hS : BS w st tu) :
  Calls Try.prog 42 #[.pointer (some ⟨nd.b, 0, none⟩), sf.val, st.val] w fun e w' => ∃ v' : SlR, e = .returned v'.val ∧ OwnB w' w.heap.size v'.val (prfB p fr tu) ∧ Below w.heap.size w w' := by
 have hL := grown_lv p hP.1 hP.2.1 hP.2.2
 have hℓ : ℓ ≤ 6 := by
  have := congrArg List.length hT.its
  simp only [List.length_map] at this
  have := hL.len
  omega
 have HC : Hid (Calls _ _ _ _ _) := appendPages_any (grownN p) L hT hL sf st fr tu ℓ 0 [nd] nd ⟨none, 0, 0⟩ [] w.heap.size w hr rfl ⟨hA, fun nds hn x hx => (hA nds hn x hx).lt⟩ ⟨hF, hF.lt⟩ ⟨hS, hS.lt⟩ (Nat.le_refl _) (World.ownsRow_nil _ _ _ _) (by
  have := range_small hL fr tu ℓ hℓ _ (pageAt_ok hL ℓ 0).1 (pageAt_ok hL ℓ 0).2.1
  simp; omega)
 rw [List.nil_append, ← hT.root hl] at HC
 unfold SlR.val at HC ⊢
 clear hA hF hS hL
 go_enter Try.func42, Try.ntmps42
 go_wp2_with (go_at_call 60; refine HC.out.mono ?_; rintro e w1 ⟨v1, rfl, ho1, hf1, hv1⟩)
 go_ret
 exact ⟨v1, rfl, ho1, hf1.below (Nat.le_refl _) (fun k hk => by cases hk)⟩
set_option maxRecDepth 100000 in
set_option maxHeartbeats 400000 in
theorem ofKey_any (p : List ItR) (hP : PastR p) (L : List (List Nd)) (hT : TreeRep (grownN p) L) (ℓ : Nat) (nd : Nd) (hl : L.length = ℓ + 1) (hr : L[ℓ]? = some [nd]) (sk : SlR) (key : List UInt8) (w : World) (hA : ∀ nds ∈ L, ∀ x ∈ nds, NdOk w x) (hK : BS w sk key) :
  Calls Try.prog 37 #[.pointer (some ⟨nd.b, 0, none⟩), sk.val] w fun e w' => ∃ v' : SlR, e = .returned v'.val ∧ OwnB w' w.heap.size v'.val (prfB p key key) ∧ Below w.heap.size w w' := by
 have HC : Hid (Calls _ _ _ _ _) := ofRange_any p hP L hT ℓ nd hl hr sk sk key key w hA hK hK
 unfold SlR.val at HC ⊢
 clear hA hK
 go_enter Try.func37, Try.ntmps37
 go_wp2_with (go_at_call 42; refine HC.out.mono ?_; rintro e w1 ⟨v1, rfl, ho1, hb1⟩)
 go_ret
 exact ⟨v1, rfl, ho1, hb1⟩
end Go.Proofs.Ytekegfbjbainhaa


namespace Go.Proofs.Ytekegfbjbainhaa
open Go.RowKit
def it0 : ItR := ⟨[], [], 0⟩
def selE (p : List ItR) (fr tu : List UInt8) (k : Nat) : List ItR := (List.range k).flatMap (fun i => if withB p i fr tu = true then [p.getD i it0] else [])
theorem selE_yes (p : List ItR) (fr tu : List UInt8) (k : Nat) (h : withB p k fr tu = true) : selE p fr tu (k + 1) = selE p fr tu k ++ [p.getD k it0] := by
 unfold selE
 rw [List.range_succ, List.flatMap_append]
 simp [h]
theorem selE_no (p : List ItR) (fr tu : List UInt8) (k : Nat) (h : withB p k fr tu = false) : selE p fr tu (k + 1) = selE p fr tu k := by
 unfold selE
 rw [List.range_succ, List.flatMap_append]
 simp [h]
def stepU (rec : List ItR → List UInt8 → Option (List ItR × List UInt8)) (lv : Nat) (s : List ItR × List UInt8) (x : ItR) : Option (List ItR × List UInt8) :=
 match pgO (some s.2) x.more with
 | none => none
 | some ((l, its), r) => if l = lv then (rec its r).map (fun e => (s.1 ++ e.1, e.2)) else none
def readU (fr tu : List UInt8) : Nat → List ItR → List UInt8 → Option (List ItR × List UInt8)
 | 0, its, r => some (its, r)
 | lv + 1, its, r => (selE its fr tu its.length).foldlM (stepU (readU fr tu lv) lv) ([], r)
def chkF (key : List UInt8) : Nat → List ItR → List UInt8 → Option ((Nat × List ItR) × List UInt8)
 | 0, its, r => some ((0, its), r)
 | lv + 1, its, r => if placeN its key < its.length then (match pgO (some r) (its.getD (placeN its key) it0).more with
  | none => none
  | some ((l, its'), r') => if l = lv then chkF key lv its' r' else none) else some ((lv + 1, its), r)
def inR (fr tu : List UInt8) (x : ItR) : Bool := !(Op.bytesLess x.key fr) && Op.bytesLess x.key tu
def rangeC (root fr tu proof : List UInt8) : Option (List ItR) :=
 match pgO (some proof) root with
 | none => none
 | some ((lv, its), r) => match readU fr tu lv its r with
  | none => none
  | some (es, r') => if r' = [] then some (es.filter (inR fr tu)) else none
structure PageOk (lv : Nat) (its : List ItR) : Prop where
 le6 : lv ≤ 6
 len : its.length ≤ 60
 rise : RiseK its
 key : ∀ x ∈ its, 1 ≤ x.key.length ∧ x.key.length ≤ 12
 low : lv = 0 → ∀ x ∈ its, x.more.length ≤ 12
 high : lv ≠ 0 → ∀ x ∈ its, x.more.length = 8
theorem takeB_some {n : Nat} {o : Option (List UInt8)} {r : List UInt8} (h : takeR n o = some r) : (takeB n o).length = n := by
 cases o with
 | none => cases h
 | some l =>
  have h' : (if n ≤ l.length then some (l.drop n) else none) = some r := h
  show (if n ≤ l.length then l.take n else []).length = n
  split at h'
  ·rename_i hn; rw [if_pos hn, List.length_take]; omega
  ·cases h'
theorem rise_push {its : List ItR} {x : ItR} (h : RiseK its) (hb : behindK its x.key = true) : RiseK (its ++ [x]) := by
 unfold RiseK at *
 rw [List.pairwise_append]
 refine ⟨h, List.pairwise_singleton _ _, fun a ha b hb' => ?_⟩
 simp only [List.mem_singleton] at hb'
 subst hb'
 obtain ⟨l, y, rfl⟩ : ∃ l y, its = l ++ [y] := by
  rcases List.eq_nil_or_concat its with rfl | ⟨l, y, rfl⟩
  ·cases ha
  ·exact ⟨l, y, by simp⟩
 have hy : Op.bytesLess y.key b.key = true := by simpa [behindK] using hb
 rcases List.mem_append.1 ha with hl | hl
 ·have := (List.pairwise_append.1 h).2.2 a hl y (by simp)
  exact less_trans this hy
 ·simp only [List.mem_singleton] at hl; subst hl; exact hy
theorem itemsO_ok (lv : Nat) : ∀ (n : Nat) (its : List ItR) (o : Option (List UInt8)) (res : List ItR), itemsO lv n its o = some res → RiseK its → (∀ x ∈ its, (1 ≤ x.key.length ∧ x.key.length ≤ 12) ∧ (lv = 0 → x.more.length ≤ 12) ∧ (lv ≠ 0 → x.more.length = 8)) →
  RiseK res ∧ res.length = its.length + n ∧ ∀ x ∈ res, (1 ≤ x.key.length ∧ x.key.length ≤ 12) ∧ (lv = 0 → x.more.length ≤ 12) ∧ (lv ≠ 0 → x.more.length = 8)
 | 0, its, o, res, h, h1, h2 => by
  unfold itemsO at h
  split at h
  ·cases h; exact ⟨h1, by simp, h2⟩
  ·cases h
 | n + 1, its, none, res, h, h1, h2 => by rw [itemsO_none] at h; cases h
 | n + 1, its, some l, res, h, h1, h2 => by
  unfold itemsO at h
  split at h
  case isFalse => cases h
  case isTrue hf =>
   have hr : ∃ r, entR lv (some l) = some r := by
    cases e : entR lv (some l) with
    | none => rw [e, itemsO_none] at h; cases h
    | some r => exact ⟨r, rfl⟩
   obtain ⟨r, hr⟩ := hr
   have ho : ∃ r2, entO (some l) = some r2 := by
    cases e : entO (some l) with
    | none => unfold entR at hr; rw [e] at hr; split at hr <;> cases hr
    | some r => exact ⟨r, rfl⟩
   obtain ⟨r2, ho⟩ := ho
   have hk : (entK (some l)).length = oneV (some l) := by unfold entK; unfold entO at ho; exact takeB_some ho
   unfold entFine at hf
   simp only [Bool.and_eq_true, decide_eq_true_eq, Bool.not_eq_true', Bool.and_eq_false_iff] at hf
   obtain ⟨⟨⟨hf0, hf1⟩, hf2⟩, hf3⟩ := hf
   have := itemsO_ok lv n _ _ res h (rise_push h1 hf3) (fun x hx => by
    rcases List.mem_append.1 hx with hx | hx
    ·exact h2 x hx
    ·simp only [List.mem_singleton] at hx; subst hx
     refine ⟨by show 1 ≤ (entK (some l)).length ∧ (entK (some l)).length ≤ 12; omega, fun e => ?_, fun e => ?_⟩
     ·subst e
      show (entM 0 (some l)).length ≤ 12
      have e1 : entM 0 (some l) = takeB (oneV (entO (some l))) (takeR 1 (entO (some l))) := by unfold entM; rw [if_pos rfl]
      rw [e1]
      have := takeB_length (oneV (entO (some l))) (takeR 1 (entO (some l)))
      rcases hf0 with hf0 | hf0
      ·simp at hf0
      ·have : ¬ 12 < oneV (entO (some l)) := by simpa using hf0
       omega
     ·show (entM lv (some l)).length = 8
      have e1 : entM lv (some l) = takeB 8 (entO (some l)) := by unfold entM; rw [if_neg e]
      rw [e1]
      unfold entR at hr; rw [if_neg e] at hr
      exact takeB_some hr)
   refine ⟨this.1, by rw [this.2.1]; simp; omega, this.2.2⟩
theorem pageF_ok {b : List UInt8} {lv : Nat} {its : List ItR} (h : pageF b = some (lv, its)) : PageOk lv its := by
 unfold pageF at h
 split at h
 case isFalse => cases h
 case isTrue hc =>
  cases e : itemsO (oneV (some b)) (oneV (takeR 1 (some b))) [] (takeR 1 (takeR 1 (some b))) with
  | none => rw [e] at h; cases h
  | some l =>
   rw [e] at h
   simp only [Option.map_some, Option.some.injEq, Prod.mk.injEq] at h
   obtain ⟨rfl, rfl⟩ := h
   obtain ⟨h1, h2, h3⟩ := itemsO_ok _ _ [] _ l e List.Pairwise.nil (fun x hx => by cases hx)
   exact ⟨hc.1, by rw [h2]; simp; omega, h1, fun x hx => (h3 x hx).1, fun e x hx => (h3 x hx).2.1 e, fun e x hx => (h3 x hx).2.2 e⟩
theorem pgO_ok {o : Option (List UInt8)} {d : List UInt8} {lv : Nat} {its : List ItR} {r : List UInt8} (h : pgO o d = some ((lv, its), r)) : PageOk lv its := by
 unfold pgO at h
 split at h
 ·cases h
 ·split at h
  ·cases h
  ·rename_i p hp
   split at h
   ·simp only [Option.some.injEq, Prod.mk.injEq] at h
    rw [h.1] at hp
    exact pageF_ok hp
   ·cases h
theorem selE_self {p : List ItR} (hr : RiseK p) (key : List UInt8) : selE p key key p.length = if placeN p key < p.length then [p.getD (placeN p key) it0] else [] := by
 unfold selE
 rw [flat_single _ (placeN p key) p.length]
 ·split
  ·rename_i hlt
   rw [with_self hr key _ hlt (rising_place p key hr)]
   simp
  ·rfl
 ·intro i hi hm
  rw [with_self hr key i hi (rising_place p key hr)]
  simp [hm]
theorem chk_read (key : List UInt8) : ∀ (lv : Nat) (its : List ItR) (r : List UInt8), RiseK its → readU key key lv its r = (chkF key lv its r).map (fun q => (if q.1.1 = 0 then q.1.2 else [], q.2))
 | 0, its, r, _ => rfl
 | lv + 1, its, r, h => by
  unfold readU chkF
  rw [selE_self h]
  split
  ·simp only [List.foldlM_cons, List.foldlM_nil]
   unfold stepU
   cases e : pgO (some r) (its.getD (placeN its key) it0).more with
   | none => rfl
   | some q =>
    obtain ⟨⟨l, its'⟩, r'⟩ := q
    simp only
    by_cases hl : l = lv
    ·subst hl
     simp only [if_true]
     rw [chk_read key l its' r' (pgO_ok e).rise]
     cases chkF key l its' r' <;> simp
    ·simp only [if_neg hl]; rfl
  ·simp
end Go.Proofs.Ytekegfbjbainhaa
