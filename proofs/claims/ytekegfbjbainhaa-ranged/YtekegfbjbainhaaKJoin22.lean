import Derived.Test.YtekegfbjbainhaaKPrC9
import Derived.Defers
import Derived.Recover
import Derived.Test.YtekegfbjbainhaaKJoin17
import Derived.Test.YtekegfbjbainhaaKJoin15
set_option linter.unusedVariables false
set_option linter.unusedSimpArgs false

namespace Go.Proofs.Ytekegfbjbainhaa
open Go.RowKit
attribute [local go_sem ↓] Go.wp_at_zero Go.wp_at_succ
set_option maxRecDepth 100000 in
theorem catch_idle (p q : Addr) (w : World) :
  CallsD Try.prog 61 #[.pointer (some p), .pointer (some q)] .returning w fun e u' w' => e = .returned (.tuple #[]) ∧ u' = .returning ∧ w' = w := by
 refine callsD_of_wpS Try.func61 rfl fun c₀ cs hu => ?_
 apply wpS_seq
 apply wpS_region
 simp [wpOpsS, go_sem, recoverD, hu, Try.ntmps61, Exit.thenS]
 refine wpS_of_wp ?_
 rw [show (#[Value.pointer (some p), Value.pointer (some q)] ++ (Array.replicate 9 undef).setIfInBounds 3 Value.nilIface) = #[.pointer (some p), .pointer (some q), undef, undef, undef, .nilIface, undef, undef, undef, undef, undef] from rfl]
 go_wp2
 cases c₀
 simp_all [bodyPostS, results, Try.results61]
set_option maxRecDepth 100000 in
set_option maxHeartbeats 1000000 in
theorem catch_pk (pb qb : Nat) (s : Value) (t : Bool) (w : World) (hc : w.cell? ⟨pb, 0, none⟩ = some s) (hz : w.frozen? ⟨pb, 0, none⟩ = false) (hd : w.cell? ⟨qb, 0, none⟩ = some (.bool t)) (hy : w.frozen? ⟨qb, 0, none⟩ = false) (hpl : pb < w.heap.size) (hql : qb < w.heap.size) (hpq : pb ≠ qb) :
  CallsD Try.prog 61 #[.pointer (some ⟨pb, 0, none⟩), .pointer (some ⟨qb, 0, none⟩)] (.panicking [{ v := .iface 123 (.agg #[]), recovered := false }]) w fun e u' w' => e = .returned (.tuple #[]) ∧ u' = .panicking [{ v := .iface 123 (.agg #[]), recovered := true }] ∧ Frame (fun k => k = pb ∨ k = qb) w w' ∧ w'.cell? ⟨pb, 0, none⟩ = some (.slice none 0 0) ∧ w'.cell? ⟨qb, 0, none⟩ = some (.bool false) := by
 refine callsD_of_wpS Try.func61 rfl fun c₀ cs hu => ?_
 apply wpS_seq
 apply wpS_region
 simp [wpOpsS, go_sem, recoverD, hu, Try.ntmps61, Exit.thenS]
 refine wpS_of_wp ?_
 rw [show (#[Value.pointer (some ⟨pb, 0, none⟩), Value.pointer (some ⟨qb, 0, none⟩)] ++ (Array.replicate 9 undef).setIfInBounds 3 (Value.iface 123 (.agg #[]))) = #[.pointer (some ⟨pb, 0, none⟩), .pointer (some ⟨qb, 0, none⟩), undef, undef, undef, .iface 123 (.agg #[]), undef, undef, undef, undef, undef] from rfl]
 have hta : ∀ W, (Instr.typeAssert (.iface 123 (.agg #[])) 20 123 true).run Try.prog W = .ok (.tuple #[.agg #[], .bool true]) W := fun W => by kernel_rfl
 go_wp2
 have hF : Frame (fun k => k = pb ∨ k = qb) w (((w.setCell ⟨pb, 0, none⟩ (.slice none 0 0)).setCell ⟨qb, 0, none⟩ (.bool false)).alloc (.cells #[] 123)) := (((Frame.refl (fun k => k = pb ∨ k = qb) w).setCell (p := ⟨pb, 0, none⟩) (Or.inl rfl) _).setCell (p := ⟨qb, 0, none⟩) (Or.inr rfl) _).alloc _
 have h1 : (((w.setCell ⟨pb, 0, none⟩ (.slice none 0 0)).setCell ⟨qb, 0, none⟩ (.bool false)).alloc (.cells #[] 123)).cell? ⟨pb, 0, none⟩ = some (.slice none 0 0) := by go_simp
 have h2 : (((w.setCell ⟨pb, 0, none⟩ (.slice none 0 0)).setCell ⟨qb, 0, none⟩ (.bool false)).alloc (.cells #[] 123)).cell? ⟨qb, 0, none⟩ = some (.bool false) := by go_simp
 clear hc hz hd hy hta hu
 cases c₀
 simp [bodyPostS, results, Try.results61]
 exact ⟨hF, h1, h2⟩
end Go.Proofs.Ytekegfbjbainhaa


namespace Go.Proofs.Ytekegfbjbainhaa
open Go.RowKit
attribute [local go_sem ↓] Go.wp_at_zero Go.wp_at_succ
theorem wp_toBytes {ops : Array Oper} {rest : List Oper} {o : Oper} {a : Act} {w : World} {Q : Exit → Act → World → Prop} (hgd : o.guard = none) (x : Operand) (ho : o.op = .convert 9 35 x) (l : List UInt8) (hx : a.eval x = .string ⟨l.toArray⟩)
  (h : ∀ (s : SlR) (w' : World), BS w' s l → Below w.heap.size w w' → (∀ x, s.a = some x → w.heap.size ≤ x.block) → wpList Try.prog ops Q rest (a.put o.dst (.slice s.a s.n s.cap)) w') : wpList Try.prog ops Q (o :: rest) a w := by
 refine wpList_plain hgd fun K hK => ?_
 have hr := run_bytes_of_string (P := Try.prog) w 9 35 5 ⟨l.toArray⟩ Try.underlying9 Try.underlying35 Try.underlying5
 unfold Oper.wp execOp
 simp only [ho, Option.map, hx]
 go_simp
 refine hK _ _ (h ⟨some ⟨w.heap.size, 0, none⟩, l.length, grownCap w l.length 0 5⟩ _ ?_ ?_ ?_)
 ·have hb := (BS.ofString w ⟨l.toArray⟩ (grownCap w l.length 0 5) 5 ((bytesRow ⟨l.toArray⟩ (grownCap w l.length 0 5)).size, (bytesRow ⟨l.toArray⟩ (grownCap w l.length 0 5)).size + 1)).drew
  simpa [ba_size] using hb
 ·exact ((Below.refl _ _).alloc (Nat.le_refl _) _).drew
 ·intro x hx; cases hx; exact Nat.le_refl _
end Go.Proofs.Ytekegfbjbainhaa


namespace Go.Proofs.Ytekegfbjbainhaa
open Go.RowKit
attribute [local go_sem ↓] Go.wp_at_zero Go.wp_at_succ
end Go.Proofs.Ytekegfbjbainhaa


namespace Go.Proofs.Ytekegfbjbainhaa
open Go.RowKit
attribute [local go_sem ↓] Go.wp_at_zero Go.wp_at_succ
end Go.Proofs.Ytekegfbjbainhaa


namespace Go.Proofs.Ytekegfbjbainhaa
open Go.RowKit
attribute [local go_sem ↓] Go.wp_at_zero Go.wp_at_succ
def rngC (root fr tu proof : List UInt8) : Nat × List ItR :=
 if rngOk fr tu = true then (match rangeC root fr tu proof with
  | none => (5, [])
  | some l => (0, l)) else (1, [])
def finC (fr tu : List UInt8) : Option (List ItR × List UInt8) → Option (List ItR)
 | none => none
 | some (es, r') => if r' = [] then some (es.filter (inR fr tu)) else none
def rngRd (root fr tu proof : List UInt8) : Option (List ItR × List UInt8) :=
 match pgO (some proof) root with
 | none => none
 | some ((lv, its), r) => readU fr tu lv its r
theorem rangeC_fin (root fr tu proof : List UInt8) : rangeC root fr tu proof = finC fr tu (rngRd root fr tu proof) := by
 unfold rangeC rngRd
 cases pgO (some proof) root with
 | none => rfl
 | some q => rfl
end Go.Proofs.Ytekegfbjbainhaa


namespace Go.Proofs.Ytekegfbjbainhaa
open Go.RowKit
attribute [local go_sem ↓] Go.wp_at_zero Go.wp_at_succ
def rrd (root fr tu proof : List UInt8) : Option (List ItR) := match rngRd root fr tu proof with
 | none => none
 | some (es, r) => if r = [] then some es else none
def rrPost (w : World) (K : Nat → Prop) (R : Option (List ItR)) (e : Ending) (w' : World) : Prop :=
 Below w.heap.size w w' ∧ match R with
  | none => e = .returned (.tuple #[.slice none 0 0, .bool false])
  | some es => ∃ (v : SlR) (ys : List EnP), e = .returned (.tuple #[v.val, .bool true]) ∧ EnsL 0 w' K w.heap.size v ys es
set_option maxRecDepth 100000 in
set_option maxHeartbeats 8000000 in
theorem readRange_any (sf st sp : SlR) (fr tu proof root : List UInt8) (w : World) (hr : root.length = 8) (hF : BS w sf fr) (hT : BS w st tu) (hp : BS w sp proof) (hpc : sp.n ≤ sp.cap) :
  Calls Try.prog 43 #[dV root, .slice sf.a sf.n sf.cap, .slice st.a st.n st.cap, .slice sp.a sp.n sp.cap] w (rrPost w (blkOf sp) (rrd root fr tu proof)) := by
 obtain ⟨d0, d1, d2, d3, d4, d5, d6, d7, rfl⟩ := list8 root hr
 rw [show dV [d0, d1, d2, d3, d4, d5, d6, d7] = .agg #[.int .u8 (d0.toNat : Int), .int .u8 (d1.toNat : Int), .int .u8 (d2.toNat : Int), .int .u8 (d3.toNat : Int), .int .u8 (d4.toNat : Int), .int .u8 (d5.toNat : Int), .int .u8 (d6.toNat : Int), .int .u8 (d7.toNat : Int)] from rfl]
 have hB0 : Below w.heap.size w ((((w.alloc (.cells #[.int .u8 (d0.toNat : Int), .int .u8 (d1.toNat : Int), .int .u8 (d2.toNat : Int), .int .u8 (d3.toNat : Int), .int .u8 (d4.toNat : Int), .int .u8 (d5.toNat : Int), .int .u8 (d6.toNat : Int), .int .u8 (d7.toNat : Int)] 45)).alloc (.cells #[.slice none 0 0] 83)).alloc (.cells #[.bool false] 4)).alloc (.cells #[.slice sp.a sp.n sp.cap] 125)) := ((((Below.refl _ _).alloc (Nat.le_refl _) _).alloc (by simp) _).alloc (by simp; omega) _).alloc (by simp; omega) _
 have HDR : Hid (RowV ((((w.alloc (.cells #[.int .u8 (d0.toNat : Int), .int .u8 (d1.toNat : Int), .int .u8 (d2.toNat : Int), .int .u8 (d3.toNat : Int), .int .u8 (d4.toNat : Int), .int .u8 (d5.toNat : Int), .int .u8 (d6.toNat : Int), .int .u8 (d7.toNat : Int)] 45)).alloc (.cells #[.slice none 0 0] 83)).alloc (.cells #[.bool false] 4)).alloc (.cells #[.slice sp.a sp.n sp.cap] 125)) w.heap.size 45 ([d0, d1, d2, d3, d4, d5, d6, d7].map u8c)) := ((((RowV.new w 45 ([d0, d1, d2, d3, d4, d5, d6, d7].map u8c)).alloc _).alloc _).alloc _)
 have hKK : ∀ k, blkOf sp k → k < w.heap.size := fun k ⟨x, hx, e⟩ => by have := hp.lt x hx; omega
 have HRD : Hid (RdP ((((w.alloc (.cells #[.int .u8 (d0.toNat : Int), .int .u8 (d1.toNat : Int), .int .u8 (d2.toNat : Int), .int .u8 (d3.toNat : Int), .int .u8 (d4.toNat : Int), .int .u8 (d5.toNat : Int), .int .u8 (d6.toNat : Int), .int .u8 (d7.toNat : Int)] 45)).alloc (.cells #[.slice none 0 0] 83)).alloc (.cells #[.bool false] 4)).alloc (.cells #[.slice sp.a sp.n sp.cap] 125)) (blkOf sp) (w.heap.size + 1 + 1 + 1) proof) :=
  ⟨sp, RowV.new_at _ _ _ _ (by simp), ⟨hp.below hB0, hpc, fun x hx => ⟨x, hx, rfl⟩⟩, fun e => by have := hKK _ e; omega⟩
 have HE1 : Hid (RowV ((((w.alloc (.cells #[.int .u8 (d0.toNat : Int), .int .u8 (d1.toNat : Int), .int .u8 (d2.toNat : Int), .int .u8 (d3.toNat : Int), .int .u8 (d4.toNat : Int), .int .u8 (d5.toNat : Int), .int .u8 (d6.toNat : Int), .int .u8 (d7.toNat : Int)] 45)).alloc (.cells #[.slice none 0 0] 83)).alloc (.cells #[.bool false] 4)).alloc (.cells #[.slice sp.a sp.n sp.cap] 125)) (w.heap.size + 1) 83 [.slice none 0 0]) := ((RowV.new_at _ _ _ _ (by simp)).alloc _).alloc _
 have HE2 : Hid (RowV ((((w.alloc (.cells #[.int .u8 (d0.toNat : Int), .int .u8 (d1.toNat : Int), .int .u8 (d2.toNat : Int), .int .u8 (d3.toNat : Int), .int .u8 (d4.toNat : Int), .int .u8 (d5.toNat : Int), .int .u8 (d6.toNat : Int), .int .u8 (d7.toNat : Int)] 45)).alloc (.cells #[.slice none 0 0] 83)).alloc (.cells #[.bool false] 4)).alloc (.cells #[.slice sp.a sp.n sp.cap] 125)) (w.heap.size + 1 + 1) 4 [.bool false]) := (RowV.new_at _ _ _ _ (by simp)).alloc _
 have HB0 : Hid (Below w.heap.size w ((((w.alloc (.cells #[.int .u8 (d0.toNat : Int), .int .u8 (d1.toNat : Int), .int .u8 (d2.toNat : Int), .int .u8 (d3.toNat : Int), .int .u8 (d4.toNat : Int), .int .u8 (d5.toNat : Int), .int .u8 (d6.toNat : Int), .int .u8 (d7.toNat : Int)] 45)).alloc (.cells #[.slice none 0 0] 83)).alloc (.cells #[.bool false] 4)).alloc (.cells #[.slice sp.a sp.n sp.cap] 125))) := hB0
 have hmf : ∀ (fn : Fn) (first cap : Array Value) (w : World), (Instr.makeFunc fn first cap).run Try.prog w = .ok (.func fn first cap) w := fun _ _ _ _ => rfl
 clear hr hp hpc
 go_enter_defers Try.func43, Try.ntmps43
 go_upto_region 3 with fail
 generalize (((w.alloc (.cells #[.int .u8 (d0.toNat : Int), .int .u8 (d1.toNat : Int), .int .u8 (d2.toNat : Int), .int .u8 (d3.toNat : Int), .int .u8 (d4.toNat : Int), .int .u8 (d5.toNat : Int), .int .u8 (d6.toNat : Int), .int .u8 (d7.toNat : Int)] 45)).alloc (.cells #[.slice none 0 0] 83)).alloc (.cells #[.bool false] 4)).alloc (.cells #[.slice sp.a sp.n sp.cap] 125) = W at *
 generalize hx3 : w.heap.size + 1 + 1 + 1 = rb at *
 generalize hx2 : w.heap.size + 1 + 1 = qb at *
 have HX3 : Hid (rb = w.heap.size + 3) := by unfold Hid; omega
 have HX2 : Hid (qb = w.heap.size + 2) := by unfold Hid; omega
 clear hx3 hx2
 have k0 : W.cell? ⟨w.heap.size, 0, none⟩ = some (.int .u8 (d0.toNat : Int)) := HDR.out.cell 0 (by simp)
 have k1 : W.cell? ⟨w.heap.size, 1, none⟩ = some (.int .u8 (d1.toNat : Int)) := HDR.out.cell 1 (by simp)
 have k2 : W.cell? ⟨w.heap.size, 2, none⟩ = some (.int .u8 (d2.toNat : Int)) := HDR.out.cell 2 (by simp)
 have k3 : W.cell? ⟨w.heap.size, 3, none⟩ = some (.int .u8 (d3.toNat : Int)) := HDR.out.cell 3 (by simp)
 have k4 : W.cell? ⟨w.heap.size, 4, none⟩ = some (.int .u8 (d4.toNat : Int)) := HDR.out.cell 4 (by simp)
 have k5 : W.cell? ⟨w.heap.size, 5, none⟩ = some (.int .u8 (d5.toNat : Int)) := HDR.out.cell 5 (by simp)
 have k6 : W.cell? ⟨w.heap.size, 6, none⟩ = some (.int .u8 (d6.toNat : Int)) := HDR.out.cell 6 (by simp)
 have k7 : W.cell? ⟨w.heap.size, 7, none⟩ = some (.int .u8 (d7.toNat : Int)) := HDR.out.cell 7 (by simp)
 have HF : Hid (BS w sf fr) := hF
 have HT : Hid (BS w st tu) := hT
 have HKK : Hid (∀ k, blkOf sp k → k < w.heap.size) := hKK
 have HPG : Hid (Calls _ _ _ _ _) := pageP_any (blkOf sp) rb proof [d0, d1, d2, d3, d4, d5, d6, d7] W HRD.out (fun k hk => Nat.lt_of_lt_of_le (HKK.out k hk) HB0.out.size) rfl
 rw [show dV [d0, d1, d2, d3, d4, d5, d6, d7] = .agg #[.int .u8 (d0.toNat : Int), .int .u8 (d1.toNat : Int), .int .u8 (d2.toNat : Int), .int .u8 (d3.toNat : Int), .int .u8 (d4.toNat : Int), .int .u8 (d5.toNat : Int), .int .u8 (d6.toNat : Int), .int .u8 (d7.toNat : Int)] from rfl] at HPG
 have HQ : Hid (∀ R, rngRd [d0, d1, d2, d3, d4, d5, d6, d7] fr tu proof = R → rrd [d0, d1, d2, d3, d4, d5, d6, d7] fr tu proof = match R with
   | none => none
   | some (es, r) => if r = [] then some es else none) := fun R e => by unfold rrd; rw [e]
 have HRN : Hid (rngRd [d0, d1, d2, d3, d4, d5, d6, d7] fr tu proof = match pgO (some proof) [d0, d1, d2, d3, d4, d5, d6, d7] with
   | none => none
   | some ((lv, its), r) => readU fr tu lv its r) := rfl
 -- what the closure leaves, if the reader has given up
 have HEND : Hid (∀ (W' : World) (s : Value), RowV W' (w.heap.size + 1) 83 [s] → RowV W' qb 4 [.bool false] → Below w.heap.size w W' → rrd [d0, d1, d2, d3, d4, d5, d6, d7] fr tu proof = none → CallsD Try.prog 61 #[.pointer (some ⟨w.heap.size + 1, 0, none⟩), .pointer (some ⟨qb, 0, none⟩)] (.panicking [{ v := .iface 123 (.agg #[]), recovered := false }]) W' fun e u' w' => e = .returned (.tuple #[]) ∧ u' = .panicking [{ v := .iface 123 (.agg #[]), recovered := true }] ∧ w'.cell? ⟨w.heap.size + 1, 0, none⟩ = some (.slice none 0 0) ∧ w'.cell? ⟨qb, 0, none⟩ = some (.bool false) ∧ rrPost w (blkOf sp) (rrd [d0, d1, d2, d3, d4, d5, d6, d7] fr tu proof) (.returned (.tuple #[.slice none 0 0, .bool false])) w') := fun W' s h1 h2 hb hn => by
  refine (catch_pk (w.heap.size + 1) qb s false W' (h1.cell 0 (by simp)) (h1.frozen 0) (h2.cell 0 (by simp)) (h2.frozen 0) h1.lt h2.lt (by have := HX2.out; omega)).mono ?_
  rintro e u' w' ⟨e1, e2, hf2, c1, c2⟩
  refine ⟨e1, e2, c1, c2, hb.trans (hf2.below hb.size (fun k hk => by have := HX2.out; omega)), ?_⟩
  rw [hn]
 have HFR : Hid (∀ W' : World, Frame (fun k => k = rb) W W' → RowV W' (w.heap.size + 1) 83 [.slice none 0 0] ∧ RowV W' qb 4 [.bool false] ∧ Below w.heap.size w W') := fun W' hf =>
  ⟨RowV.of_block HE1.out (hf.block _ HE1.out.lt (by have := HX3.out; omega)), RowV.of_block HE2.out (hf.block _ HE2.out.lt (by have := HX3.out; have := HX2.out; omega)), HB0.out.trans (hf.below HB0.out.size (fun k hk => by have := HX3.out; omega))⟩
 clear hF hT hKK HRD
 go_wp2_with fail
 refine HPG.out.mono ?_
 rintro e w5 ⟨hf5, hm⟩
 cases hpg : pgO (some proof) [d0, d1, d2, d3, d4, d5, d6, d7] with
 | none =>
  rw [hpg] at hm
  obtain rfl : e = pkE := hm
  have HX : Hid (rrd [d0, d1, d2, d3, d4, d5, d6, d7] fr tu proof = none) := by unfold Hid; rw [HQ.out _ (by rw [HRN.out, hpg])]
  have HC : Hid (CallsD _ _ _ _ _ _) := HEND.out w5 _ (HFR.out w5 hf5).1 (HFR.out w5 hf5).2.1 (HFR.out w5 hf5).2.2 HX.out
  unfold pkE
  go_wp2
  refine leaves_cons (f := 61) (args := #[.pointer (some ⟨w.heap.size + 1, 0, none⟩), .pointer (some ⟨qb, 0, none⟩)]) (by simp) (by simp [go_sem]) ?_
  refine HC.out.mono ?_
  rintro e u' w'' ⟨rfl, rfl, c1, c2, hpost⟩
  simp [Leaves, settle, results, Try.results43, go_sem, c1, c2]
  exact hpost
 | some q =>
  obtain ⟨⟨lv, its⟩, r⟩ := q
  rw [hpg] at hm
  obtain ⟨cur, xs, rfl, hens, hr5⟩ := hm
  have HRN2 : Hid (rngRd [d0, d1, d2, d3, d4, d5, d6, d7] fr tu proof = readU fr tu lv its r) := by unfold Hid; rw [HRN.out, hpg]
  obtain ⟨g1, g2, g3⟩ := HFR.out w5 hf5
  have HG3 : Hid (Below w.heap.size w w5) := g3
  have hrw : w.heap.size < rb := by have := HX3.out; omega
  have hplen := pgO_len hpg
  have HEB : Hid (Calls _ _ _ _ _) := eb_any fr tu lv (blkOf sp) rb W.heap.size cur xs its r sf st w5 hr5 (fun k hk => Nat.lt_of_lt_of_le (HKK.out k hk) g3.size) (pgO_ok hpg) hens hf5.size (HF.out.below g3) (HT.out.below g3) (fun x hx e => by have := HF.out.lt x hx; omega) (fun x hx e => by have := HT.out.lt x hx; omega)
  have HF5 : Hid (Frame (fun k => k = rb) W w5) := hf5
  clear hpg hens hr5 hplen hf5 g1 g2 g3 HPG k0 k1 k2 k3 k4 k5 k6 k7 HRN
  unfold SlR.val
  go_wp2_with fail
  refine HEB.out.mono ?_
  rintro e w6 ⟨hf6, hm⟩
  have HF6 : Hid (Frame (fun k => k = rb) W w6) := HF5.out.trans hf6
  cases hru : readU fr tu lv its r with
  | none =>
   rw [hru] at hm
   obtain rfl : e = pkE := hm
   have HX : Hid (rrd [d0, d1, d2, d3, d4, d5, d6, d7] fr tu proof = none) := by unfold Hid; rw [HQ.out _ (by rw [HRN2.out, hru])]
   have HC : Hid (CallsD _ _ _ _ _ _) := HEND.out w6 _ (HFR.out w6 HF6.out).1 (HFR.out w6 HF6.out).2.1 (HFR.out w6 HF6.out).2.2 HX.out
   unfold pkE
   go_wp2
   refine leaves_cons (f := 61) (args := #[.pointer (some ⟨w.heap.size + 1, 0, none⟩), .pointer (some ⟨qb, 0, none⟩)]) (by simp) (by simp [go_sem]) ?_
   refine HC.out.mono ?_
   rintro e u' w'' ⟨rfl, rfl, c1, c2, hpost⟩
   simp [Leaves, settle, results, Try.results43, go_sem, c1, c2]
   exact hpost
  | some q =>
   obtain ⟨es, r2⟩ := q
   rw [hru] at hm
   obtain ⟨v, ys, rfl, hen6, hr6⟩ := hm
   obtain ⟨g1, g2, g3⟩ := HFR.out w6 HF6.out
   have HRR : Hid (rrd [d0, d1, d2, d3, d4, d5, d6, d7] fr tu proof = if r2 = [] then some es else none) := by unfold Hid; rw [HQ.out _ (by rw [HRN2.out, hru])]
   have hft : Frame (fun k => k = w.heap.size + 1) w6 (w6.setCell ⟨w.heap.size + 1, 0, none⟩ (.slice v.a v.n v.cap)) := (Frame.refl (fun k => k = w.heap.size + 1) w6).setCell (p := ⟨w.heap.size + 1, 0, none⟩) rfl _
   have HE7 : Hid (RowV (w6.setCell ⟨w.heap.size + 1, 0, none⟩ (.slice v.a v.n v.cap)) (w.heap.size + 1) 83 [.slice v.a v.n v.cap]) := by unfold Hid; simpa using RowV.set g1 0 (.slice v.a v.n v.cap)
   have HQ7 : Hid (RowV (w6.setCell ⟨w.heap.size + 1, 0, none⟩ (.slice v.a v.n v.cap)) qb 4 [.bool false]) := RowV.of_block g2 (hft.block _ g2.lt (by have := HX2.out; omega))
   have HB7 : Hid (Below w.heap.size w (w6.setCell ⟨w.heap.size + 1, 0, none⟩ (.slice v.a v.n v.cap))) := g3.trans (hft.below g3.size (fun k hk => by omega))
   have hkn : ∀ q, blkOf sp q → ¬ q = w.heap.size + 1 := fun q hq e => by have := HKK.out q hq; omega
   have HN7 : Hid (EnsL 0 (w6.setCell ⟨w.heap.size + 1, 0, none⟩ (.slice v.a v.n v.cap)) (blkOf sp) W.heap.size v ys es) := hen6.frame hft (fun k hk e => owns_ne hen6.own g1 (by decide) (by rw [hk, e])) hkn
   have hr7 : RdP (w6.setCell ⟨w.heap.size + 1, 0, none⟩ (.slice v.a v.n v.cap)) (blkOf sp) rb r2 := hr6.frame hft (by have := HX3.out; omega) hkn
   have HEN : Hid (Calls _ _ _ _ _) := endP_any (blkOf sp) rb r2 _ hr7
   have c1 := g1.cell 0 (by simp)
   have fc1 := g1.frozen 0
   simp only [List.getElem_cons_zero] at c1
   clear hru hen6 hr6 hft hkn hr7 g1 g2 g3 hf6 HEB HRN2
   unfold SlR.val
   go_upto_region 4 with fail
   generalize w6.setCell ⟨w.heap.size + 1, 0, none⟩ (.slice v.a v.n v.cap) = W7 at *
   go_wp2_with fail
   refine HEN.out.mono ?_
   rintro e w8 ⟨hw8, he⟩
   obtain rfl : W7 = w8 := hw8.symm
   clear hw8 c1 fc1
   by_cases hr2 : r2 = []
   ·rw [if_pos hr2] at he
    subst he
    have HX : Hid (rrd [d0, d1, d2, d3, d4, d5, d6, d7] fr tu proof = some es) := by unfold Hid; rw [HRR.out, if_pos hr2]
    have c1 := HE7.out.cell 0 (by simp)
    have fc1 := HE7.out.frozen 0
    have c2 := HQ7.out.cell 0 (by simp)
    have fc2 := HQ7.out.frozen 0
    simp only [List.getElem_cons_zero] at c1 c2
    have hnq : w.heap.size + 1 ≠ qb := by have := HX2.out; omega
    have hft : Frame (fun k => k = w.heap.size + 1 ∨ k = qb) W7 ((W7.setCell ⟨w.heap.size + 1, 0, none⟩ (.slice v.a v.n v.cap)).setCell ⟨qb, 0, none⟩ (.bool true)) := ((Frame.refl (fun k => k = w.heap.size + 1 ∨ k = qb) W7).setCell (p := ⟨w.heap.size + 1, 0, none⟩) (Or.inl rfl) _).setCell (p := ⟨qb, 0, none⟩) (Or.inr rfl) _
    have HPO : Hid (rrPost w (blkOf sp) (rrd [d0, d1, d2, d3, d4, d5, d6, d7] fr tu proof) (.returned (.tuple #[.slice v.a v.n v.cap, .bool true])) ((W7.setCell ⟨w.heap.size + 1, 0, none⟩ (.slice v.a v.n v.cap)).setCell ⟨qb, 0, none⟩ (.bool true))) := by
     refine ⟨HB7.out.trans (hft.below HB7.out.size (fun k hk => by have := HX2.out; omega)), ?_⟩
     rw [HX.out]
     refine ⟨v, ys, rfl, (HN7.out.frame hft (fun k hk e => ?_) (fun q hq e => by have := HKK.out q hq; have := HX2.out; omega)).toBase HB0.out.size⟩
     rcases e with e | e
     ·exact owns_ne HN7.out.own HE7.out (by decide) (by rw [hk, e])
     ·exact owns_ne HN7.out.own HQ7.out (by decide) (by rw [hk, e])
    have d1 : ((W7.setCell ⟨w.heap.size + 1, 0, none⟩ (.slice v.a v.n v.cap)).setCell ⟨qb, 0, none⟩ (.bool true)).cell? ⟨w.heap.size + 1, 0, none⟩ = some (.slice v.a v.n v.cap) := by
     have h1 := RowV.of_block (RowV.set HE7.out 0 (.slice v.a v.n v.cap)) (((Frame.refl (fun k => k = qb) _).setCell (p := ⟨qb, 0, none⟩) rfl (.bool true)).block _ (RowV.lt (RowV.set HE7.out 0 (.slice v.a v.n v.cap))) hnq)
     exact h1.cell 0 (by simp)
    have d2 : ((W7.setCell ⟨w.heap.size + 1, 0, none⟩ (.slice v.a v.n v.cap)).setCell ⟨qb, 0, none⟩ (.bool true)).cell? ⟨qb, 0, none⟩ = some (.bool true) := by
     have h1 := RowV.of_block HQ7.out (((Frame.refl (fun k => k = w.heap.size + 1) _).setCell (p := ⟨w.heap.size + 1, 0, none⟩) rfl (.slice v.a v.n v.cap)).block _ HQ7.out.lt (fun e => hnq e.symm))
     exact (RowV.set h1 0 (.bool true)).cell 0 (by simp)
    have HD1 : Hid (_ = _) := d1
    have HD2 : Hid (_ = _) := d2
    clear d1 d2 hft
    go_wp2
    refine leaves_cons (f := 61) (args := #[.pointer (some ⟨w.heap.size + 1, 0, none⟩), .pointer (some ⟨qb, 0, none⟩)]) (by simp) (by simp [go_sem]) ?_
    refine (catch_idle ⟨w.heap.size + 1, 0, none⟩ ⟨qb, 0, none⟩ _).mono ?_
    rintro e u' w'' ⟨rfl, rfl, rfl⟩
    have d1 := HD1.out
    have d2 := HD2.out
    simp [Leaves, settle, results, Try.results43, go_sem, d1, d2]
    exact HPO.out
   ·rw [if_neg hr2] at he
    obtain rfl : e = pkE := he
    have HX : Hid (rrd [d0, d1, d2, d3, d4, d5, d6, d7] fr tu proof = none) := by unfold Hid; rw [HRR.out, if_neg hr2]
    have HC : Hid (CallsD _ _ _ _ _ _) := HEND.out W7 _ HE7.out HQ7.out HB7.out HX.out
    unfold pkE
    go_wp2
    refine leaves_cons (f := 61) (args := #[.pointer (some ⟨w.heap.size + 1, 0, none⟩), .pointer (some ⟨qb, 0, none⟩)]) (by simp) (by simp [go_sem]) ?_
    refine HC.out.mono ?_
    rintro e u' w'' ⟨rfl, rfl, c1, c2, hpost⟩
    simp [Leaves, settle, results, Try.results43, go_sem, c1, c2]
    exact hpost
end Go.Proofs.Ytekegfbjbainhaa
