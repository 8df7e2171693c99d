import Derived.Test.YtekegfbjbainhaaGreatKJoin39
import Derived.Laws.CopyRow
import Derived.Test.YtekegfbjbainhaaGreatKJoin37
import Derived.Deep.RegionHeld3
import Derived.Deep.DeepCutAuto
set_option linter.unusedVariables false
set_option linter.unusedSimpArgs false

namespace Go.Proofs.YtekegfbjbainhaaGreat
open Go.RowKit
set_option maxRecDepth 100000 in
set_option maxHeartbeats 1000000 in
theorem step_noneQ {B : BkV} (cs : List Value) (kk : Int) (wb : Nat) (ps : SlR) (w : World) (h : LawAt B w wb ps []) (k0 : cs[0]? = some (.int .i64 kk)) (hk : kk = 6 ∨ kk = 7 ∨ kk = 8 ∨ kk = 9) :
  Calls Tryz.prog 12 #[.pointer (some ⟨wb, 0, none⟩), .agg cs.toArray] w fun e w' => e = .returned (.bool true) ∧ Below w.heap.size w w' := by
 have hwb : wb < w.heap.size := RowV.lt h.row
 have hpn : ps.n = 0 := (owns_cap (a := ps.a) (n' := ps.n) (cap := ps.cap) h.own).1
 have r0 : w.cell? ⟨wb, 0, none⟩ = some (.slice ps.a 0 ps.cap) := by
  have : w.cell? ⟨wb, 0, none⟩ = some (.slice ps.a ps.n ps.cap) := RowV.cell h.row 0 (by simp)
  rw [hpn] at this; exact this
 clear hpn h
 have HB : Hid (Below w.heap.size w (w.alloc (.cells cs.toArray 43))) := (Below.refl _ _).alloc (Nat.le_refl _) _
 rcases hk with rfl | rfl | rfl | rfl
 all_goals
  go_enter Tryz.func12, Tryz.ntmps12
  go_wp2
  go_ret
  exact ⟨rfl, HB.out⟩
set_option maxRecDepth 100000 in
set_option maxHeartbeats 1000000 in
theorem step_prv (cs : List Value) (kk oa : Int) (a b c : Nat) (wb : Nat) (ps : SlR) (ds : List PairD) (B : BookD) (w : World) (hh : LawK w wb ps ds B) (hlen : cs.length = 24) (k0 : cs[0]? = some (.int .i64 kk)) (hk : kk = 6 ∨ kk = 7 ∨ kk = 8 ∨ kk = 9) (k1 : cs[1]? = some (.int .i64 oa)) (ha1 : -9223372036854775808 ≤ oa) (ha2 : oa ≤ 9223372036854775807) (hn : 1 ≤ ds.length)
  (hst : ∀ (d : PairD) (W : World), LawK W wb ps ds B → d ∈ ds → Below w.heap.size w W → Calls Tryz.prog 22 #[.pointer (some ⟨wb, 0, none⟩), .agg cs.toArray, .pointer (some ⟨d.pb, 0, none⟩)] W (StepK a b c wb ps ds B W)) :
  Calls Tryz.prog 12 #[.pointer (some ⟨wb, 0, none⟩), .agg cs.toArray] w (StepK a b c wb ps ds B w) := by
 have h := hh.law
 obtain ⟨d, hd1, hd2⟩ := Tryz.rowOp
 have hsz : Hid ((Tryz.prog.info? 43).map (·.size) = some cs.length) := by rw [hlen]; exact Tryz.sizeOp
 have HD : Hid (Tryz.prog.underlying 43 = some d) := hd1
 have HD2 : Hid (d.isRow = true) := hd2
 have HL : Hid (cs.length = 24) := hlen
 have HB : Hid (Below w.heap.size w (w.alloc (.cells cs.toArray 43))) := (Below.refl _ _).alloc (Nat.le_refl _) _
 have hwb : wb < w.heap.size := RowV.lt h.row
 have r0 : w.cell? ⟨wb, 0, none⟩ = some (.slice ps.a ps.n ps.cap) := RowV.cell h.row 0 (by simp)
 obtain ⟨hpn, hpc, hpm, hpa⟩ := owns_cap (a := ps.a) (n' := ps.n) (cap := ps.cap) h.own
 obtain ⟨g, hg, hglt⟩ : ∃ g, ps.a = some ⟨g, 0, none⟩ ∧ g < w.heap.size := by
  rcases hpa with ⟨_, h0, _⟩ | ⟨g, hg, _, hlt⟩
  ·omega
  ·exact ⟨g, hg, hlt⟩
 rw [hg] at r0
 have hpm' : ps.n ≤ maxLen := by omega
 obtain ⟨dd, hdd, hcd⟩ : ∃ d, ds[pickN oa ps.n]? = some d ∧ w.cell? ⟨g, pickN oa ps.n, none⟩ = some (.pointer (some ⟨d.pb, 0, none⟩)) := by
  have hi' : pickN oa ps.n < ds.length := by have := pickN_lt oa ps.n (by omega); omega
  refine ⟨ds[pickN oa ps.n], List.getElem?_eq_getElem hi', ?_⟩
  have hsl : SlV w ps.a (ds.map (fun d => ptrV d.pb)) := (SlV.ofOwn h.own).1
  obtain ⟨b, o, e, _, hc⟩ := hsl (pickN oa ps.n) (by simpa using hi')
  rw [hg] at e; cases e
  rw [Nat.zero_add] at hc
  rw [hc]; simp [ptrV]
 have HDD : Hid (dd ∈ ds) := List.mem_of_getElem? hdd
 have hiI : (pickN oa ps.n : Int) < ps.n := by have := pickN_lt oa ps.n (by omega); omega
 have HPK : Hid (∀ W, Calls Tryz.prog 20 #[.int .i64 oa, .int .i64 (ps.n : Int)] W fun e w' => e = .returned (.int .i64 (pickN oa ps.n : Int)) ∧ w' = W) := fun W => pick_any oa ps.n W ha1 ha2 (by omega) hpm'
 generalize pickN oa ps.n = i at *
 have hn1 : 1 ≤ ps.n := by omega
 have hpmI : (ps.n : Int) ≤ 9223372036854775807 := by unfold maxLen at hpm; omega
 have hn0 : ((ps.n : Int) == 0) = false := by simp; omega
 have HH : Hid (LawK w wb ps ds B) := hh
 have HST : Hid (∀ (d : PairD) (W : World), LawK W wb ps ds B → d ∈ ds → Below w.heap.size w W → Calls Tryz.prog 22 #[.pointer (some ⟨wb, 0, none⟩), .agg cs.toArray, .pointer (some ⟨d.pb, 0, none⟩)] W (StepK a b c wb ps ds B W)) := hst
 clear hd1 hd2 hlen hpn hpc hpm hpa hst hn hdd hpm' hh h
 rcases hk with rfl | rfl | rfl | rfl
 all_goals
  go_enter Tryz.func12, Tryz.ntmps12
  go_wp2
  go_quiet (first | (go_at_call 20; exact Calls.quiet_of_same (HPK.out _)))
  have HBq : Hid (Below w.heap.size w ((w.alloc (.cells cs.toArray 43)).drewN nq)) := by
   have hb := HB.out
   exact ⟨hb.os, hb.tape, hb.output, hb.size, hb.block⟩
  go_wp2_with (refine wpList_load_mid (by rfl) 43 (.tmp 3) (by rfl) w.heap.size 0 (by rfl) cs d (by exact rangeAt_new w cs 43) HD.out HD2.out hsz.out ?_)
  refine (HST.out dd _ (HH.out.below HBq.out) HDD.out HBq.out).mono ?_
  rintro e w1 hs1
  obtain ⟨rfl, hs1⟩ : e = .returned (.bool true) ∧ StepK a b c wb ps ds B w e w1 := ⟨hs1.1, StepK.behind HBq.out (Nat.le_of_lt hwb) hs1⟩
  have HS1 : Hid (StepK a b c wb ps ds B w (.returned (.bool true)) w1) := hs1
  clear hs1
  go_wp2
  go_ret
  exact HS1.out
theorem kInv_log (mr mg mh : Nat) (w wr : World) (q : Nat) (o : OpR) (hI : kInv mr mg mh w q wr) (hq : CapQ mr mg mh q) (h1g : 1 ≤ mg) (hk : o.kind = 8 ∨ o.kind = 9) (ha1 : -9223372036854775808 ≤ o.a) (ha2 : o.a ≤ 9223372036854775807) :
  Calls Tryz.prog 12 #[.pointer (some ⟨w.heap.size, 0, none⟩), .agg o.cells.toArray] wr fun e w' => e = .returned (.bool true) ∧ kInv mr mg mh w (q + 1) w' := by
 obtain ⟨h1, ps, ds, B, h2, h3, h4, h5, h6, h7⟩ := hI
 have e1 : (q + 1) * mr = q * mr + mr := Nat.succ_mul q mr
 have e2 : (q + 1) * mg = q * mg + mg := Nat.succ_mul q mg
 have e3 : (q + 1) * mh = q * mh + mh := Nat.succ_mul q mh
 obtain ⟨q1, q2, q3⟩ := id hq
 have hk' : o.kind = 6 ∨ o.kind = 7 ∨ o.kind = 8 ∨ o.kind = 9 := by omega
 by_cases hn : ds.length = 0
 ·have hnil : ds = [] := List.length_eq_zero_iff.1 hn
  subst hnil
  refine (step_noneQ o.cells o.kind w.heap.size ps wr h2.law rfl hk').mono ?_
  rintro e w' ⟨rfl, hb⟩
  exact ⟨rfl, h1.trans (hb.mono h1.size), ps, [], B, h2.below hb, by omega, by omega, by omega, by omega, h7⟩
 ·refine (step_prv o.cells o.kind o.a 0 1 0 w.heap.size ps ds B wr h2 rfl rfl hk' rfl ha1 ha2 (by omega) (fun d W hW hd hbW => ?_)).mono ?_
  ·rcases hk with hk | hk
   ·exact proved_incl o.cells o.b o.c w.heap.size ps ds B d W hW hd (by rw [← hk]; rfl) rfl rfl (by omega)
   ·exact proved_ext o.cells o.b o.c w.heap.size ps ds B d W hW hd (by rw [← hk]; rfl) rfl rfl (by omega)
  ·intro e w' hs'
   exact kInv.next h1 h3 h4 h5 h6 hs' (Nat.zero_le _) h1g (Nat.zero_le _) hq
end Go.Proofs.YtekegfbjbainhaaGreat


namespace Go.Proofs.YtekegfbjbainhaaGreat
open Go.RowKit
theorem list_set8 (l : List Value) (i : Nat) (v0 v1 v2 v3 v4 v5 v6 v7 : Value) (h : i + 8 ≤ l.length) :
  (((((((l.set i v0).set (i + 1) v1).set (i + 2) v2).set (i + 3) v3).set (i + 4) v4).set (i + 5) v5).set (i + 6) v6).set (i + 7) v7 = l.take i ++ [v0, v1, v2, v3, v4, v5, v6, v7] ++ l.drop (i + 8) := by
 have key : ∀ (m : List Value) (k : Nat) (v : Value) (rest : List Value), k + (rest.length + 1) ≤ m.length → (m.set k v).take (k + 1) ++ rest ++ (m.set k v).drop (k + 1 + rest.length) = m.take k ++ (v :: rest) ++ m.drop (k + (rest.length + 1)) := list_seg_step
 have e8 : ∀ m : List Value, m = m.take (i + 8) ++ [] ++ m.drop (i + 8) := fun m => by simp
 have s7 : ((((((((l.set (i) v0).set (i + 1) v1).set (i + 2) v2).set (i + 3) v3).set (i + 4) v4).set (i + 5) v5).set (i + 6) v6).set (i + 7) v7).take (i + 8) ++ [] ++ ((((((((l.set (i) v0).set (i + 1) v1).set (i + 2) v2).set (i + 3) v3).set (i + 4) v4).set (i + 5) v5).set (i + 6) v6).set (i + 7) v7).drop (i + 8) = (((((((l.set (i) v0).set (i + 1) v1).set (i + 2) v2).set (i + 3) v3).set (i + 4) v4).set (i + 5) v5).set (i + 6) v6).take (i + 7) ++ [v7] ++ (((((((l.set (i) v0).set (i + 1) v1).set (i + 2) v2).set (i + 3) v3).set (i + 4) v4).set (i + 5) v5).set (i + 6) v6).drop (i + 8) := key (((((((l.set (i) v0).set (i + 1) v1).set (i + 2) v2).set (i + 3) v3).set (i + 4) v4).set (i + 5) v5).set (i + 6) v6) (i + 7) v7 [] (by simp; omega)
 have s6 : (((((((l.set (i) v0).set (i + 1) v1).set (i + 2) v2).set (i + 3) v3).set (i + 4) v4).set (i + 5) v5).set (i + 6) v6).take (i + 7) ++ [v7] ++ (((((((l.set (i) v0).set (i + 1) v1).set (i + 2) v2).set (i + 3) v3).set (i + 4) v4).set (i + 5) v5).set (i + 6) v6).drop (i + 8) = ((((((l.set (i) v0).set (i + 1) v1).set (i + 2) v2).set (i + 3) v3).set (i + 4) v4).set (i + 5) v5).take (i + 6) ++ [v6, v7] ++ ((((((l.set (i) v0).set (i + 1) v1).set (i + 2) v2).set (i + 3) v3).set (i + 4) v4).set (i + 5) v5).drop (i + 8) := key ((((((l.set (i) v0).set (i + 1) v1).set (i + 2) v2).set (i + 3) v3).set (i + 4) v4).set (i + 5) v5) (i + 6) v6 [v7] (by simp; omega)
 have s5 : ((((((l.set (i) v0).set (i + 1) v1).set (i + 2) v2).set (i + 3) v3).set (i + 4) v4).set (i + 5) v5).take (i + 6) ++ [v6, v7] ++ ((((((l.set (i) v0).set (i + 1) v1).set (i + 2) v2).set (i + 3) v3).set (i + 4) v4).set (i + 5) v5).drop (i + 8) = (((((l.set (i) v0).set (i + 1) v1).set (i + 2) v2).set (i + 3) v3).set (i + 4) v4).take (i + 5) ++ [v5, v6, v7] ++ (((((l.set (i) v0).set (i + 1) v1).set (i + 2) v2).set (i + 3) v3).set (i + 4) v4).drop (i + 8) := key (((((l.set (i) v0).set (i + 1) v1).set (i + 2) v2).set (i + 3) v3).set (i + 4) v4) (i + 5) v5 [v6, v7] (by simp; omega)
 have s4 : (((((l.set (i) v0).set (i + 1) v1).set (i + 2) v2).set (i + 3) v3).set (i + 4) v4).take (i + 5) ++ [v5, v6, v7] ++ (((((l.set (i) v0).set (i + 1) v1).set (i + 2) v2).set (i + 3) v3).set (i + 4) v4).drop (i + 8) = ((((l.set (i) v0).set (i + 1) v1).set (i + 2) v2).set (i + 3) v3).take (i + 4) ++ [v4, v5, v6, v7] ++ ((((l.set (i) v0).set (i + 1) v1).set (i + 2) v2).set (i + 3) v3).drop (i + 8) := key ((((l.set (i) v0).set (i + 1) v1).set (i + 2) v2).set (i + 3) v3) (i + 4) v4 [v5, v6, v7] (by simp; omega)
 have s3 : ((((l.set (i) v0).set (i + 1) v1).set (i + 2) v2).set (i + 3) v3).take (i + 4) ++ [v4, v5, v6, v7] ++ ((((l.set (i) v0).set (i + 1) v1).set (i + 2) v2).set (i + 3) v3).drop (i + 8) = (((l.set (i) v0).set (i + 1) v1).set (i + 2) v2).take (i + 3) ++ [v3, v4, v5, v6, v7] ++ (((l.set (i) v0).set (i + 1) v1).set (i + 2) v2).drop (i + 8) := key (((l.set (i) v0).set (i + 1) v1).set (i + 2) v2) (i + 3) v3 [v4, v5, v6, v7] (by simp; omega)
 have s2 : (((l.set (i) v0).set (i + 1) v1).set (i + 2) v2).take (i + 3) ++ [v3, v4, v5, v6, v7] ++ (((l.set (i) v0).set (i + 1) v1).set (i + 2) v2).drop (i + 8) = ((l.set (i) v0).set (i + 1) v1).take (i + 2) ++ [v2, v3, v4, v5, v6, v7] ++ ((l.set (i) v0).set (i + 1) v1).drop (i + 8) := key ((l.set (i) v0).set (i + 1) v1) (i + 2) v2 [v3, v4, v5, v6, v7] (by simp; omega)
 have s1 : ((l.set (i) v0).set (i + 1) v1).take (i + 2) ++ [v2, v3, v4, v5, v6, v7] ++ ((l.set (i) v0).set (i + 1) v1).drop (i + 8) = (l.set (i) v0).take (i + 1) ++ [v1, v2, v3, v4, v5, v6, v7] ++ (l.set (i) v0).drop (i + 8) := key (l.set (i) v0) (i + 1) v1 [v2, v3, v4, v5, v6, v7] (by simp; omega)
 have s0 : (l.set (i) v0).take (i + 1) ++ [v1, v2, v3, v4, v5, v6, v7] ++ (l.set (i) v0).drop (i + 8) = l.take (i) ++ [v0, v1, v2, v3, v4, v5, v6, v7] ++ l.drop (i + 8) := key l (i) v0 [v1, v2, v3, v4, v5, v6, v7] (by simp; omega)
 exact (e8 ((((((((l.set (i) v0).set (i + 1) v1).set (i + 2) v2).set (i + 3) v3).set (i + 4) v4).set (i + 5) v5).set (i + 6) v6).set (i + 7) v7)).trans (s7.trans (s6.trans (s5.trans (s4.trans (s3.trans (s2.trans (s1.trans s0)))))))
theorem digsC_put (L : List (List UInt8)) (h : ∀ d ∈ L, d.length = 8) (i : Nat) (hi : i < L.length) (x : List UInt8) : (digsC L).take (i * 8) ++ x.map u8c ++ (digsC L).drop (i * 8 + 8) = digsC (L.set i x) := by
 rw [digsC_take L h i (by omega), show i * 8 + 8 = (i + 1) * 8 by omega, digsC_drop L h (i + 1) (by omega), List.set_eq_take_append_cons_drop, if_pos hi]
 unfold digsC
 rw [List.flatMap_append, List.flatMap_cons, List.append_assoc]
theorem own_put8 {W : World} {base n g cap i : Nat} {L : List (List UInt8)} {z0 z1 z2 z3 z4 z5 z6 z7 : UInt8} (h : W.ownsRow base 36 8 (.slice (some ⟨g, 0, none⟩) n cap) n (digsC L)) (hn : n = L.length) (h8 : ∀ d ∈ L, d.length = 8) (hi : i < L.length) :
  ((((((((W.setCell ⟨g, i * 8, none⟩ (Value.int .u8 (z0.toNat : Int))).setCell ⟨g, i * 8 + 1, none⟩ (Value.int .u8 (z1.toNat : Int))).setCell ⟨g, i * 8 + 2, none⟩ (Value.int .u8 (z2.toNat : Int))).setCell ⟨g, i * 8 + 3, none⟩ (Value.int .u8 (z3.toNat : Int))).setCell ⟨g, i * 8 + 4, none⟩ (Value.int .u8 (z4.toNat : Int))).setCell ⟨g, i * 8 + 5, none⟩ (Value.int .u8 (z5.toNat : Int))).setCell ⟨g, i * 8 + 6, none⟩ (Value.int .u8 (z6.toNat : Int))).setCell ⟨g, i * 8 + 7, none⟩ (Value.int .u8 (z7.toNat : Int))).ownsRow base 36 8 (.slice (some ⟨g, 0, none⟩) n cap) n (digsC (L.set i [z0, z1, z2, z3, z4, z5, z6, z7])) ∧ Frame (fun q => q = g) W ((((((((W.setCell ⟨g, i * 8, none⟩ (Value.int .u8 (z0.toNat : Int))).setCell ⟨g, i * 8 + 1, none⟩ (Value.int .u8 (z1.toNat : Int))).setCell ⟨g, i * 8 + 2, none⟩ (Value.int .u8 (z2.toNat : Int))).setCell ⟨g, i * 8 + 3, none⟩ (Value.int .u8 (z3.toNat : Int))).setCell ⟨g, i * 8 + 4, none⟩ (Value.int .u8 (z4.toNat : Int))).setCell ⟨g, i * 8 + 5, none⟩ (Value.int .u8 (z5.toNat : Int))).setCell ⟨g, i * 8 + 6, none⟩ (Value.int .u8 (z6.toNat : Int))).setCell ⟨g, i * 8 + 7, none⟩ (Value.int .u8 (z7.toNat : Int))) ∧ ((((((((W.setCell ⟨g, i * 8, none⟩ (Value.int .u8 (z0.toNat : Int))).setCell ⟨g, i * 8 + 1, none⟩ (Value.int .u8 (z1.toNat : Int))).setCell ⟨g, i * 8 + 2, none⟩ (Value.int .u8 (z2.toNat : Int))).setCell ⟨g, i * 8 + 3, none⟩ (Value.int .u8 (z3.toNat : Int))).setCell ⟨g, i * 8 + 4, none⟩ (Value.int .u8 (z4.toNat : Int))).setCell ⟨g, i * 8 + 5, none⟩ (Value.int .u8 (z5.toNat : Int))).setCell ⟨g, i * 8 + 6, none⟩ (Value.int .u8 (z6.toNat : Int))).setCell ⟨g, i * 8 + 7, none⟩ (Value.int .u8 (z7.toNat : Int))).heap.size = W.heap.size := by
 have hl := digsC_length L h8
 refine ⟨?_, (((((((((Frame.refl (fun q => q = g) W).setCell (p := ⟨g, i * 8, none⟩) rfl _).setCell (p := ⟨g, i * 8 + 1, none⟩) rfl _).setCell (p := ⟨g, i * 8 + 2, none⟩) rfl _).setCell (p := ⟨g, i * 8 + 3, none⟩) rfl _).setCell (p := ⟨g, i * 8 + 4, none⟩) rfl _).setCell (p := ⟨g, i * 8 + 5, none⟩) rfl _).setCell (p := ⟨g, i * 8 + 6, none⟩) rfl _).setCell (p := ⟨g, i * 8 + 7, none⟩) rfl _), by simp⟩
 have h1 := (World.ownsRow.stored h (i * 8) (Value.int .u8 (z0.toNat : Int))).1
 have h2 := (World.ownsRow.stored h1 (i * 8 + 1) (Value.int .u8 (z1.toNat : Int))).1
 have h3 := (World.ownsRow.stored h2 (i * 8 + 2) (Value.int .u8 (z2.toNat : Int))).1
 have h4 := (World.ownsRow.stored h3 (i * 8 + 3) (Value.int .u8 (z3.toNat : Int))).1
 have h5 := (World.ownsRow.stored h4 (i * 8 + 4) (Value.int .u8 (z4.toNat : Int))).1
 have h6 := (World.ownsRow.stored h5 (i * 8 + 5) (Value.int .u8 (z5.toNat : Int))).1
 have h7 := (World.ownsRow.stored h6 (i * 8 + 6) (Value.int .u8 (z6.toNat : Int))).1
 have h8' := (World.ownsRow.stored h7 (i * 8 + 7) (Value.int .u8 (z7.toNat : Int))).1
 rw [list_set8 _ _ _ _ _ _ _ _ _ _ (by omega)] at h8'
 have e := digsC_put L h8 i hi [z0, z1, z2, z3, z4, z5, z6, z7]
 rw [← e]
 exact h8'
theorem coms_head (rl : List (List UInt8)) (hr : ∀ r ∈ rl, r.length = 8) (k j : Nat) (hk : k < rl.length) (hj : j < 9) : (comsC rl)[k * 18 + 9 + j]? = (Value.int .i64 ((k + 1 : Nat) : Int) :: (sumF 42 (rl.take (k + 1))).map u8c)[j]? := by
 unfold comsC
 rw [Nat.add_assoc, comsF_get rl.length rl k (9 + j) (Nat.le_refl _) hr hk (by omega)]
 have e : rl.getD k [] = rl[k] := by rw [List.getD_eq_getElem?_getD, List.getElem?_eq_getElem hk]; rfl
 have h8 := hr _ (List.getElem_mem hk)
 rw [e]
 unfold commitC
 rw [List.append_assoc, List.getElem?_append_right (by simp [h8]), show 9 + j - ([Value.int .i64 (k : Int)] ++ rl[k].map u8c).length = j by simp [h8]]
 rfl
theorem done_head {w : World} {d : PairD} (h : PairOk w d) (k : Nat) (hk : k < d.tds.length) : ∃ (g : Nat) (x0 x1 x2 x3 x4 x5 x6 x7 : UInt8), d.done.a = some ⟨g, 0, none⟩ ∧ g < w.heap.size ∧ d.done.val.ownBlock = some g ∧ w.cell? ⟨g, 0 + k * 18 + 9, none⟩ = some (.int .i64 ((k + 1 : Nat) : Int)) ∧ w.cell? ⟨g, 0 + k * 18 + 9 + 1, none⟩ = some (u8c x0) ∧ w.cell? ⟨g, 0 + k * 18 + 9 + 2, none⟩ = some (u8c x1) ∧ w.cell? ⟨g, 0 + k * 18 + 9 + 3, none⟩ = some (u8c x2) ∧ w.cell? ⟨g, 0 + k * 18 + 9 + 4, none⟩ = some (u8c x3) ∧ w.cell? ⟨g, 0 + k * 18 + 9 + 5, none⟩ = some (u8c x4) ∧ w.cell? ⟨g, 0 + k * 18 + 9 + 6, none⟩ = some (u8c x5) ∧ w.cell? ⟨g, 0 + k * 18 + 9 + 7, none⟩ = some (u8c x6) ∧ w.cell? ⟨g, 0 + k * 18 + 9 + 8, none⟩ = some (u8c x7) := by
 obtain ⟨hsl, hn⟩ := SlV.ofOwn (s := d.done) h.lay.hdone
 have hc := owns_cap (a := d.done.a) (n' := d.done.n) (cap := d.done.cap) h.lay.hdone
 have hr : ∀ r ∈ d.tds.map rootOf, r.length = 8 := fun r hr => by
  obtain ⟨nd, _, rfl⟩ := List.mem_map.1 hr
  exact rootOf_length nd
 have hkr : k < (d.tds.map rootOf).length := by simpa using hk
 obtain ⟨x0, x1, x2, x3, x4, x5, x6, x7, hx⟩ := list8 (sumF 42 ((d.tds.map rootOf).take (k + 1))) (sumF_length 41 _)
 rw [h.dc] at hsl
 obtain ⟨g, ha, hg0⟩ : ∃ g, d.done.a = some ⟨g, 0, none⟩ ∧ g < w.heap.size := by
  rcases hc.2.2.2 with ⟨_, hz, _⟩ | ⟨g, hg, _, hlt⟩
  ·have := h.dl; omega
  ·exact ⟨g, hg, hlt⟩
 have hcell : ∀ j, j < 9 → w.cell? ⟨g, 0 + k * 18 + 9 + j, none⟩ = (Value.int .i64 ((k + 1 : Nat) : Int) :: [x0, x1, x2, x3, x4, x5, x6, x7].map u8c)[j]? := fun j hj => by
  have hv := coms_head (d.tds.map rootOf) hr k j hkr hj
  rw [hx] at hv
  have hlt : k * 18 + 9 + j < (comsC (d.tds.map rootOf)).length := by
   unfold comsC
   rw [comsF_length _ _ (Nat.le_refl _) hr]
   omega
  obtain ⟨b, o, e, _, hcl⟩ := hsl (k * 18 + 9 + j) hlt
  rw [ha] at e
  cases e
  rw [← hv, List.getElem?_eq_getElem hlt, ← hcl]
  congr 2
  omega
 exact ⟨g, x0, x1, x2, x3, x4, x5, x6, x7, ha, hg0, by unfold SlR.val; rw [ha]; rfl, hcell 0 (by omega), hcell 1 (by omega), hcell 2 (by omega), hcell 3 (by omega), hcell 4 (by omega), hcell 5 (by omega), hcell 6 (by omega), hcell 7 (by omega), hcell 8 (by omega)⟩
end Go.Proofs.YtekegfbjbainhaaGreat


namespace Go.Proofs.YtekegfbjbainhaaGreat
open Go.RowKit
def LiesOk : Prop := ∀ (o : OpR) (wb : Nat) (ps : SlR) (ds : List PairD) (B : BookD) (d : PairD) (W : World), LawK W wb ps ds B → d ∈ ds → 0 < d.tds.length → o.kind = 16 → (-9223372036854775808 ≤ o.a ∧ o.a ≤ 9223372036854775807) → (-9223372036854775808 ≤ o.b ∧ o.b ≤ 9223372036854775807) → (-9223372036854775808 ≤ o.c ∧ o.c ≤ 9223372036854775807) → PathAt W o.path →
 Calls Tryz.prog 23 #[.pointer (some ⟨wb, 0, none⟩), .agg o.cells.toArray, .pointer (some ⟨d.pb, 0, none⟩)] W (StepK 0 0 0 wb ps ds B W)
theorem kInv_lies (hli : LiesOk) (mr mg mh : Nat) (w wr : World) (q : Nat) (o : OpR) (hI : kInv mr mg mh w q wr) (hq : CapQ mr mg mh q) (hk : o.kind = 16) (ha : -9223372036854775808 ≤ o.a ∧ o.a ≤ 9223372036854775807) (hb : -9223372036854775808 ≤ o.b ∧ o.b ≤ 9223372036854775807) (hc : -9223372036854775808 ≤ o.c ∧ o.c ≤ 9223372036854775807) (hp : PathAt w o.path) :
  Calls Tryz.prog 12 #[.pointer (some ⟨w.heap.size, 0, none⟩), .agg o.cells.toArray] wr fun e w' => e = .returned (.bool true) ∧ kInv mr mg mh w (q + 1) w' := by
 obtain ⟨h1, ps, ds, B, h2, h3, h4, h5, h6, h7⟩ := hI
 have e1 : (q + 1) * mr = q * mr + mr := Nat.succ_mul q mr
 have e2 : (q + 1) * mg = q * mg + mg := Nat.succ_mul q mg
 have e3 : (q + 1) * mh = q * mh + mh := Nat.succ_mul q mh
 have hk' : o.kind = 14 ∨ o.kind = 15 ∨ o.kind = 16 := by omega
 by_cases hn : ds.length = 0
 ·have hnil : ds = [] := List.length_eq_zero_iff.1 hn
  subst hnil
  refine (step_noneA o.cells o.kind w.heap.size ps wr h2.law rfl hk').mono ?_
  rintro e w' ⟨rfl, hb⟩
  exact ⟨rfl, h1.trans (hb.mono h1.size), ps, [], B, h2.below hb, by omega, by omega, by omega, by omega, h7⟩
 ·refine (step_ask o.cells o.kind o.a 0 0 0 w.heap.size ps ds B wr h2 rfl rfl hk' rfl ha.1 ha.2 (by omega) (fun d W hW hd hbW => ?_)).mono ?_
  ·by_cases h0 : d.tds.length = 0
   ·exact asked_none o.cells w.heap.size ps ds B d W hW hd h0
   ·exact hli o w.heap.size ps ds B d W hW hd (by omega) hk ha hb hc ((hp.below h1).below hbW)
  ·intro e w' hs'
   exact kInv.next h1 h3 h4 h5 h6 hs' (Nat.zero_le _) (Nat.zero_le _) (Nat.zero_le _) hq
end Go.Proofs.YtekegfbjbainhaaGreat


namespace Go.Proofs.YtekegfbjbainhaaGreat
open Go.RowKit
attribute [local go_sem ↓] Go.wp_at_zero Go.wp_at_succ
set_option maxRecDepth 100000 in
set_option maxHeartbeats 4000000 in
theorem asked_lies0 (cs : List Value) (oa ob oc : Int) (pl : List (List UInt8)) (pa : Option Addr) (pcap : Nat) (wb : Nat) (ps : SlR) (ds : List PairD) (B : BookD) (d : PairD) (w : World) (h : LawK w wb ps ds B) (hd : d ∈ ds) (h0 : 0 < d.tds.length) (k0 : cs[0]? = some (.int .i64 16)) (k1 : cs[1]? = some (.int .i64 oa)) (k2 : cs[2]? = some (.int .i64 ob)) (k3 : cs[3]? = some (.int .i64 oc)) (k23 : cs[23]? = some (.slice pa pl.length pcap))
  (ha1 : -9223372036854775808 ≤ oa) (ha2 : oa ≤ 9223372036854775807) (hb1 : -9223372036854775808 ≤ ob) (hb2 : ob ≤ 9223372036854775807) (hc1 : -9223372036854775808 ≤ oc) (hc2 : oc ≤ 9223372036854775807) (hp : SlD w pa pl) (hpl : pl.length ≤ 17592186044416) (hpz : ¬ 0 < pl.length) :
  Calls Tryz.prog 23 #[.pointer (some ⟨wb, 0, none⟩), .agg cs.toArray, .pointer (some ⟨d.pb, 0, none⟩)] w (StepK 0 0 0 wb ps ds B w) := by
 have hdk := h.law.ok d hd
 have hpb : d.pb < w.heap.size := RowV.lt hdk.lay.row
 have hwb : wb < w.heap.size := RowV.lt h.law.row
 have hkl := pickN_lt ob d.tds.length h0
 have HPK : Hid (∀ W, Calls Tryz.prog 20 #[.int .i64 ob, .int .i64 (d.tds.length : Int)] W fun e w' => e = .returned (.int .i64 (pickN ob d.tds.length : Int)) ∧ w' = W) := fun W => pick_any ob _ W hb1 hb2 h0 (by have := hdk.t40; unfold maxLen; omega)
 obtain ⟨g, s0, s1, s2, s3, s4, s5, s6, s7, hga, hgw, hgo, q0, p0, p1, p2, p3, p4, p5, p6, p7⟩ := done_head hdk _ hkl
 have hdn : d.done.n = d.tds.length := (done_root hdk _ hkl).1
 have r2 : w.cell? ⟨d.pb, 2, none⟩ = some (.slice (some ⟨g, 0, none⟩) d.tds.length d.done.cap) := by
  have : w.cell? ⟨d.pb, 2, none⟩ = some (.slice d.done.a d.done.n d.done.cap) := RowV.cell hdk.lay.row 2 (by simp)
  rw [hdn, hga] at this; exact this
 have r1 : w.cell? ⟨d.pb, 1, none⟩ = some (.pointer (some ⟨d.rb, 0, none⟩)) := RowV.cell hdk.lay.row 1 (by simp)
 have h40 : d.tds.length ≤ 40 := hdk.t40
 have HH : Hid (LawK w wb ps ds B) := h
 have HDK : Hid (PairOk w d) := hdk
 have HRL : Hid (d.rl = d.tds.map rootOf) := hdk.rl
 have HPP : Hid (SlD w pa pl) := hp
 clear h hdk hd hdn
 generalize pickN ob d.tds.length = k at *
 have hcl := pickN_lt oc (k + 1) (by omega)
 have HPC : Hid (∀ W, Calls Tryz.prog 20 #[.int .i64 oc, .int .i64 ((k : Int) + 1)] W fun e w' => e = .returned (.int .i64 (pickN oc (k + 1) : Int)) ∧ w' = W) := fun W => pick_any oc (k + 1) W hc1 hc2 (by omega) (by unfold maxLen; omega)
 generalize pickN oc (k + 1) = c at *
 obtain ⟨y0, y1, y2, y3, y4, y5, y6, y7, hy⟩ := list8 (digB []) (digB_length _)
 have HDN : Hid (∀ W, Calls Tryz.prog 10 #[.slice none 0 0] W fun e w' => e = .returned (dV [y0, y1, y2, y3, y4, y5, y6, y7]) ∧ Below W.heap.size W w') := fun W => by
  have h := refDigest_any none 0 0 [] W rfl (by simp) (SlB.nil _ _)
  rw [show dV [y0, y1, y2, y3, y4, y5, y6, y7] = dV (digB []) by rw [hy]]
  exact h
 clear hy
 have hnI : (0 : Int) < d.tds.length := by omega
 have hn40 : (d.tds.length : Int) ≤ 40 := by omega
 have hkI : (k : Int) < d.tds.length := by omega
 have hcI : (c : Int) ≤ k := by omega
 have hn0 : ((d.tds.length : Int) == 0) = false := by rw [Bool.eq_false_iff]; simp only [ne_eq, beq_iff_eq]; omega
 have HHC : Hid (0 < c → ∃ u0 u1 u2 u3 u4 u5 u6 u7 : UInt8, w.cell? ⟨g, (c - 1) * 18 + 9, none⟩ = some (.int .i64 (c : Int)) ∧ w.cell? ⟨g, (c - 1) * 18 + 9 + 1, none⟩ = some (.int .u8 (u0.toNat : Int)) ∧ w.cell? ⟨g, (c - 1) * 18 + 9 + 2, none⟩ = some (.int .u8 (u1.toNat : Int)) ∧ w.cell? ⟨g, (c - 1) * 18 + 9 + 3, none⟩ = some (.int .u8 (u2.toNat : Int)) ∧ w.cell? ⟨g, (c - 1) * 18 + 9 + 4, none⟩ = some (.int .u8 (u3.toNat : Int)) ∧ w.cell? ⟨g, (c - 1) * 18 + 9 + 5, none⟩ = some (.int .u8 (u4.toNat : Int)) ∧ w.cell? ⟨g, (c - 1) * 18 + 9 + 6, none⟩ = some (.int .u8 (u5.toNat : Int)) ∧ w.cell? ⟨g, (c - 1) * 18 + 9 + 7, none⟩ = some (.int .u8 (u6.toNat : Int)) ∧ w.cell? ⟨g, (c - 1) * 18 + 9 + 8, none⟩ = some (.int .u8 (u7.toNat : Int))) := fun hc0 => by
  obtain ⟨g3, u0, u1, u2, u3, u4, u5, u6, u7, hg3, _, _, m0, m1, m2, m3, m4, m5, m6, m7, m8⟩ := done_head HDK.out (c - 1) (by omega)
  rw [hga] at hg3
  cases hg3
  simp only [Nat.zero_add] at m0 m1 m2 m3 m4 m5 m6 m7 m8
  exact ⟨u0, u1, u2, u3, u4, u5, u6, u7, by rw [m0, show c - 1 + 1 = c by omega], m1, m2, m3, m4, m5, m6, m7, m8⟩
 obtain ⟨_, g', o', x0, x1, x2, x3, x4, x5, x6, x7, hga', _, _, e0, e1, e2, e3, e4, e5, e6, e7⟩ := done_root HDK.out c (by omega)
 rw [hga] at hga'
 cases hga'
 unfold u8c at e0 e1 e2 e3 e4 e5 e6 e7 p0 p1 p2 p3 p4 p5 p6 p7
 simp only [Nat.zero_add] at q0 p0 p1 p2 p3 p4 p5 p6 p7 e0 e1 e2 e3 e4 e5 e6 e7
 have q0' : w.cell? ⟨g, k * 18 + 9, none⟩ = some (.int .i64 ((k : Int) + 1)) := by rw [q0]; congr 2
 clear q0
 go_enter Tryz.func23, Tryz.ntmps23
 go_wp2
 go_quiet (first | (go_at_call 20; exact Calls.quiet_of_same (HPK.out _)))
 have HBq : Hid (Below w.heap.size w ((w.alloc (.cells cs.toArray 43)).drewN nq)) := by
  have hb := (Below.refl w.heap.size w).alloc (Nat.le_refl _) (.cells cs.toArray 43)
  exact ⟨hb.os, hb.tape, hb.output, hb.size, hb.block⟩
 have hW1 : w.heap.size < ((w.alloc (.cells cs.toArray 43)).drewN nq).heap.size := by
  show w.heap.size < (w.alloc (.cells cs.toArray 43)).heap.size
  simp
 have c0 : ((w.alloc (.cells cs.toArray 43)).drewN nq).cell? ⟨w.heap.size, 0, none⟩ = some (.int .i64 16) := by simp [go_sem, k0]
 have c1 : ((w.alloc (.cells cs.toArray 43)).drewN nq).cell? ⟨w.heap.size, 1, none⟩ = some (.int .i64 oa) := by simp [go_sem, k1]
 have c3 : ((w.alloc (.cells cs.toArray 43)).drewN nq).cell? ⟨w.heap.size, 3, none⟩ = some (.int .i64 oc) := by simp [go_sem, k3]
 have c23 : ((w.alloc (.cells cs.toArray 43)).drewN nq).cell? ⟨w.heap.size, 23, none⟩ = some (.slice pa pl.length pcap) := by simp [go_sem, k23]
 generalize (w.alloc (.cells cs.toArray 43)).drewN nq = w1 at *
 have hold : ∀ (b q : Nat), b < w.heap.size → w1.cell? ⟨b, q, none⟩ = w.cell? ⟨b, q, none⟩ := fun b q hb => HBq.out.cell (p := ⟨b, q, none⟩) hb
 rw [← hold _ _ hpb] at r1 r2
 have HLI : Hid (∀ W, Below w1.heap.size w1 W → Calls Tryz.prog 51 #[.pointer (some ⟨d.rb, 0, none⟩), .int .i64 (c : Int), .int .i64 ((k : Int) + 1)] W (logPost W (incS (d.tds.map rootOf) c ((k : Int) + 1)))) := fun W hW => by
  have h := refIncl_any d.rb d.now d.past d.roots d.nl d.pastL d.rl c ((k : Int) + 1) W ((HDK.out.lay.below HBq.out).below hW).ref (by rw [HRL.out]; simpa using h40)
  rw [HRL.out] at h
  exact h
 have HLE : Hid (∀ W, Below w1.heap.size w1 W → Calls Tryz.prog 55 #[.pointer (some ⟨d.rb, 0, none⟩), .int .i64 (c : Int), .int .i64 ((k : Int) + 1)] W (logPost W (extS (d.tds.map rootOf) c ((k : Int) + 1)))) := fun W hW => by
  have h := refExt_any d.rb d.now d.past d.roots d.nl d.pastL d.rl c ((k : Int) + 1) W ((HDK.out.lay.below HBq.out).below hW).ref (by rw [HRL.out]; simpa using h40)
  rw [HRL.out] at h
  exact h
 have H81 := incS_8 (d.tds.map rootOf) c ((k : Int) + 1)
 have H82 := extS_8 (d.tds.map rootOf) c ((k : Int) + 1)
 have HL1 : Hid _ := H81
 have HL2 : Hid _ := H82
 have HKP : Hid (∀ (W : World), Below w1.heap.size w1 W → ∀ (b q : Nat), b < w.heap.size → W.cell? ⟨b, q, none⟩ = w.cell? ⟨b, q, none⟩) := fun W hW b q hb => (HBq.out.trans (hW.mono HBq.out.size)).cell (p := ⟨b, q, none⟩) hb
 clear hold H81 H82
 generalize incS (d.tds.map rootOf) c ((k : Int) + 1) = L1 at *
 generalize extS (d.tds.map rootOf) c ((k : Int) + 1) = L2 at *
 generalize d.tds.length = N at *
 have hpb1 : d.pb < w1.heap.size := by omega
 have hg1 : g < w1.heap.size := by omega
 go_wp2_with fail
 refine (HPC.out _).mono ?_
 rintro v wz ⟨rfl, hwz⟩
 obtain rfl : w1 = wz := hwz.symm
 clear hwz
 go_wp2_with fail
 refine (HLI.out _ (Below.refl _ _)).mono ?_
 rintro v w2 hp2
 unfold logPost at hp2
 obtain ⟨v2, rfl, ho2, hb2⟩ := hp2
 have HO2 : Hid (w2.ownsRow w1.heap.size 36 8 (.slice v2.a v2.n v2.cap) L1.1.length (digsC L1.1)) := ho2
 have HB2 : Hid (Below w1.heap.size w1 w2) := hb2
 rw [← hb2.cell (p := ⟨d.pb, 1, none⟩) hpb1] at r1
 clear ho2 hb2
 go_wp2_with fail
 refine (HLE.out _ HB2.out).mono ?_
 rintro v w3 hp3
 unfold logPost at hp3
 obtain ⟨v3, rfl, ho3, hb3⟩ := hp3
 have HO3 : Hid (w3.ownsRow w1.heap.size 36 8 (.slice v3.a v3.n v3.cap) L2.1.length (digsC L2.1)) := owns_base ho3 (fun q hq => Nat.le_trans HB2.out.size (ho3.lt q hq).1)
 have HO23 : Hid (w3.ownsRow w1.heap.size 36 8 (.slice v2.a v2.n v2.cap) L1.1.length (digsC L1.1)) := owns_below HO2.out hb3
 have HNE : Hid (∀ q, (Value.slice v2.a v2.n v2.cap).ownBlock = some q → (Value.slice v3.a v3.n v3.cap).ownBlock = some q → False) := fun q h2 h3 => by
  have e2 := (HO2.out.lt q h2).2
  have e3 := (ho3.lt q h3).1
  omega
 have HB3 : Hid (Below w1.heap.size w1 w3) := HB2.out.trans (hb3.mono HB2.out.size)
 have keep3 : ∀ (b q : Nat), b < w1.heap.size → w3.cell? ⟨b, q, none⟩ = w1.cell? ⟨b, q, none⟩ := fun b q hb => HB3.out.cell (p := ⟨b, q, none⟩) hb
 have c1' := (keep3 _ 1 hW1).trans c1
 have c23' := (keep3 _ 23 hW1).trans c23
 clear ho3 hb3 HLI HLE HPC HPK c0 c3 r1 keep3 HO2
 rcases v2 with ⟨va, vn, vcap⟩
 rcases v3 with ⟨ua, un, ucap⟩
 rcases L1 with ⟨L1, E1⟩
 rcases L2 with ⟨L2, E2⟩
 dsimp only at *
 obtain rfl : vn = L1.length := (owns_cap (a := va) (n' := vn) (cap := vcap) HO23.out).1
 obtain rfl : un = L2.length := (owns_cap (a := ua) (n' := un) (cap := ucap) HO3.out).1
 have hL1 : L1.length ≤ 42 := HL1.out.2
 have hL2 : L2.length ≤ 42 := HL2.out.2
 have hplI : (pl.length : Int) ≤ 17592186044416 := by omega
 have hn2I : (L1.length : Int) ≤ 42 := by omega
 have hn3I : (L2.length : Int) ≤ 42 := by omega
 have H18 : Hid (∀ d ∈ L1, d.length = 8) := HL1.out.1
 have H28 : Hid (∀ d ∈ L2, d.length = 8) := HL2.out.1
 clear HL1 HL2
 have hpzI : ¬ (0 : Int) < pl.length := by omega
 have HM8 := H18
 have HN8 := H28
 have HOM := HO23
 have HON' := HO3
 have HBc := HB3
 clear c1 c23
 go_wp2_with fail
 refine (HDN.out _).mono ?_
 rintro v w6 ⟨rfl, hb6⟩
 have HB6 : Hid (Below w1.heap.size w1 w6) := HBc.out.trans (hb6.mono HBc.out.size)
 have HBw : Hid (Below w3.heap.size w3 w6) := hb6
 clear hb6
 unfold dV u8c
 simp only [List.map_cons, List.map_nil]
 have HBY : Hid (Below w1.heap.size w1 (w6.alloc (.cells #[.int .i64 0, Value.int .u8 (y0.toNat : Int), Value.int .u8 (y1.toNat : Int), Value.int .u8 (y2.toNat : Int), Value.int .u8 (y3.toNat : Int), Value.int .u8 (y4.toNat : Int), Value.int .u8 (y5.toNat : Int), Value.int .u8 (y6.toNat : Int), Value.int .u8 (y7.toNat : Int)] 98))) := HB6.out.alloc HB6.out.size _
 have r26 : (w6.alloc (.cells #[.int .i64 0, Value.int .u8 (y0.toNat : Int), Value.int .u8 (y1.toNat : Int), Value.int .u8 (y2.toNat : Int), Value.int .u8 (y3.toNat : Int), Value.int .u8 (y4.toNat : Int), Value.int .u8 (y5.toNat : Int), Value.int .u8 (y6.toNat : Int), Value.int .u8 (y7.toNat : Int)] 98)).cell? ⟨d.pb, 2, none⟩ = some (.slice (some ⟨g, 0, none⟩) N d.done.cap) := by
  rw [HBY.out.cell (p := ⟨d.pb, 2, none⟩) hpb1]; exact r2
 go_upto_if 196 with fail
 go_cut [] (fun wx => ∃ t0 t1 t2 t3 t4 t5 t6 t7 : UInt8, Hid (RowV wx w6.heap.size 98 [.int .i64 (c : Int), Value.int .u8 (t0.toNat : Int), Value.int .u8 (t1.toNat : Int), Value.int .u8 (t2.toNat : Int), Value.int .u8 (t3.toNat : Int), Value.int .u8 (t4.toNat : Int), Value.int .u8 (t5.toNat : Int), Value.int .u8 (t6.toNat : Int), Value.int .u8 (t7.toNat : Int)]) ∧ Hid (Below w3.heap.size w3 wx))
 case first =>
  by_cases hc0 : c = 0
  ·have hcz : ¬ (0 : Int) < c := by omega
   have HC0 : Hid (c = 0) := hc0
   clear hc0
   go_wp2
   go_meet
   exact ⟨y0, y1, y2, y3, y4, y5, y6, y7, by unfold Hid; rw [HC0.out]; exact RowV.new w6 98 [.int .i64 0, Value.int .u8 (y0.toNat : Int), Value.int .u8 (y1.toNat : Int), Value.int .u8 (y2.toNat : Int), Value.int .u8 (y3.toNat : Int), Value.int .u8 (y4.toNat : Int), Value.int .u8 (y5.toNat : Int), Value.int .u8 (y6.toNat : Int), Value.int .u8 (y7.toNat : Int)], HBw.out.alloc HBw.out.size _⟩
  ·have hcz : (0 : Int) < c := by omega
   obtain ⟨u0, u1, u2, u3, u4, u5, u6, u7, h00, hh0, hh1, hh2, hh3, hh4, hh5, hh6, hh7⟩ := HHC.out (by omega)
   have hcm : (c : Int) - 1 = ((c - 1 : Nat) : Int) := by omega
   have hcm2 : ((c - 1 : Nat) : Int) < N := by omega
   have hcN : (c : Int) ≤ 40 := by omega
   generalize (c - 1 : Nat) = cm at *
   have f0 : (w6.alloc (.cells #[.int .i64 0, Value.int .u8 (y0.toNat : Int), Value.int .u8 (y1.toNat : Int), Value.int .u8 (y2.toNat : Int), Value.int .u8 (y3.toNat : Int), Value.int .u8 (y4.toNat : Int), Value.int .u8 (y5.toNat : Int), Value.int .u8 (y6.toNat : Int), Value.int .u8 (y7.toNat : Int)] 98)).cell? ⟨g, cm * 18 + 9, none⟩ = _ := (HKP.out _ HBY.out _ _ hgw).trans h00
   have f1 : (w6.alloc (.cells #[.int .i64 0, Value.int .u8 (y0.toNat : Int), Value.int .u8 (y1.toNat : Int), Value.int .u8 (y2.toNat : Int), Value.int .u8 (y3.toNat : Int), Value.int .u8 (y4.toNat : Int), Value.int .u8 (y5.toNat : Int), Value.int .u8 (y6.toNat : Int), Value.int .u8 (y7.toNat : Int)] 98)).cell? ⟨g, cm * 18 + 9 + 1, none⟩ = _ := (HKP.out _ HBY.out _ _ hgw).trans hh0
   have f2 : (w6.alloc (.cells #[.int .i64 0, Value.int .u8 (y0.toNat : Int), Value.int .u8 (y1.toNat : Int), Value.int .u8 (y2.toNat : Int), Value.int .u8 (y3.toNat : Int), Value.int .u8 (y4.toNat : Int), Value.int .u8 (y5.toNat : Int), Value.int .u8 (y6.toNat : Int), Value.int .u8 (y7.toNat : Int)] 98)).cell? ⟨g, cm * 18 + 9 + 2, none⟩ = _ := (HKP.out _ HBY.out _ _ hgw).trans hh1
   have f3 : (w6.alloc (.cells #[.int .i64 0, Value.int .u8 (y0.toNat : Int), Value.int .u8 (y1.toNat : Int), Value.int .u8 (y2.toNat : Int), Value.int .u8 (y3.toNat : Int), Value.int .u8 (y4.toNat : Int), Value.int .u8 (y5.toNat : Int), Value.int .u8 (y6.toNat : Int), Value.int .u8 (y7.toNat : Int)] 98)).cell? ⟨g, cm * 18 + 9 + 3, none⟩ = _ := (HKP.out _ HBY.out _ _ hgw).trans hh2
   have f4 : (w6.alloc (.cells #[.int .i64 0, Value.int .u8 (y0.toNat : Int), Value.int .u8 (y1.toNat : Int), Value.int .u8 (y2.toNat : Int), Value.int .u8 (y3.toNat : Int), Value.int .u8 (y4.toNat : Int), Value.int .u8 (y5.toNat : Int), Value.int .u8 (y6.toNat : Int), Value.int .u8 (y7.toNat : Int)] 98)).cell? ⟨g, cm * 18 + 9 + 4, none⟩ = _ := (HKP.out _ HBY.out _ _ hgw).trans hh3
   have f5 : (w6.alloc (.cells #[.int .i64 0, Value.int .u8 (y0.toNat : Int), Value.int .u8 (y1.toNat : Int), Value.int .u8 (y2.toNat : Int), Value.int .u8 (y3.toNat : Int), Value.int .u8 (y4.toNat : Int), Value.int .u8 (y5.toNat : Int), Value.int .u8 (y6.toNat : Int), Value.int .u8 (y7.toNat : Int)] 98)).cell? ⟨g, cm * 18 + 9 + 5, none⟩ = _ := (HKP.out _ HBY.out _ _ hgw).trans hh4
   have f6 : (w6.alloc (.cells #[.int .i64 0, Value.int .u8 (y0.toNat : Int), Value.int .u8 (y1.toNat : Int), Value.int .u8 (y2.toNat : Int), Value.int .u8 (y3.toNat : Int), Value.int .u8 (y4.toNat : Int), Value.int .u8 (y5.toNat : Int), Value.int .u8 (y6.toNat : Int), Value.int .u8 (y7.toNat : Int)] 98)).cell? ⟨g, cm * 18 + 9 + 6, none⟩ = _ := (HKP.out _ HBY.out _ _ hgw).trans hh5
   have f7 : (w6.alloc (.cells #[.int .i64 0, Value.int .u8 (y0.toNat : Int), Value.int .u8 (y1.toNat : Int), Value.int .u8 (y2.toNat : Int), Value.int .u8 (y3.toNat : Int), Value.int .u8 (y4.toNat : Int), Value.int .u8 (y5.toNat : Int), Value.int .u8 (y6.toNat : Int), Value.int .u8 (y7.toNat : Int)] 98)).cell? ⟨g, cm * 18 + 9 + 7, none⟩ = _ := (HKP.out _ HBY.out _ _ hgw).trans hh6
   have f8 : (w6.alloc (.cells #[.int .i64 0, Value.int .u8 (y0.toNat : Int), Value.int .u8 (y1.toNat : Int), Value.int .u8 (y2.toNat : Int), Value.int .u8 (y3.toNat : Int), Value.int .u8 (y4.toNat : Int), Value.int .u8 (y5.toNat : Int), Value.int .u8 (y6.toNat : Int), Value.int .u8 (y7.toNat : Int)] 98)).cell? ⟨g, cm * 18 + 9 + 8, none⟩ = _ := (HKP.out _ HBY.out _ _ hgw).trans hh7
   go_wp2
   go_meet
   exact ⟨u0, u1, u2, u3, u4, u5, u6, u7, RowV.new w6 98 [.int .i64 (c : Int), Value.int .u8 (u0.toNat : Int), Value.int .u8 (u1.toNat : Int), Value.int .u8 (u2.toNat : Int), Value.int .u8 (u3.toNat : Int), Value.int .u8 (u4.toNat : Int), Value.int .u8 (u5.toNat : Int), Value.int .u8 (u6.toNat : Int), Value.int .u8 (u7.toNat : Int)], HBw.out.alloc HBw.out.size _⟩
 case rest =>
  obtain ⟨t0, t1, t2, t3, t4, t5, t6, t7, HT, HBx⟩ := hcut
  have HBC : Hid (Below w1.heap.size w1 wc) := HBc.out.trans (HBx.out.mono HBc.out.size)
  have r27 : wc.cell? ⟨d.pb, 2, none⟩ = some (.slice (some ⟨g, 0, none⟩) N d.done.cap) := by
   rw [HBC.out.cell (p := ⟨d.pb, 2, none⟩) hpb1]; exact r2
  have b0 : wc.cell? ⟨g, k * 18 + 9, none⟩ = some (.int .i64 ((k : Int) + 1)) := (HKP.out _ HBC.out _ _ hgw).trans q0'
  have b1 : wc.cell? ⟨g, k * 18 + 9 + 1, none⟩ = some (.int .u8 (s0.toNat : Int)) := (HKP.out _ HBC.out _ _ hgw).trans p0
  have b2 : wc.cell? ⟨g, k * 18 + 9 + 2, none⟩ = some (.int .u8 (s1.toNat : Int)) := (HKP.out _ HBC.out _ _ hgw).trans p1
  have b3 : wc.cell? ⟨g, k * 18 + 9 + 3, none⟩ = some (.int .u8 (s2.toNat : Int)) := (HKP.out _ HBC.out _ _ hgw).trans p2
  have b4 : wc.cell? ⟨g, k * 18 + 9 + 4, none⟩ = some (.int .u8 (s3.toNat : Int)) := (HKP.out _ HBC.out _ _ hgw).trans p3
  have b5 : wc.cell? ⟨g, k * 18 + 9 + 5, none⟩ = some (.int .u8 (s4.toNat : Int)) := (HKP.out _ HBC.out _ _ hgw).trans p4
  have b6 : wc.cell? ⟨g, k * 18 + 9 + 6, none⟩ = some (.int .u8 (s5.toNat : Int)) := (HKP.out _ HBC.out _ _ hgw).trans p5
  have b7 : wc.cell? ⟨g, k * 18 + 9 + 7, none⟩ = some (.int .u8 (s6.toNat : Int)) := (HKP.out _ HBC.out _ _ hgw).trans p6
  have b8 : wc.cell? ⟨g, k * 18 + 9 + 8, none⟩ = some (.int .u8 (s7.toNat : Int)) := (HKP.out _ HBC.out _ _ hgw).trans p7
  have a0 : wc.cell? ⟨g, c * 18 + 1, none⟩ = some (.int .u8 (x0.toNat : Int)) := (HKP.out _ HBC.out _ _ hgw).trans e0
  have a1 : wc.cell? ⟨g, c * 18 + 1 + 1, none⟩ = some (.int .u8 (x1.toNat : Int)) := (HKP.out _ HBC.out _ _ hgw).trans e1
  have a2 : wc.cell? ⟨g, c * 18 + 1 + 2, none⟩ = some (.int .u8 (x2.toNat : Int)) := (HKP.out _ HBC.out _ _ hgw).trans e2
  have a3 : wc.cell? ⟨g, c * 18 + 1 + 3, none⟩ = some (.int .u8 (x3.toNat : Int)) := (HKP.out _ HBC.out _ _ hgw).trans e3
  have a4 : wc.cell? ⟨g, c * 18 + 1 + 4, none⟩ = some (.int .u8 (x4.toNat : Int)) := (HKP.out _ HBC.out _ _ hgw).trans e4
  have a5 : wc.cell? ⟨g, c * 18 + 1 + 5, none⟩ = some (.int .u8 (x5.toNat : Int)) := (HKP.out _ HBC.out _ _ hgw).trans e5
  have a6 : wc.cell? ⟨g, c * 18 + 1 + 6, none⟩ = some (.int .u8 (x6.toNat : Int)) := (HKP.out _ HBC.out _ _ hgw).trans e6
  have a7 : wc.cell? ⟨g, c * 18 + 1 + 7, none⟩ = some (.int .u8 (x7.toNat : Int)) := (HKP.out _ HBC.out _ _ hgw).trans e7
  have HBD : Hid (Below w1.heap.size w1 wc.drew) := HBC.out.drew
  have HIN : Hid (Calls _ _ _ _ _) := in_any ((k : Int) + 1) c [s0, s1, s2, s3, s4, s5, s6, s7] [x0, x1, x2, x3, x4, x5, x6, x7] L1 va vcap wc.drew rfl rfl (by omega) ⟨(SlV.ofOwn (s := ⟨va, L1.length, vcap⟩) (owns_below HOM.out HBx.out.drew)).1, HM8.out⟩ (by omega) (by have := (owns_cap (a := va) (n' := L1.length) (cap := vcap) HOM.out).2.1; omega) (by have := (owns_cap (a := va) (n' := L1.length) (cap := vcap) HOM.out).2.2.1; unfold maxLen at this; omega) (by rcases (owns_cap (a := va) (n' := L1.length) (cap := vcap) HOM.out).2.2.2 with ⟨h1, h2, h3⟩ | ⟨gg, h1, _⟩; exact Or.inl ⟨h1, List.length_eq_zero_iff.1 (by omega), h3⟩; exact Or.inr ⟨_, h1⟩)
  unfold headV dV u8c at HIN
  simp only [List.map_cons, List.map_nil] at HIN
  have hcNI : (c : Int) < N := by omega
  have hc0I : (0 : Int) ≤ c := by omega
  go_wp2
  go_region_held3 (fun W' => W'.cell? ⟨d.pb, 2, none⟩ = some (.slice (some ⟨g, 0, none⟩) N d.done.cap) ∧ W'.cell? ⟨g, k * 18 + 9, none⟩ = some (.int .i64 ((k : Int) + 1)) ∧ W'.cell? ⟨g, k * 18 + 9 + 1, none⟩ = some (.int .u8 (s0.toNat : Int)) ∧ W'.cell? ⟨g, k * 18 + 9 + 2, none⟩ = some (.int .u8 (s1.toNat : Int)) ∧ W'.cell? ⟨g, k * 18 + 9 + 3, none⟩ = some (.int .u8 (s2.toNat : Int)) ∧ W'.cell? ⟨g, k * 18 + 9 + 4, none⟩ = some (.int .u8 (s3.toNat : Int)) ∧ W'.cell? ⟨g, k * 18 + 9 + 5, none⟩ = some (.int .u8 (s4.toNat : Int)) ∧ W'.cell? ⟨g, k * 18 + 9 + 6, none⟩ = some (.int .u8 (s5.toNat : Int)) ∧ W'.cell? ⟨g, k * 18 + 9 + 7, none⟩ = some (.int .u8 (s6.toNat : Int)) ∧ W'.cell? ⟨g, k * 18 + 9 + 8, none⟩ = some (.int .u8 (s7.toNat : Int)) ∧ W'.cell? ⟨g, c * 18 + 1, none⟩ = some (.int .u8 (x0.toNat : Int)) ∧ W'.cell? ⟨g, c * 18 + 1 + 1, none⟩ = some (.int .u8 (x1.toNat : Int)) ∧ W'.cell? ⟨g, c * 18 + 1 + 2, none⟩ = some (.int .u8 (x2.toNat : Int)) ∧ W'.cell? ⟨g, c * 18 + 1 + 3, none⟩ = some (.int .u8 (x3.toNat : Int)) ∧ W'.cell? ⟨g, c * 18 + 1 + 4, none⟩ = some (.int .u8 (x4.toNat : Int)) ∧ W'.cell? ⟨g, c * 18 + 1 + 5, none⟩ = some (.int .u8 (x5.toNat : Int)) ∧ W'.cell? ⟨g, c * 18 + 1 + 6, none⟩ = some (.int .u8 (x6.toNat : Int)) ∧ W'.cell? ⟨g, c * 18 + 1 + 7, none⟩ = some (.int .u8 (x7.toNat : Int))) (go_keep)
   ((go_at_call 38; refine HIN.out.mono ?_; rintro v w7 ⟨rfl, hb7⟩; have HB7 : Hid (Below w1.heap.size w1 w7) := HBD.out.trans (hb7.mono HBD.out.size); have nm : w7.cell? ⟨d.pb, 2, none⟩ = _ := (HKP.out _ HB7.out _ _ hpb).trans ((HKP.out _ HBC.out _ _ hpb).symm.trans r27); have n0 : w7.cell? ⟨g, k * 18 + 9, none⟩ = _ := (HKP.out _ HB7.out _ _ hgw).trans q0'; have n1 : w7.cell? ⟨g, k * 18 + 9 + 1, none⟩ = _ := (HKP.out _ HB7.out _ _ hgw).trans p0; have n2 : w7.cell? ⟨g, k * 18 + 9 + 2, none⟩ = _ := (HKP.out _ HB7.out _ _ hgw).trans p1; have n3 : w7.cell? ⟨g, k * 18 + 9 + 3, none⟩ = _ := (HKP.out _ HB7.out _ _ hgw).trans p2; have n4 : w7.cell? ⟨g, k * 18 + 9 + 4, none⟩ = _ := (HKP.out _ HB7.out _ _ hgw).trans p3; have n5 : w7.cell? ⟨g, k * 18 + 9 + 5, none⟩ = _ := (HKP.out _ HB7.out _ _ hgw).trans p4; have n6 : w7.cell? ⟨g, k * 18 + 9 + 6, none⟩ = _ := (HKP.out _ HB7.out _ _ hgw).trans p5; have n7 : w7.cell? ⟨g, k * 18 + 9 + 7, none⟩ = _ := (HKP.out _ HB7.out _ _ hgw).trans p6; have n8 : w7.cell? ⟨g, k * 18 + 9 + 8, none⟩ = _ := (HKP.out _ HB7.out _ _ hgw).trans p7; have o0 : w7.cell? ⟨g, c * 18 + 1, none⟩ = _ := (HKP.out _ HB7.out _ _ hgw).trans e0; have o1 : w7.cell? ⟨g, c * 18 + 1 + 1, none⟩ = _ := (HKP.out _ HB7.out _ _ hgw).trans e1; have o2 : w7.cell? ⟨g, c * 18 + 1 + 2, none⟩ = _ := (HKP.out _ HB7.out _ _ hgw).trans e2; have o3 : w7.cell? ⟨g, c * 18 + 1 + 3, none⟩ = _ := (HKP.out _ HB7.out _ _ hgw).trans e3; have o4 : w7.cell? ⟨g, c * 18 + 1 + 4, none⟩ = _ := (HKP.out _ HB7.out _ _ hgw).trans e4; have o5 : w7.cell? ⟨g, c * 18 + 1 + 5, none⟩ = _ := (HKP.out _ HB7.out _ _ hgw).trans e5; have o6 : w7.cell? ⟨g, c * 18 + 1 + 6, none⟩ = _ := (HKP.out _ HB7.out _ _ hgw).trans e6; have o7 : w7.cell? ⟨g, c * 18 + 1 + 7, none⟩ = _ := (HKP.out _ HB7.out _ _ hgw).trans e7))
  have hT7 : RowV w7 w6.heap.size 98 [.int .i64 (c : Int), Value.int .u8 (t0.toNat : Int), Value.int .u8 (t1.toNat : Int), Value.int .u8 (t2.toNat : Int), Value.int .u8 (t3.toNat : Int), Value.int .u8 (t4.toNat : Int), Value.int .u8 (t5.toNat : Int), Value.int .u8 (t6.toNat : Int), Value.int .u8 (t7.toNat : Int)] := RowV.past hb7 (by exact HT.out)
  have t0c : w7.cell? ⟨w6.heap.size, 0, none⟩ = some (.int .i64 (c : Int)) := RowV.cell? hT7 0
  have t1c : w7.cell? ⟨w6.heap.size, 1, none⟩ = some (.int .u8 (t0.toNat : Int)) := RowV.cell? hT7 1
  have t2c : w7.cell? ⟨w6.heap.size, 2, none⟩ = some (.int .u8 (t1.toNat : Int)) := RowV.cell? hT7 2
  have t3c : w7.cell? ⟨w6.heap.size, 3, none⟩ = some (.int .u8 (t2.toNat : Int)) := RowV.cell? hT7 3
  have t4c : w7.cell? ⟨w6.heap.size, 4, none⟩ = some (.int .u8 (t3.toNat : Int)) := RowV.cell? hT7 4
  have t5c : w7.cell? ⟨w6.heap.size, 5, none⟩ = some (.int .u8 (t4.toNat : Int)) := RowV.cell? hT7 5
  have t6c : w7.cell? ⟨w6.heap.size, 6, none⟩ = some (.int .u8 (t5.toNat : Int)) := RowV.cell? hT7 6
  have t7c : w7.cell? ⟨w6.heap.size, 7, none⟩ = some (.int .u8 (t6.toNat : Int)) := RowV.cell? hT7 7
  have t8c : w7.cell? ⟨w6.heap.size, 8, none⟩ = some (.int .u8 (t7.toNat : Int)) := RowV.cell? hT7 8
  have HW37 : Hid (Below _ _ w7.drew) := (HBx.out.drew.trans (hb7.mono HBx.out.size)).drew
  have HON : Hid (Calls _ _ _ _ _) := on_any c ((k : Int) + 1) [t0, t1, t2, t3, t4, t5, t6, t7] [s0, s1, s2, s3, s4, s5, s6, s7] L2 ua ucap w7.drew rfl rfl (by omega) ⟨(SlV.ofOwn (s := ⟨ua, L2.length, ucap⟩) (owns_below HON'.out HW37.out)).1, HN8.out⟩ (by omega) (by have := (owns_cap (a := ua) (n' := L2.length) (cap := ucap) HON'.out).2.1; omega) (by have := (owns_cap (a := ua) (n' := L2.length) (cap := ucap) HON'.out).2.2.1; unfold maxLen at this; omega) (by rcases (owns_cap (a := ua) (n' := L2.length) (cap := ucap) HON'.out).2.2.2 with ⟨h1, h2, h3⟩ | ⟨gg, h1, _⟩; exact Or.inl ⟨h1, List.length_eq_zero_iff.1 (by omega), h3⟩; exact Or.inr ⟨_, h1⟩)
  unfold headV u8c at HON
  simp only [List.map_cons, List.map_nil] at HON
  have hl6 : w6.heap.size < w7.heap.size := hT7.lt
  clear HIN b0 b1 b2 b3 b4 b5 b6 b7 b8 a0 o0 a1 o1 a2 o2 a3 o3 a4 o4 a5 o5 a6 o6 a7 o7
  go_wp2
  go_region_held3 (fun W' => W'.cell? ⟨d.pb, 2, none⟩ = some (.slice (some ⟨g, 0, none⟩) N d.done.cap) ∧ W'.cell? ⟨g, k * 18 + 9, none⟩ = some (.int .i64 ((k : Int) + 1)) ∧ W'.cell? ⟨g, k * 18 + 9 + 1, none⟩ = some (.int .u8 (s0.toNat : Int)) ∧ W'.cell? ⟨g, k * 18 + 9 + 2, none⟩ = some (.int .u8 (s1.toNat : Int)) ∧ W'.cell? ⟨g, k * 18 + 9 + 3, none⟩ = some (.int .u8 (s2.toNat : Int)) ∧ W'.cell? ⟨g, k * 18 + 9 + 4, none⟩ = some (.int .u8 (s3.toNat : Int)) ∧ W'.cell? ⟨g, k * 18 + 9 + 5, none⟩ = some (.int .u8 (s4.toNat : Int)) ∧ W'.cell? ⟨g, k * 18 + 9 + 6, none⟩ = some (.int .u8 (s5.toNat : Int)) ∧ W'.cell? ⟨g, k * 18 + 9 + 7, none⟩ = some (.int .u8 (s6.toNat : Int)) ∧ W'.cell? ⟨g, k * 18 + 9 + 8, none⟩ = some (.int .u8 (s7.toNat : Int)) ∧ W'.cell? ⟨w6.heap.size, 0, none⟩ = some (.int .i64 (c : Int)) ∧ W'.cell? ⟨w6.heap.size, 1, none⟩ = some (.int .u8 (t0.toNat : Int)) ∧ W'.cell? ⟨w6.heap.size, 2, none⟩ = some (.int .u8 (t1.toNat : Int)) ∧ W'.cell? ⟨w6.heap.size, 3, none⟩ = some (.int .u8 (t2.toNat : Int)) ∧ W'.cell? ⟨w6.heap.size, 4, none⟩ = some (.int .u8 (t3.toNat : Int)) ∧ W'.cell? ⟨w6.heap.size, 5, none⟩ = some (.int .u8 (t4.toNat : Int)) ∧ W'.cell? ⟨w6.heap.size, 6, none⟩ = some (.int .u8 (t5.toNat : Int)) ∧ W'.cell? ⟨w6.heap.size, 7, none⟩ = some (.int .u8 (t6.toNat : Int)) ∧ W'.cell? ⟨w6.heap.size, 8, none⟩ = some (.int .u8 (t7.toNat : Int))) (go_keep)
   ((go_at_call 39; refine HON.out.mono ?_; rintro v w8 ⟨rfl, hb8⟩; have HB8 : Hid (Below w1.heap.size w1 w8) := HB7.out.trans (by have hq := hb8.mono HB7.out.size; exact ⟨hq.os, hq.tape, hq.output, hq.size, hq.block⟩); have hT8 : RowV w8 w6.heap.size 98 [.int .i64 (c : Int), Value.int .u8 (t0.toNat : Int), Value.int .u8 (t1.toNat : Int), Value.int .u8 (t2.toNat : Int), Value.int .u8 (t3.toNat : Int), Value.int .u8 (t4.toNat : Int), Value.int .u8 (t5.toNat : Int), Value.int .u8 (t6.toNat : Int), Value.int .u8 (t7.toNat : Int)] := RowV.past hb8 (by exact hT7); have jm : w8.cell? ⟨d.pb, 2, none⟩ = _ := (HKP.out _ HB8.out _ _ hpb).trans ((HKP.out _ HBC.out _ _ hpb).symm.trans r27); have j0 : w8.cell? ⟨g, k * 18 + 9, none⟩ = _ := (HKP.out _ HB8.out _ _ hgw).trans q0'; have j1 : w8.cell? ⟨g, k * 18 + 9 + 1, none⟩ = _ := (HKP.out _ HB8.out _ _ hgw).trans p0; have j2 : w8.cell? ⟨g, k * 18 + 9 + 2, none⟩ = _ := (HKP.out _ HB8.out _ _ hgw).trans p1; have j3 : w8.cell? ⟨g, k * 18 + 9 + 3, none⟩ = _ := (HKP.out _ HB8.out _ _ hgw).trans p2; have j4 : w8.cell? ⟨g, k * 18 + 9 + 4, none⟩ = _ := (HKP.out _ HB8.out _ _ hgw).trans p3; have j5 : w8.cell? ⟨g, k * 18 + 9 + 5, none⟩ = _ := (HKP.out _ HB8.out _ _ hgw).trans p4; have j6 : w8.cell? ⟨g, k * 18 + 9 + 6, none⟩ = _ := (HKP.out _ HB8.out _ _ hgw).trans p5; have j7 : w8.cell? ⟨g, k * 18 + 9 + 7, none⟩ = _ := (HKP.out _ HB8.out _ _ hgw).trans p6; have j8 : w8.cell? ⟨g, k * 18 + 9 + 8, none⟩ = _ := (HKP.out _ HB8.out _ _ hgw).trans p7; have l0 : w8.cell? ⟨w6.heap.size, 0, none⟩ = some (.int .i64 (c : Int)) := RowV.cell? hT8 0; have l1 : w8.cell? ⟨w6.heap.size, 1, none⟩ = some (.int .u8 (t0.toNat : Int)) := RowV.cell? hT8 1; have l2 : w8.cell? ⟨w6.heap.size, 2, none⟩ = some (.int .u8 (t1.toNat : Int)) := RowV.cell? hT8 2; have l3 : w8.cell? ⟨w6.heap.size, 3, none⟩ = some (.int .u8 (t2.toNat : Int)) := RowV.cell? hT8 3; have l4 : w8.cell? ⟨w6.heap.size, 4, none⟩ = some (.int .u8 (t3.toNat : Int)) := RowV.cell? hT8 4; have l5 : w8.cell? ⟨w6.heap.size, 5, none⟩ = some (.int .u8 (t4.toNat : Int)) := RowV.cell? hT8 5; have l6 : w8.cell? ⟨w6.heap.size, 6, none⟩ = some (.int .u8 (t5.toNat : Int)) := RowV.cell? hT8 6; have l7 : w8.cell? ⟨w6.heap.size, 7, none⟩ = some (.int .u8 (t6.toNat : Int)) := RowV.cell? hT8 7; have l8 : w8.cell? ⟨w6.heap.size, 8, none⟩ = some (.int .u8 (t7.toNat : Int)) := RowV.cell? hT8 8))
  have HBF : Hid (Below w.heap.size w w8) := HBq.out.trans (HB8.out.mono HBq.out.size)
  go_wp2
  go_ret
  exact ⟨rfl, B, HH.out.below HBF.out, by omega, by omega, by omega, HBF.out.mono (Nat.le_of_lt hwb)⟩
end Go.Proofs.YtekegfbjbainhaaGreat
