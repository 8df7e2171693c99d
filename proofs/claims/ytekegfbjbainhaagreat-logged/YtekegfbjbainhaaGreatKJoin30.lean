import Derived.Test.YtekegfbjbainhaaGreatKJoin29
import Derived.Test.YtekegfbjbainhaaGreatKJoin26
import Derived.Laws.CopyRow
set_option linter.unusedVariables false
set_option linter.unusedSimpArgs false

namespace Go.Proofs.YtekegfbjbainhaaGreat
open Go.RowKit
set_option maxRecDepth 100000 in
set_option maxHeartbeats 1000000 in
theorem step_noneQ {B : BkV} (cs : List Value) (kk : Int) (wb : Nat) (ps : SlR) (w : World) (h : LawAt B w wb ps []) (k0 : cs[0]? = some (.int .i64 kk)) (hk : kk = 6 ∨ kk = 7 ∨ kk = 8 ∨ kk = 9) :
  Calls Tryz.prog 12 #[.pointer (some ⟨wb, 0, none⟩), .agg cs.toArray] w fun e w' => e = .returned (.bool true) ∧ Below w.heap.size w w' := by
 have hwb : wb < w.heap.size := RowV.lt h.row
 have hpn : ps.n = 0 := (owns_cap (a := ps.a) (n' := ps.n) (cap := ps.cap) h.own).1
 have r0 : w.cell? ⟨wb, 0, none⟩ = some (.slice ps.a 0 ps.cap) := by
  have : w.cell? ⟨wb, 0, none⟩ = some (.slice ps.a ps.n ps.cap) := RowV.cell h.row 0 (by simp)
  rw [hpn] at this; exact this
 clear hpn h
 have HB : Hid (Below w.heap.size w (w.alloc (.cells cs.toArray 43))) := (Below.refl _ _).alloc (Nat.le_refl _) _
 rcases hk with rfl | rfl | rfl | rfl
 all_goals
  go_enter Tryz.func12, Tryz.ntmps12
  go_wp2
  go_ret
  exact ⟨rfl, HB.out⟩
set_option maxRecDepth 100000 in
set_option maxHeartbeats 1000000 in
theorem step_prv (cs : List Value) (kk oa : Int) (a b c : Nat) (wb : Nat) (ps : SlR) (ds : List PairD) (B : BookD) (w : World) (hh : LawK w wb ps ds B) (hlen : cs.length = 24) (k0 : cs[0]? = some (.int .i64 kk)) (hk : kk = 6 ∨ kk = 7 ∨ kk = 8 ∨ kk = 9) (k1 : cs[1]? = some (.int .i64 oa)) (ha1 : -9223372036854775808 ≤ oa) (ha2 : oa ≤ 9223372036854775807) (hn : 1 ≤ ds.length)
  (hst : ∀ (d : PairD) (W : World), LawK W wb ps ds B → d ∈ ds → Below w.heap.size w W → Calls Tryz.prog 22 #[.pointer (some ⟨wb, 0, none⟩), .agg cs.toArray, .pointer (some ⟨d.pb, 0, none⟩)] W (StepK a b c wb ps ds B W)) :
  Calls Tryz.prog 12 #[.pointer (some ⟨wb, 0, none⟩), .agg cs.toArray] w (StepK a b c wb ps ds B w) := by
 have h := hh.law
 obtain ⟨d, hd1, hd2⟩ := Tryz.rowOp
 have hsz : Hid ((Tryz.prog.info? 43).map (·.size) = some cs.length) := by rw [hlen]; exact Tryz.sizeOp
 have HD : Hid (Tryz.prog.underlying 43 = some d) := hd1
 have HD2 : Hid (d.isRow = true) := hd2
 have HL : Hid (cs.length = 24) := hlen
 have HB : Hid (Below w.heap.size w (w.alloc (.cells cs.toArray 43))) := (Below.refl _ _).alloc (Nat.le_refl _) _
 have hwb : wb < w.heap.size := RowV.lt h.row
 have r0 : w.cell? ⟨wb, 0, none⟩ = some (.slice ps.a ps.n ps.cap) := RowV.cell h.row 0 (by simp)
 obtain ⟨hpn, hpc, hpm, hpa⟩ := owns_cap (a := ps.a) (n' := ps.n) (cap := ps.cap) h.own
 obtain ⟨g, hg, hglt⟩ : ∃ g, ps.a = some ⟨g, 0, none⟩ ∧ g < w.heap.size := by
  rcases hpa with ⟨_, h0, _⟩ | ⟨g, hg, _, hlt⟩
  ·omega
  ·exact ⟨g, hg, hlt⟩
 rw [hg] at r0
 have hpm' : ps.n ≤ maxLen := by omega
 obtain ⟨dd, hdd, hcd⟩ : ∃ d, ds[pickN oa ps.n]? = some d ∧ w.cell? ⟨g, pickN oa ps.n, none⟩ = some (.pointer (some ⟨d.pb, 0, none⟩)) := by
  have hi' : pickN oa ps.n < ds.length := by have := pickN_lt oa ps.n (by omega); omega
  refine ⟨ds[pickN oa ps.n], List.getElem?_eq_getElem hi', ?_⟩
  have hsl : SlV w ps.a (ds.map (fun d => ptrV d.pb)) := (SlV.ofOwn h.own).1
  obtain ⟨b, o, e, _, hc⟩ := hsl (pickN oa ps.n) (by simpa using hi')
  rw [hg] at e; cases e
  rw [Nat.zero_add] at hc
  rw [hc]; simp [ptrV]
 have HDD : Hid (dd ∈ ds) := List.mem_of_getElem? hdd
 have hiI : (pickN oa ps.n : Int) < ps.n := by have := pickN_lt oa ps.n (by omega); omega
 have HPK : Hid (∀ W, Calls Tryz.prog 20 #[.int .i64 oa, .int .i64 (ps.n : Int)] W fun e w' => e = .returned (.int .i64 (pickN oa ps.n : Int)) ∧ w' = W) := fun W => pick_any oa ps.n W ha1 ha2 (by omega) hpm'
 generalize pickN oa ps.n = i at *
 have hn1 : 1 ≤ ps.n := by omega
 have hpmI : (ps.n : Int) ≤ 9223372036854775807 := by unfold maxLen at hpm; omega
 have hn0 : ((ps.n : Int) == 0) = false := by simp; omega
 have HH : Hid (LawK w wb ps ds B) := hh
 have HST : Hid (∀ (d : PairD) (W : World), LawK W wb ps ds B → d ∈ ds → Below w.heap.size w W → Calls Tryz.prog 22 #[.pointer (some ⟨wb, 0, none⟩), .agg cs.toArray, .pointer (some ⟨d.pb, 0, none⟩)] W (StepK a b c wb ps ds B W)) := hst
 clear hd1 hd2 hlen hpn hpc hpm hpa hst hn hdd hpm' hh h
 rcases hk with rfl | rfl | rfl | rfl
 all_goals
  go_enter Tryz.func12, Tryz.ntmps12
  go_wp2
  go_quiet (first | (go_at_call 20; exact Calls.quiet_of_same (HPK.out _)))
  have HBq : Hid (Below w.heap.size w ((w.alloc (.cells cs.toArray 43)).drewN nq)) := by
   have hb := HB.out
   exact ⟨hb.os, hb.tape, hb.output, hb.size, hb.block⟩
  go_wp2_with (refine wpList_load_mid (by rfl) 43 (.tmp 3) (by rfl) w.heap.size 0 (by rfl) cs d (by exact rangeAt_new w cs 43) HD.out HD2.out hsz.out ?_)
  refine (HST.out dd _ (HH.out.below HBq.out) HDD.out HBq.out).mono ?_
  rintro e w1 hs1
  obtain ⟨rfl, hs1⟩ : e = .returned (.bool true) ∧ StepK a b c wb ps ds B w e w1 := ⟨hs1.1, StepK.behind HBq.out (Nat.le_of_lt hwb) hs1⟩
  have HS1 : Hid (StepK a b c wb ps ds B w (.returned (.bool true)) w1) := hs1
  clear hs1
  go_wp2
  go_ret
  exact HS1.out
theorem kInv_log (mr mg mh : Nat) (w wr : World) (q : Nat) (o : OpR) (hI : kInv mr mg mh w q wr) (hq : CapQ mr mg mh q) (h1g : 1 ≤ mg) (hk : o.kind = 8 ∨ o.kind = 9) (ha1 : -9223372036854775808 ≤ o.a) (ha2 : o.a ≤ 9223372036854775807) :
  Calls Tryz.prog 12 #[.pointer (some ⟨w.heap.size, 0, none⟩), .agg o.cells.toArray] wr fun e w' => e = .returned (.bool true) ∧ kInv mr mg mh w (q + 1) w' := by
 obtain ⟨h1, ps, ds, B, h2, h3, h4, h5, h6, h7⟩ := hI
 have e1 : (q + 1) * mr = q * mr + mr := Nat.succ_mul q mr
 have e2 : (q + 1) * mg = q * mg + mg := Nat.succ_mul q mg
 have e3 : (q + 1) * mh = q * mh + mh := Nat.succ_mul q mh
 obtain ⟨q1, q2, q3⟩ := id hq
 have hk' : o.kind = 6 ∨ o.kind = 7 ∨ o.kind = 8 ∨ o.kind = 9 := by omega
 by_cases hn : ds.length = 0
 ·have hnil : ds = [] := List.length_eq_zero_iff.1 hn
  subst hnil
  refine (step_noneQ o.cells o.kind w.heap.size ps wr h2.law rfl hk').mono ?_
  rintro e w' ⟨rfl, hb⟩
  exact ⟨rfl, h1.trans (hb.mono h1.size), ps, [], B, h2.below hb, by omega, by omega, by omega, by omega, h7⟩
 ·refine (step_prv o.cells o.kind o.a 0 1 0 w.heap.size ps ds B wr h2 rfl rfl hk' rfl ha1 ha2 (by omega) (fun d W hW hd hbW => ?_)).mono ?_
  ·rcases hk with hk | hk
   ·exact proved_incl o.cells o.b o.c w.heap.size ps ds B d W hW hd (by rw [← hk]; rfl) rfl rfl (by omega)
   ·exact proved_ext o.cells o.b o.c w.heap.size ps ds B d W hW hd (by rw [← hk]; rfl) rfl rfl (by omega)
  ·intro e w' hs'
   exact kInv.next h1 h3 h4 h5 h6 hs' (Nat.zero_le _) h1g (Nat.zero_le _) hq
end Go.Proofs.YtekegfbjbainhaaGreat


namespace Go.Proofs.YtekegfbjbainhaaGreat
open Go.RowKit
def LiesOk : Prop := ∀ (o : OpR) (wb : Nat) (ps : SlR) (ds : List PairD) (B : BookD) (d : PairD) (W : World), LawK W wb ps ds B → d ∈ ds → 0 < d.tds.length → o.kind = 16 → (-9223372036854775808 ≤ o.a ∧ o.a ≤ 9223372036854775807) → (-9223372036854775808 ≤ o.b ∧ o.b ≤ 9223372036854775807) → (-9223372036854775808 ≤ o.c ∧ o.c ≤ 9223372036854775807) → PathAt W o.path →
 Calls Tryz.prog 23 #[.pointer (some ⟨wb, 0, none⟩), .agg o.cells.toArray, .pointer (some ⟨d.pb, 0, none⟩)] W (StepK 0 0 0 wb ps ds B W)
theorem kInv_lies (hli : LiesOk) (mr mg mh : Nat) (w wr : World) (q : Nat) (o : OpR) (hI : kInv mr mg mh w q wr) (hq : CapQ mr mg mh q) (hk : o.kind = 16) (ha : -9223372036854775808 ≤ o.a ∧ o.a ≤ 9223372036854775807) (hb : -9223372036854775808 ≤ o.b ∧ o.b ≤ 9223372036854775807) (hc : -9223372036854775808 ≤ o.c ∧ o.c ≤ 9223372036854775807) (hp : PathAt w o.path) :
  Calls Tryz.prog 12 #[.pointer (some ⟨w.heap.size, 0, none⟩), .agg o.cells.toArray] wr fun e w' => e = .returned (.bool true) ∧ kInv mr mg mh w (q + 1) w' := by
 obtain ⟨h1, ps, ds, B, h2, h3, h4, h5, h6, h7⟩ := hI
 have e1 : (q + 1) * mr = q * mr + mr := Nat.succ_mul q mr
 have e2 : (q + 1) * mg = q * mg + mg := Nat.succ_mul q mg
 have e3 : (q + 1) * mh = q * mh + mh := Nat.succ_mul q mh
 have hk' : o.kind = 14 ∨ o.kind = 15 ∨ o.kind = 16 := by omega
 by_cases hn : ds.length = 0
 ·have hnil : ds = [] := List.length_eq_zero_iff.1 hn
  subst hnil
  refine (step_noneA o.cells o.kind w.heap.size ps wr h2.law rfl hk').mono ?_
  rintro e w' ⟨rfl, hb⟩
  exact ⟨rfl, h1.trans (hb.mono h1.size), ps, [], B, h2.below hb, by omega, by omega, by omega, by omega, h7⟩
 ·refine (step_ask o.cells o.kind o.a 0 0 0 w.heap.size ps ds B wr h2 rfl rfl hk' rfl ha.1 ha.2 (by omega) (fun d W hW hd hbW => ?_)).mono ?_
  ·by_cases h0 : d.tds.length = 0
   ·exact asked_none o.cells w.heap.size ps ds B d W hW hd h0
   ·exact hli o w.heap.size ps ds B d W hW hd (by omega) hk ha hb hc ((hp.below h1).below hbW)
  ·intro e w' hs'
   exact kInv.next h1 h3 h4 h5 h6 hs' (Nat.zero_le _) (Nat.zero_le _) (Nat.zero_le _) hq
def OkL (w : World) (o : OpR) : Prop := (-9223372036854775808 ≤ o.a ∧ o.a ≤ 9223372036854775807) ∧ (-9223372036854775808 ≤ o.b ∧ o.b ≤ 9223372036854775807) ∧ (-9223372036854775808 ≤ o.c ∧ o.c ≤ 9223372036854775807) ∧ PathAt w o.path
set_option maxRecDepth 100000 in
set_option maxHeartbeats 800000 in
theorem logged_law (hli : LiesOk) (a : Option Addr) (n cap : Nat) (f : Nat → OpR) (w : World) (hn : n ≤ 1172812402926) (hs : ScriptAt w a n f) (ho : ∀ i, i < n → OkL w (f i))
  (hst : ∀ o : OpR, (o.kind = 3 ∨ o.kind = 4 ∨ o.kind = 5) → o.s.size ≤ 140737488351232 → o.t.size ≤ 140737488351232 → StoredOk o.cells) :
  Calls Tryz.prog 7 #[.slice a n cap] w fun e w' => e = .returned (.bool true) ∧ Below w.heap.size w w' := by
 have HN : Hid (n ≤ 1172812402926) := hn
 have HLI : Hid LiesOk := hli
 clear hn hli
 go_enter Tryz.func7, Tryz.ntmps7
 go_wp2_with fail
 obtain ⟨W, hWe⟩ : ∃ W, W = w.alloc (Obj.cells #[Value.int IntKind.i64 2, Value.int IntKind.i64 3, Value.int IntKind.i64 4, Value.int IntKind.i64 5, Value.int IntKind.i64 8, Value.int IntKind.i64 9, Value.int IntKind.i64 12, Value.int IntKind.i64 13, Value.int IntKind.i64 16] 3) := ⟨_, rfl⟩
 have hs' : ScriptAt W a n f := fun i hi => by
  obtain ⟨b, o, ha, hb, hr, h1, h2, h3⟩ := hs i hi
  rw [hWe]
  exact ⟨b, o, ha, by simp; omega, fun j v hv => by rw [World.cell?_alloc_lt _ _ _ (by exact hb)]; exact hr j v hv, h1, h2, h3⟩
 have hk' : KindsAt W w.heap.size [2, 3, 4, 5, 8, 9, 12, 13, 16] := fun j hj => by
  rw [hWe]
  have hj4 : j < 9 := by simpa using hj
  match j, hj4 with
  | 0, _ => simp [go_sem]
  | 1, _ => simp [go_sem]
  | 2, _ => simp [go_sem]
  | 3, _ => simp [go_sem]
  | 4, _ => simp [go_sem]
  | 5, _ => simp [go_sem]
  | 6, _ => simp [go_sem]
  | 7, _ => simp [go_sem]
  | 8, _ => simp [go_sem]
 have hwW : w.heap.size < W.heap.size := by rw [hWe]; simp
 have HBW : Hid (Below w.heap.size w W) := by rw [hWe]; exact (Below.refl _ _).alloc (Nat.le_refl _) _
 have ho' : ∀ i, i < n → OkL W (f i) := fun i hi => ⟨(ho i hi).1, (ho i hi).2.1, (ho i hi).2.2.1, (ho i hi).2.2.2.below HBW.out⟩
 rw [← hWe]
 clear hWe
 refine (plays_n a n cap w.heap.size 2 [3, 4, 5, 8, 9, 12, 13, 16] f W (kInv 0 1 0 W) (OkL W) (by have := HN.out; unfold maxLen; omega) hs' ho' hwW (by simp [maxLen]) hk'
  (kInv_start 0 1 0 W) (fun q wr h => h.1) (fun q wr m h => h.drew m) (fun q wr h => h.mono) ?_ ?_ ?_).mono ?_
 ·intro wr hI
  exact kInv_new 0 1 0 W wr 0 _ hI rfl rfl (by omega)
 ·intro q wr o hq hI hoo hk h1 h2 _
  have hcq : CapQ 0 1 0 q := ⟨by omega, by have := HN.out; omega, by omega⟩
  have hk' : o.kind = 2 ∨ o.kind = 3 ∨ o.kind = 4 ∨ o.kind = 5 ∨ o.kind = 8 ∨ o.kind = 9 ∨ o.kind = 12 ∨ o.kind = 13 ∨ o.kind = 16 := by simpa using hk
  obtain ⟨⟨a1, a2⟩, ⟨b1, b2⟩, ⟨c1, c2⟩, hpt⟩ := hoo
  rcases hk' with hk' | hk' | hk' | hk' | hk' | hk' | hk' | hk' | hk'
  ·exact kInv_new 0 1 0 W wr q o.cells hI rfl (by rw [← hk']; rfl) (by have := HN.out; omega)
  ·exact kInv_old 0 1 0 W wr q o.cells o.kind o.a hI rfl rfl (Or.inl hk') rfl a1 a2 (hst o (Or.inl hk') h1 h2)
  ·exact kInv_old 0 1 0 W wr q o.cells o.kind o.a hI rfl rfl (Or.inr (Or.inl hk')) rfl a1 a2 (hst o (Or.inr (Or.inl hk')) h1 h2)
  ·exact kInv_old 0 1 0 W wr q o.cells o.kind o.a hI rfl rfl (Or.inr (Or.inr hk')) rfl a1 a2 (hst o (Or.inr (Or.inr hk')) h1 h2)
  ·exact kInv_log 0 1 0 W wr q o hI hcq (by omega) (Or.inl hk') a1 a2
  ·exact kInv_log 0 1 0 W wr q o hI hcq (by omega) (Or.inr hk') a1 a2
  ·exact kInv_path 0 1 0 W wr q o hI hcq (Or.inl hk') b2 c2 hpt
  ·exact kInv_path 0 1 0 W wr q o hI hcq (Or.inr hk') b2 c2 hpt
  ·exact kInv_lies HLI.out 0 1 0 W wr q o hI hcq hk' ⟨a1, a2⟩ ⟨b1, b2⟩ ⟨c1, c2⟩ hpt
 ·intro q wr hI
  exact kInv_looks 0 1 0 W wr q hI
 ·rintro e w1 ⟨rfl, q, hI⟩
  have HB1 : Hid (Below w.heap.size w w1) := HBW.out.trans (hI.1.mono HBW.out.size)
  clear hI hs' hk' hs ho hst ho'
  go_wp2
  go_ret
  exact ⟨rfl, HB1.out⟩
end Go.Proofs.YtekegfbjbainhaaGreat


namespace Go.Proofs.YtekegfbjbainhaaGreat
open Go.RowKit
theorem list_set8 (l : List Value) (i : Nat) (v0 v1 v2 v3 v4 v5 v6 v7 : Value) (h : i + 8 ≤ l.length) :
  (((((((l.set i v0).set (i + 1) v1).set (i + 2) v2).set (i + 3) v3).set (i + 4) v4).set (i + 5) v5).set (i + 6) v6).set (i + 7) v7 = l.take i ++ [v0, v1, v2, v3, v4, v5, v6, v7] ++ l.drop (i + 8) := by
 have key : ∀ (m : List Value) (k : Nat) (v : Value) (rest : List Value), k + (rest.length + 1) ≤ m.length → (m.set k v).take (k + 1) ++ rest ++ (m.set k v).drop (k + 1 + rest.length) = m.take k ++ (v :: rest) ++ m.drop (k + (rest.length + 1)) := list_seg_step
 have e8 : ∀ m : List Value, m = m.take (i + 8) ++ [] ++ m.drop (i + 8) := fun m => by simp
 have s7 : ((((((((l.set (i) v0).set (i + 1) v1).set (i + 2) v2).set (i + 3) v3).set (i + 4) v4).set (i + 5) v5).set (i + 6) v6).set (i + 7) v7).take (i + 8) ++ [] ++ ((((((((l.set (i) v0).set (i + 1) v1).set (i + 2) v2).set (i + 3) v3).set (i + 4) v4).set (i + 5) v5).set (i + 6) v6).set (i + 7) v7).drop (i + 8) = (((((((l.set (i) v0).set (i + 1) v1).set (i + 2) v2).set (i + 3) v3).set (i + 4) v4).set (i + 5) v5).set (i + 6) v6).take (i + 7) ++ [v7] ++ (((((((l.set (i) v0).set (i + 1) v1).set (i + 2) v2).set (i + 3) v3).set (i + 4) v4).set (i + 5) v5).set (i + 6) v6).drop (i + 8) := key (((((((l.set (i) v0).set (i + 1) v1).set (i + 2) v2).set (i + 3) v3).set (i + 4) v4).set (i + 5) v5).set (i + 6) v6) (i + 7) v7 [] (by simp; omega)
 have s6 : (((((((l.set (i) v0).set (i + 1) v1).set (i + 2) v2).set (i + 3) v3).set (i + 4) v4).set (i + 5) v5).set (i + 6) v6).take (i + 7) ++ [v7] ++ (((((((l.set (i) v0).set (i + 1) v1).set (i + 2) v2).set (i + 3) v3).set (i + 4) v4).set (i + 5) v5).set (i + 6) v6).drop (i + 8) = ((((((l.set (i) v0).set (i + 1) v1).set (i + 2) v2).set (i + 3) v3).set (i + 4) v4).set (i + 5) v5).take (i + 6) ++ [v6, v7] ++ ((((((l.set (i) v0).set (i + 1) v1).set (i + 2) v2).set (i + 3) v3).set (i + 4) v4).set (i + 5) v5).drop (i + 8) := key ((((((l.set (i) v0).set (i + 1) v1).set (i + 2) v2).set (i + 3) v3).set (i + 4) v4).set (i + 5) v5) (i + 6) v6 [v7] (by simp; omega)
 have s5 : ((((((l.set (i) v0).set (i + 1) v1).set (i + 2) v2).set (i + 3) v3).set (i + 4) v4).set (i + 5) v5).take (i + 6) ++ [v6, v7] ++ ((((((l.set (i) v0).set (i + 1) v1).set (i + 2) v2).set (i + 3) v3).set (i + 4) v4).set (i + 5) v5).drop (i + 8) = (((((l.set (i) v0).set (i + 1) v1).set (i + 2) v2).set (i + 3) v3).set (i + 4) v4).take (i + 5) ++ [v5, v6, v7] ++ (((((l.set (i) v0).set (i + 1) v1).set (i + 2) v2).set (i + 3) v3).set (i + 4) v4).drop (i + 8) := key (((((l.set (i) v0).set (i + 1) v1).set (i + 2) v2).set (i + 3) v3).set (i + 4) v4) (i + 5) v5 [v6, v7] (by simp; omega)
 have s4 : (((((l.set (i) v0).set (i + 1) v1).set (i + 2) v2).set (i + 3) v3).set (i + 4) v4).take (i + 5) ++ [v5, v6, v7] ++ (((((l.set (i) v0).set (i + 1) v1).set (i + 2) v2).set (i + 3) v3).set (i + 4) v4).drop (i + 8) = ((((l.set (i) v0).set (i + 1) v1).set (i + 2) v2).set (i + 3) v3).take (i + 4) ++ [v4, v5, v6, v7] ++ ((((l.set (i) v0).set (i + 1) v1).set (i + 2) v2).set (i + 3) v3).drop (i + 8) := key ((((l.set (i) v0).set (i + 1) v1).set (i + 2) v2).set (i + 3) v3) (i + 4) v4 [v5, v6, v7] (by simp; omega)
 have s3 : ((((l.set (i) v0).set (i + 1) v1).set (i + 2) v2).set (i + 3) v3).take (i + 4) ++ [v4, v5, v6, v7] ++ ((((l.set (i) v0).set (i + 1) v1).set (i + 2) v2).set (i + 3) v3).drop (i + 8) = (((l.set (i) v0).set (i + 1) v1).set (i + 2) v2).take (i + 3) ++ [v3, v4, v5, v6, v7] ++ (((l.set (i) v0).set (i + 1) v1).set (i + 2) v2).drop (i + 8) := key (((l.set (i) v0).set (i + 1) v1).set (i + 2) v2) (i + 3) v3 [v4, v5, v6, v7] (by simp; omega)
 have s2 : (((l.set (i) v0).set (i + 1) v1).set (i + 2) v2).take (i + 3) ++ [v3, v4, v5, v6, v7] ++ (((l.set (i) v0).set (i + 1) v1).set (i + 2) v2).drop (i + 8) = ((l.set (i) v0).set (i + 1) v1).take (i + 2) ++ [v2, v3, v4, v5, v6, v7] ++ ((l.set (i) v0).set (i + 1) v1).drop (i + 8) := key ((l.set (i) v0).set (i + 1) v1) (i + 2) v2 [v3, v4, v5, v6, v7] (by simp; omega)
 have s1 : ((l.set (i) v0).set (i + 1) v1).take (i + 2) ++ [v2, v3, v4, v5, v6, v7] ++ ((l.set (i) v0).set (i + 1) v1).drop (i + 8) = (l.set (i) v0).take (i + 1) ++ [v1, v2, v3, v4, v5, v6, v7] ++ (l.set (i) v0).drop (i + 8) := key (l.set (i) v0) (i + 1) v1 [v2, v3, v4, v5, v6, v7] (by simp; omega)
 have s0 : (l.set (i) v0).take (i + 1) ++ [v1, v2, v3, v4, v5, v6, v7] ++ (l.set (i) v0).drop (i + 8) = l.take (i) ++ [v0, v1, v2, v3, v4, v5, v6, v7] ++ l.drop (i + 8) := key l (i) v0 [v1, v2, v3, v4, v5, v6, v7] (by simp; omega)
 exact (e8 ((((((((l.set (i) v0).set (i + 1) v1).set (i + 2) v2).set (i + 3) v3).set (i + 4) v4).set (i + 5) v5).set (i + 6) v6).set (i + 7) v7)).trans (s7.trans (s6.trans (s5.trans (s4.trans (s3.trans (s2.trans (s1.trans s0)))))))
theorem digsC_put (L : List (List UInt8)) (h : ∀ d ∈ L, d.length = 8) (i : Nat) (hi : i < L.length) (x : List UInt8) : (digsC L).take (i * 8) ++ x.map u8c ++ (digsC L).drop (i * 8 + 8) = digsC (L.set i x) := by
 rw [digsC_take L h i (by omega), show i * 8 + 8 = (i + 1) * 8 by omega, digsC_drop L h (i + 1) (by omega), List.set_eq_take_append_cons_drop, if_pos hi]
 unfold digsC
 rw [List.flatMap_append, List.flatMap_cons, List.append_assoc]
theorem own_put8 {W : World} {base n g cap i : Nat} {L : List (List UInt8)} {z0 z1 z2 z3 z4 z5 z6 z7 : UInt8} (h : W.ownsRow base 36 8 (.slice (some ⟨g, 0, none⟩) n cap) n (digsC L)) (hn : n = L.length) (h8 : ∀ d ∈ L, d.length = 8) (hi : i < L.length) :
  ((((((((W.setCell ⟨g, i * 8, none⟩ (Value.int .u8 (z0.toNat : Int))).setCell ⟨g, i * 8 + 1, none⟩ (Value.int .u8 (z1.toNat : Int))).setCell ⟨g, i * 8 + 2, none⟩ (Value.int .u8 (z2.toNat : Int))).setCell ⟨g, i * 8 + 3, none⟩ (Value.int .u8 (z3.toNat : Int))).setCell ⟨g, i * 8 + 4, none⟩ (Value.int .u8 (z4.toNat : Int))).setCell ⟨g, i * 8 + 5, none⟩ (Value.int .u8 (z5.toNat : Int))).setCell ⟨g, i * 8 + 6, none⟩ (Value.int .u8 (z6.toNat : Int))).setCell ⟨g, i * 8 + 7, none⟩ (Value.int .u8 (z7.toNat : Int))).ownsRow base 36 8 (.slice (some ⟨g, 0, none⟩) n cap) n (digsC (L.set i [z0, z1, z2, z3, z4, z5, z6, z7])) ∧ Frame (fun q => q = g) W ((((((((W.setCell ⟨g, i * 8, none⟩ (Value.int .u8 (z0.toNat : Int))).setCell ⟨g, i * 8 + 1, none⟩ (Value.int .u8 (z1.toNat : Int))).setCell ⟨g, i * 8 + 2, none⟩ (Value.int .u8 (z2.toNat : Int))).setCell ⟨g, i * 8 + 3, none⟩ (Value.int .u8 (z3.toNat : Int))).setCell ⟨g, i * 8 + 4, none⟩ (Value.int .u8 (z4.toNat : Int))).setCell ⟨g, i * 8 + 5, none⟩ (Value.int .u8 (z5.toNat : Int))).setCell ⟨g, i * 8 + 6, none⟩ (Value.int .u8 (z6.toNat : Int))).setCell ⟨g, i * 8 + 7, none⟩ (Value.int .u8 (z7.toNat : Int))) ∧ ((((((((W.setCell ⟨g, i * 8, none⟩ (Value.int .u8 (z0.toNat : Int))).setCell ⟨g, i * 8 + 1, none⟩ (Value.int .u8 (z1.toNat : Int))).setCell ⟨g, i * 8 + 2, none⟩ (Value.int .u8 (z2.toNat : Int))).setCell ⟨g, i * 8 + 3, none⟩ (Value.int .u8 (z3.toNat : Int))).setCell ⟨g, i * 8 + 4, none⟩ (Value.int .u8 (z4.toNat : Int))).setCell ⟨g, i * 8 + 5, none⟩ (Value.int .u8 (z5.toNat : Int))).setCell ⟨g, i * 8 + 6, none⟩ (Value.int .u8 (z6.toNat : Int))).setCell ⟨g, i * 8 + 7, none⟩ (Value.int .u8 (z7.toNat : Int))).heap.size = W.heap.size := by
 have hl := digsC_length L h8
 refine ⟨?_, (((((((((Frame.refl (fun q => q = g) W).setCell (p := ⟨g, i * 8, none⟩) rfl _).setCell (p := ⟨g, i * 8 + 1, none⟩) rfl _).setCell (p := ⟨g, i * 8 + 2, none⟩) rfl _).setCell (p := ⟨g, i * 8 + 3, none⟩) rfl _).setCell (p := ⟨g, i * 8 + 4, none⟩) rfl _).setCell (p := ⟨g, i * 8 + 5, none⟩) rfl _).setCell (p := ⟨g, i * 8 + 6, none⟩) rfl _).setCell (p := ⟨g, i * 8 + 7, none⟩) rfl _), by simp⟩
 have h1 := (World.ownsRow.stored h (i * 8) (Value.int .u8 (z0.toNat : Int))).1
 have h2 := (World.ownsRow.stored h1 (i * 8 + 1) (Value.int .u8 (z1.toNat : Int))).1
 have h3 := (World.ownsRow.stored h2 (i * 8 + 2) (Value.int .u8 (z2.toNat : Int))).1
 have h4 := (World.ownsRow.stored h3 (i * 8 + 3) (Value.int .u8 (z3.toNat : Int))).1
 have h5 := (World.ownsRow.stored h4 (i * 8 + 4) (Value.int .u8 (z4.toNat : Int))).1
 have h6 := (World.ownsRow.stored h5 (i * 8 + 5) (Value.int .u8 (z5.toNat : Int))).1
 have h7 := (World.ownsRow.stored h6 (i * 8 + 6) (Value.int .u8 (z6.toNat : Int))).1
 have h8' := (World.ownsRow.stored h7 (i * 8 + 7) (Value.int .u8 (z7.toNat : Int))).1
 rw [list_set8 _ _ _ _ _ _ _ _ _ _ (by omega)] at h8'
 have e := digsC_put L h8 i hi [z0, z1, z2, z3, z4, z5, z6, z7]
 rw [← e]
 exact h8'
theorem coms_head (rl : List (List UInt8)) (hr : ∀ r ∈ rl, r.length = 8) (k j : Nat) (hk : k < rl.length) (hj : j < 9) : (comsC rl)[k * 18 + 9 + j]? = (Value.int .i64 ((k + 1 : Nat) : Int) :: (sumF 42 (rl.take (k + 1))).map u8c)[j]? := by
 unfold comsC
 rw [Nat.add_assoc, comsF_get rl.length rl k (9 + j) (Nat.le_refl _) hr hk (by omega)]
 have e : rl.getD k [] = rl[k] := by rw [List.getD_eq_getElem?_getD, List.getElem?_eq_getElem hk]; rfl
 have h8 := hr _ (List.getElem_mem hk)
 rw [e]
 unfold commitC
 rw [List.append_assoc, List.getElem?_append_right (by simp [h8]), show 9 + j - ([Value.int .i64 (k : Int)] ++ rl[k].map u8c).length = j by simp [h8]]
 rfl
theorem done_head {w : World} {d : PairD} (h : PairOk w d) (k : Nat) (hk : k < d.tds.length) : ∃ (g : Nat) (x0 x1 x2 x3 x4 x5 x6 x7 : UInt8), d.done.a = some ⟨g, 0, none⟩ ∧ g < w.heap.size ∧ d.done.val.ownBlock = some g ∧ w.cell? ⟨g, 0 + k * 18 + 9, none⟩ = some (.int .i64 ((k + 1 : Nat) : Int)) ∧ w.cell? ⟨g, 0 + k * 18 + 9 + 1, none⟩ = some (u8c x0) ∧ w.cell? ⟨g, 0 + k * 18 + 9 + 2, none⟩ = some (u8c x1) ∧ w.cell? ⟨g, 0 + k * 18 + 9 + 3, none⟩ = some (u8c x2) ∧ w.cell? ⟨g, 0 + k * 18 + 9 + 4, none⟩ = some (u8c x3) ∧ w.cell? ⟨g, 0 + k * 18 + 9 + 5, none⟩ = some (u8c x4) ∧ w.cell? ⟨g, 0 + k * 18 + 9 + 6, none⟩ = some (u8c x5) ∧ w.cell? ⟨g, 0 + k * 18 + 9 + 7, none⟩ = some (u8c x6) ∧ w.cell? ⟨g, 0 + k * 18 + 9 + 8, none⟩ = some (u8c x7) := by
 obtain ⟨hsl, hn⟩ := SlV.ofOwn (s := d.done) h.lay.hdone
 have hc := owns_cap (a := d.done.a) (n' := d.done.n) (cap := d.done.cap) h.lay.hdone
 have hr : ∀ r ∈ d.tds.map rootOf, r.length = 8 := fun r hr => by
  obtain ⟨nd, _, rfl⟩ := List.mem_map.1 hr
  exact rootOf_length nd
 have hkr : k < (d.tds.map rootOf).length := by simpa using hk
 obtain ⟨x0, x1, x2, x3, x4, x5, x6, x7, hx⟩ := list8 (sumF 42 ((d.tds.map rootOf).take (k + 1))) (sumF_length 41 _)
 rw [h.dc] at hsl
 obtain ⟨g, ha, hg0⟩ : ∃ g, d.done.a = some ⟨g, 0, none⟩ ∧ g < w.heap.size := by
  rcases hc.2.2.2 with ⟨_, hz, _⟩ | ⟨g, hg, _, hlt⟩
  ·have := h.dl; omega
  ·exact ⟨g, hg, hlt⟩
 have hcell : ∀ j, j < 9 → w.cell? ⟨g, 0 + k * 18 + 9 + j, none⟩ = (Value.int .i64 ((k + 1 : Nat) : Int) :: [x0, x1, x2, x3, x4, x5, x6, x7].map u8c)[j]? := fun j hj => by
  have hv := coms_head (d.tds.map rootOf) hr k j hkr hj
  rw [hx] at hv
  have hlt : k * 18 + 9 + j < (comsC (d.tds.map rootOf)).length := by
   unfold comsC
   rw [comsF_length _ _ (Nat.le_refl _) hr]
   omega
  obtain ⟨b, o, e, _, hcl⟩ := hsl (k * 18 + 9 + j) hlt
  rw [ha] at e
  cases e
  rw [← hv, List.getElem?_eq_getElem hlt, ← hcl]
  congr 2
  omega
 exact ⟨g, x0, x1, x2, x3, x4, x5, x6, x7, ha, hg0, by unfold SlR.val; rw [ha]; rfl, hcell 0 (by omega), hcell 1 (by omega), hcell 2 (by omega), hcell 3 (by omega), hcell 4 (by omega), hcell 5 (by omega), hcell 6 (by omega), hcell 7 (by omega), hcell 8 (by omega)⟩
end Go.Proofs.YtekegfbjbainhaaGreat
