import Derived.Test.YtekegfbjbainhaaGreatKJoin36
import Derived.Test.YtekegfbjbainhaaGreatKJoin34
import Derived.Test.YtekegfbjbainhaaGreatKJoin33
import Derived.Test.YtekegfbjbainhaaGreatKJoin14
import Derived.Test.YtekegfbjbainhaaGreatKJoin15
import Derived.Test.YtekegfbjbainhaaGreatKJoin4
import Derived.Test.YtekegfbjbainhaaGreatKJoin29
import Derived.Test.YtekegfbjbainhaaGreatKJoin5
import Derived.Deep.RegionHeld3
import Derived.Deep.RegionHeldLaw
set_option linter.unusedVariables false
set_option linter.unusedSimpArgs false

namespace Go.Proofs.YtekegfbjbainhaaGreat
open Go.RowKit
theorem StepK.mono {a b c a' b' c' wb : Nat} {ps : SlR} {ds : List PairD} {B : BookD} {w w' : World} {e : Ending} (h : StepK a b c wb ps ds B w e w') (h1 : a ≤ a') (h2 : b ≤ b') (h3 : c ≤ c') : StepK a' b' c' wb ps ds B w e w' := by
 obtain ⟨h0, B', g1, g2, g3, g4, g5⟩ := h
 exact ⟨h0, B', g1, by omega, by omega, by omega, g5⟩
theorem StepK.behind {a b c wb : Nat} {ps : SlR} {ds : List PairD} {B : BookD} {w W w' : World} {e : Ending} (hb : Below w.heap.size w W) (hwb : wb ≤ w.heap.size) (h : StepK a b c wb ps ds B W e w') : StepK a b c wb ps ds B w e w' := by
 obtain ⟨h0, B', g1, g2, g3, g4, g5⟩ := h
 exact ⟨h0, B', g1, g2, g3, g4, (hb.mono hwb).trans g5⟩
set_option maxRecDepth 100000 in
set_option maxHeartbeats 1000000 in
theorem free_check (cs : List Value) (s u : ByteArray) (x0 x1 x2 x3 x4 x5 x6 x7 : UInt8) (wb : Nat) (ps : SlR) (ds : List PairD) (B : BookD) (w : World) (h : LawK w wb ps ds B) (k0 : cs[0]? = some (.int .i64 10)) (k4 : cs[4]? = some (.string s)) (k6 : cs[6]? = some (.string u))
  (k7 : cs[7]? = some (u8c x0)) (k8 : cs[8]? = some (u8c x1)) (k9 : cs[9]? = some (u8c x2)) (k10 : cs[10]? = some (u8c x3)) (k11 : cs[11]? = some (u8c x4)) (k12 : cs[12]? = some (u8c x5)) (k13 : cs[13]? = some (u8c x6)) (k14 : cs[14]? = some (u8c x7))
  (hs : s.size ≤ 140737488351232) (hu : u.size ≤ 1000000000) (hn : B.rs.length ≤ 1200000000000) :
  Calls Tryz.prog 19 #[.pointer (some ⟨wb, 0, none⟩), .agg cs.toArray] w (StepK 1 0 0 wb ps ds B w) := by
 have HA : Hid (Below w.heap.size w (w.alloc (.cells cs.toArray 43))) := (Below.refl _ _).alloc (Nat.le_refl _) _
 have hwb : wb < w.heap.size := RowV.lt h.law.row
 have HK : Hid (LawK (w.alloc (.cells cs.toArray 43)) wb ps ds B) := h.below HA.out
 have HC : Hid (Calls _ _ _ _ _) := world_check [x0, x1, x2, x3, x4, x5, x6, x7] s u wb ps ds B _ HK.out rfl hs hu hn
 unfold dV u8c at HC
 unfold u8c at k7 k8 k9 k10 k11 k12 k13 k14
 simp only [List.map_cons, List.map_nil] at HC
 generalize (x0.toNat : Int) = y0 at *
 generalize (x1.toNat : Int) = y1 at *
 generalize (x2.toNat : Int) = y2 at *
 generalize (x3.toNat : Int) = y3 at *
 generalize (x4.toNat : Int) = y4 at *
 generalize (x5.toNat : Int) = y5 at *
 generalize (x6.toNat : Int) = y6 at *
 generalize (x7.toNat : Int) = y7 at *
 clear h
 go_enter Tryz.func19, Tryz.ntmps19
 go_wp2_with fail
 refine HC.out.mono ?_
 rintro e w1 ⟨rfl, bs', r, g1, gg, g2⟩
 have G1 : Hid (LawK w1 wb ps ds (B.addB bs' r)) := g1
 have G2 : Hid (Below wb w w1) := (HA.out.mono (Nat.le_of_lt hwb)).trans (HK.out.frameBelow g2)
 clear g1 gg g2
 go_wp2
 go_ret
 exact ⟨rfl, _, G1.out, by simp [BookD.addB], by simp [BookD.addB], by simp [BookD.addB], G2.out⟩
set_option maxRecDepth 100000 in
set_option maxHeartbeats 1000000 in
theorem free_checks (cs : List Value) (s t u : ByteArray) (x0 x1 x2 x3 x4 x5 x6 x7 : UInt8) (wb : Nat) (ps : SlR) (ds : List PairD) (B : BookD) (w : World) (h : LawK w wb ps ds B) (k0 : cs[0]? = some (.int .i64 11)) (k4 : cs[4]? = some (.string s)) (k5 : cs[5]? = some (.string t)) (k6 : cs[6]? = some (.string u))
  (k7 : cs[7]? = some (u8c x0)) (k8 : cs[8]? = some (u8c x1)) (k9 : cs[9]? = some (u8c x2)) (k10 : cs[10]? = some (u8c x3)) (k11 : cs[11]? = some (u8c x4)) (k12 : cs[12]? = some (u8c x5)) (k13 : cs[13]? = some (u8c x6)) (k14 : cs[14]? = some (u8c x7))
  (hs : s.size ≤ 140737488351232) (ht : t.size ≤ 140737488351232) (hu : u.size ≤ 1000000000) (hn : B.rs.length + u.size * 2 ≤ 1200000000000) (hh : B.hs.length ≤ 1200000000000) :
  Calls Tryz.prog 19 #[.pointer (some ⟨wb, 0, none⟩), .agg cs.toArray] w (StepK (u.size * 2) 0 1 wb ps ds B w) := by
 have HA : Hid (Below w.heap.size w (w.alloc (.cells cs.toArray 43))) := (Below.refl _ _).alloc (Nat.le_refl _) _
 have hwb : wb < w.heap.size := RowV.lt h.law.row
 have HK : Hid (LawK (w.alloc (.cells cs.toArray 43)) wb ps ds B) := h.below HA.out
 have HC : Hid (Calls _ _ _ _ _) := world_checks [x0, x1, x2, x3, x4, x5, x6, x7] s t u wb ps ds B _ HK.out rfl hs ht hu hn hh
 unfold dV u8c at HC
 unfold u8c at k7 k8 k9 k10 k11 k12 k13 k14
 simp only [List.map_cons, List.map_nil] at HC
 generalize (x0.toNat : Int) = y0 at *
 generalize (x1.toNat : Int) = y1 at *
 generalize (x2.toNat : Int) = y2 at *
 generalize (x3.toNat : Int) = y3 at *
 generalize (x4.toNat : Int) = y4 at *
 generalize (x5.toNat : Int) = y5 at *
 generalize (x6.toNat : Int) = y6 at *
 generalize (x7.toNat : Int) = y7 at *
 clear h
 go_enter Tryz.func19, Tryz.ntmps19
 go_wp2_with fail
 refine HC.out.mono ?_
 rintro e w1 ⟨rfl, B', g1, g2, g3, g4, g5⟩
 have G1 : Hid (LawK w1 wb ps ds B') := g1
 have G2 : Hid (Below wb w w1) := (HA.out.mono (Nat.le_of_lt hwb)).trans (HK.out.frameBelow g5)
 have G3 : Hid (B'.rs.length ≤ B.rs.length + u.size * 2 ∧ B'.gs.length ≤ B.gs.length + 0 ∧ B'.hs.length ≤ B.hs.length + 1) := ⟨g2, by rw [g3]; omega, by omega⟩
 clear g1 g2 g3 g4 g5
 go_wp2
 go_ret
 exact ⟨rfl, B', G1.out, G3.out.1, G3.out.2.1, G3.out.2.2, G2.out⟩
set_option maxRecDepth 100000 in
set_option maxHeartbeats 1000000 in
theorem step_free (cs : List Value) (kk : Int) (p : Value) (w : World) (P : World → Prop) (hlen : cs.length = 24) (k0 : cs[0]? = some (.int .i64 kk)) (hk : kk = 10 ∨ kk = 11 ∨ kk = 12 ∨ kk = 13)
  (hF : Calls Tryz.prog 19 #[p, .agg cs.toArray] (w.alloc (.cells cs.toArray 43)) fun e w' => e = .returned (.bool true) ∧ P w') :
  Calls Tryz.prog 12 #[p, .agg cs.toArray] w fun e w' => e = .returned (.bool true) ∧ P w' := by
 obtain ⟨d, hd1, hd2⟩ := Tryz.rowOp
 have hsz : Hid ((Tryz.prog.info? 43).map (·.size) = some cs.length) := by rw [hlen]; exact Tryz.sizeOp
 have HD : Hid (Tryz.prog.underlying 43 = some d) := hd1
 have HD2 : Hid (d.isRow = true) := hd2
 have HL : Hid (cs.length = 24) := hlen
 have HF : Hid (Calls _ _ _ _ _) := hF
 clear hd1 hd2 hlen hF
 rcases hk with rfl | rfl | rfl | rfl
 all_goals
  go_enter Tryz.func12, Tryz.ntmps12
  go_wp2_with (refine wpList_load_mid (by rfl) 43 (.tmp 3) (by rfl) w.heap.size 0 (by rfl) cs d (rangeAt_new w cs 43) HD.out HD2.out hsz.out ?_)
  refine HF.out.mono ?_
  rintro e w1 ⟨rfl, h1⟩
  have H1 : Hid (P w1) := h1
  clear h1
  go_wp2
  go_ret
  exact ⟨rfl, H1.out⟩
set_option maxRecDepth 100000 in
set_option maxHeartbeats 1000000 in
theorem step_noneA {B : BkV} (cs : List Value) (kk : Int) (wb : Nat) (ps : SlR) (w : World) (h : LawAt B w wb ps []) (k0 : cs[0]? = some (.int .i64 kk)) (hk : kk = 14 ∨ kk = 15 ∨ kk = 16) :
  Calls Tryz.prog 12 #[.pointer (some ⟨wb, 0, none⟩), .agg cs.toArray] w fun e w' => e = .returned (.bool true) ∧ Below w.heap.size w w' := by
 have hwb : wb < w.heap.size := RowV.lt h.row
 have hpn : ps.n = 0 := (owns_cap (a := ps.a) (n' := ps.n) (cap := ps.cap) h.own).1
 have r0 : w.cell? ⟨wb, 0, none⟩ = some (.slice ps.a 0 ps.cap) := by
  have : w.cell? ⟨wb, 0, none⟩ = some (.slice ps.a ps.n ps.cap) := RowV.cell h.row 0 (by simp)
  rw [hpn] at this; exact this
 clear hpn h
 have HB : Hid (Below w.heap.size w (w.alloc (.cells cs.toArray 43))) := (Below.refl _ _).alloc (Nat.le_refl _) _
 rcases hk with rfl | rfl | rfl
 all_goals
  go_enter Tryz.func12, Tryz.ntmps12
  go_wp2
  go_ret
  exact ⟨rfl, HB.out⟩
set_option maxRecDepth 100000 in
set_option maxHeartbeats 1000000 in
theorem step_ask (cs : List Value) (kk oa : Int) (a b c : Nat) (wb : Nat) (ps : SlR) (ds : List PairD) (B : BookD) (w : World) (hh : LawK w wb ps ds B) (hlen : cs.length = 24) (k0 : cs[0]? = some (.int .i64 kk)) (hk : kk = 14 ∨ kk = 15 ∨ kk = 16) (k1 : cs[1]? = some (.int .i64 oa)) (ha1 : -9223372036854775808 ≤ oa) (ha2 : oa ≤ 9223372036854775807) (hn : 1 ≤ ds.length)
  (hst : ∀ (d : PairD) (W : World), LawK W wb ps ds B → d ∈ ds → Below w.heap.size w W → Calls Tryz.prog 23 #[.pointer (some ⟨wb, 0, none⟩), .agg cs.toArray, .pointer (some ⟨d.pb, 0, none⟩)] W (StepK a b c wb ps ds B W)) :
  Calls Tryz.prog 12 #[.pointer (some ⟨wb, 0, none⟩), .agg cs.toArray] w (StepK a b c wb ps ds B w) := by
 have h := hh.law
 obtain ⟨d, hd1, hd2⟩ := Tryz.rowOp
 have hsz : Hid ((Tryz.prog.info? 43).map (·.size) = some cs.length) := by rw [hlen]; exact Tryz.sizeOp
 have HD : Hid (Tryz.prog.underlying 43 = some d) := hd1
 have HD2 : Hid (d.isRow = true) := hd2
 have HL : Hid (cs.length = 24) := hlen
 have HB : Hid (Below w.heap.size w (w.alloc (.cells cs.toArray 43))) := (Below.refl _ _).alloc (Nat.le_refl _) _
 have hwb : wb < w.heap.size := RowV.lt h.row
 have r0 : w.cell? ⟨wb, 0, none⟩ = some (.slice ps.a ps.n ps.cap) := RowV.cell h.row 0 (by simp)
 obtain ⟨hpn, hpc, hpm, hpa⟩ := owns_cap (a := ps.a) (n' := ps.n) (cap := ps.cap) h.own
 obtain ⟨g, hg, hglt⟩ : ∃ g, ps.a = some ⟨g, 0, none⟩ ∧ g < w.heap.size := by
  rcases hpa with ⟨_, h0, _⟩ | ⟨g, hg, _, hlt⟩
  ·omega
  ·exact ⟨g, hg, hlt⟩
 rw [hg] at r0
 have hpm' : ps.n ≤ maxLen := by omega
 obtain ⟨dd, hdd, hcd⟩ : ∃ d, ds[pickN oa ps.n]? = some d ∧ w.cell? ⟨g, pickN oa ps.n, none⟩ = some (.pointer (some ⟨d.pb, 0, none⟩)) := by
  have hi' : pickN oa ps.n < ds.length := by have := pickN_lt oa ps.n (by omega); omega
  refine ⟨ds[pickN oa ps.n], List.getElem?_eq_getElem hi', ?_⟩
  have hsl : SlV w ps.a (ds.map (fun d => ptrV d.pb)) := (SlV.ofOwn h.own).1
  obtain ⟨b, o, e, _, hc⟩ := hsl (pickN oa ps.n) (by simpa using hi')
  rw [hg] at e; cases e
  rw [Nat.zero_add] at hc
  rw [hc]; simp [ptrV]
 have HDD : Hid (dd ∈ ds) := List.mem_of_getElem? hdd
 have hiI : (pickN oa ps.n : Int) < ps.n := by have := pickN_lt oa ps.n (by omega); omega
 have HPK : Hid (∀ W, Calls Tryz.prog 20 #[.int .i64 oa, .int .i64 (ps.n : Int)] W fun e w' => e = .returned (.int .i64 (pickN oa ps.n : Int)) ∧ w' = W) := fun W => pick_any oa ps.n W ha1 ha2 (by omega) hpm'
 generalize pickN oa ps.n = i at *
 have hn1 : 1 ≤ ps.n := by omega
 have hpmI : (ps.n : Int) ≤ 9223372036854775807 := by unfold maxLen at hpm; omega
 have hn0 : ((ps.n : Int) == 0) = false := by simp; omega
 have HH : Hid (LawK w wb ps ds B) := hh
 have HST : Hid (∀ (d : PairD) (W : World), LawK W wb ps ds B → d ∈ ds → Below w.heap.size w W → Calls Tryz.prog 23 #[.pointer (some ⟨wb, 0, none⟩), .agg cs.toArray, .pointer (some ⟨d.pb, 0, none⟩)] W (StepK a b c wb ps ds B W)) := hst
 clear hd1 hd2 hlen hpn hpc hpm hpa hst hn hdd hpm' hh h
 rcases hk with rfl | rfl | rfl
 all_goals
  go_enter Tryz.func12, Tryz.ntmps12
  go_wp2
  go_quiet (first | (go_at_call 20; exact Calls.quiet_of_same (HPK.out _)))
  have HBq : Hid (Below w.heap.size w ((w.alloc (.cells cs.toArray 43)).drewN nq)) := by
   have hb := HB.out
   exact ⟨hb.os, hb.tape, hb.output, hb.size, hb.block⟩
  go_wp2_with (refine wpList_load_mid (by rfl) 43 (.tmp 3) (by rfl) w.heap.size 0 (by rfl) cs d (by exact rangeAt_new w cs 43) HD.out HD2.out hsz.out ?_)
  refine (HST.out dd _ (HH.out.below HBq.out) HDD.out HBq.out).mono ?_
  rintro e w1 hs1
  obtain ⟨rfl, hs1⟩ : e = .returned (.bool true) ∧ StepK a b c wb ps ds B w e w1 := ⟨hs1.1, StepK.behind HBq.out (Nat.le_of_lt hwb) hs1⟩
  have HS1 : Hid (StepK a b c wb ps ds B w (.returned (.bool true)) w1) := hs1
  clear hs1
  go_wp2
  go_ret
  exact HS1.out
def BookD.Caps (B : BookD) : Prop := B.rs.length ≤ 1200000000000 ∧ B.gs.length ≤ 1200000000000 ∧ B.hs.length ≤ 1200000000000
def CapQ (mr mg mh q : Nat) : Prop := (q + 1) * mr ≤ 1190000000000 ∧ (q + 1) * mg ≤ 1190000000000 ∧ (q + 1) * mh ≤ 1190000000000
def kInv (mr mg mh : Nat) (w : World) (q : Nat) (wr : World) : Prop := Below w.heap.size w wr ∧ ∃ ps ds B, LawK wr w.heap.size ps ds B ∧ ds.length ≤ q ∧ B.rs.length ≤ q * mr ∧ B.gs.length ≤ q * mg ∧ B.hs.length ≤ q * mh ∧ B.Caps
theorem kInv.mono {mr mg mh : Nat} {w wr : World} {q : Nat} (h : kInv mr mg mh w q wr) : kInv mr mg mh w (q + 1) wr := by
 obtain ⟨h1, ps, ds, B, h2, h3, h4, h5, h6, h7⟩ := h
 have e1 : (q + 1) * mr = q * mr + mr := Nat.succ_mul q mr
 have e2 : (q + 1) * mg = q * mg + mg := Nat.succ_mul q mg
 have e3 : (q + 1) * mh = q * mh + mh := Nat.succ_mul q mh
 exact ⟨h1, ps, ds, B, h2, by omega, by omega, by omega, by omega, h7⟩
theorem kInv.drew {mr mg mh : Nat} {w wr : World} {q : Nat} (m : Nat) (h : kInv mr mg mh w q wr) : kInv mr mg mh w q (wr.drewN m) := by
 obtain ⟨h1, ps, ds, B, h2, h3⟩ := h
 have hb := Below.refl wr.heap.size wr
 exact ⟨⟨h1.os, h1.tape, h1.output, h1.size, h1.block⟩, ps, ds, B, h2.below ⟨hb.os, hb.tape, hb.output, hb.size, hb.block⟩, h3⟩
theorem lawK_fresh (w : World) : LawK (w.alloc (.cells #[.slice none 0 0, .slice none 0 0, .slice none 0 0, .slice none 0 0] 34)) w.heap.size ⟨none, 0, 0⟩ [] ⟨⟨none, 0, 0⟩, ⟨none, 0, 0⟩, ⟨none, 0, 0⟩, [], [], []⟩ :=
 LawK.start ⟨RowV.new w _ _, World.ownsRow_nil _ _ _ _, fun d hd => (by cases hd), fun d hd => (by cases hd), fun k hk => (by cases hk), fun i j d e _ h => (by simp at h)⟩
theorem kInv_start (mr mg mh : Nat) (w : World) : kInv mr mg mh w 0 (w.alloc (.cells #[.slice none 0 0, .slice none 0 0, .slice none 0 0, .slice none 0 0] 34)) :=
 ⟨(Below.refl _ _).alloc (Nat.le_refl _) _, _, _, _, lawK_fresh w, Nat.le_refl _, by simp, by simp, by simp, by simp [BookD.Caps]⟩
theorem kInv.next {mr mg mh a b c : Nat} {w wr w' : World} {q : Nat} {ps : SlR} {ds : List PairD} {B : BookD} {e : Ending} (h1 : Below w.heap.size w wr) (h3 : ds.length ≤ q) (h4 : B.rs.length ≤ q * mr) (h5 : B.gs.length ≤ q * mg) (h6 : B.hs.length ≤ q * mh) (hs : StepK a b c w.heap.size ps ds B wr e w') (ha : a ≤ mr) (hb : b ≤ mg) (hc : c ≤ mh) (hcap : CapQ mr mg mh q) :
  e = .returned (.bool true) ∧ kInv mr mg mh w (q + 1) w' := by
 obtain ⟨h0, B', g1, g2, g3, g4, g5⟩ := hs
 have e1 : (q + 1) * mr = q * mr + mr := Nat.succ_mul q mr
 have e2 : (q + 1) * mg = q * mg + mg := Nat.succ_mul q mg
 have e3 : (q + 1) * mh = q * mh + mh := Nat.succ_mul q mh
 obtain ⟨c1, c2, c3⟩ := hcap
 exact ⟨h0, h1.trans g5, ps, ds, B', g1, by omega, by omega, by omega, by omega, ⟨by omega, by omega, by omega⟩⟩
theorem kInv_new (mr mg mh : Nat) (w wr : World) (q : Nat) (cs : List Value) (hI : kInv mr mg mh w q wr) (hlen : cs.length = 24) (k0 : cs[0]? = some (.int .i64 2)) (hq : q + 1 ≤ 17592186044416) :
  Calls Tryz.prog 12 #[.pointer (some ⟨w.heap.size, 0, none⟩), .agg cs.toArray] wr fun e w' => e = .returned (.bool true) ∧ kInv mr mg mh w (q + 1) w' := by
 obtain ⟨h1, ps, ds, B, h2, h3, h4, h5, h6, h7⟩ := hI
 have e1 : (q + 1) * mr = q * mr + mr := Nat.succ_mul q mr
 have e2 : (q + 1) * mg = q * mg + mg := Nat.succ_mul q mg
 have e3 : (q + 1) * mh = q * mh + mh := Nat.succ_mul q mh
 refine (step_store cs w.heap.size ps ds wr h2.law hlen k0 (by omega)).mono ?_
 rintro e w' ⟨rfl, ⟨ps', d, g1, g2, g3⟩, hf⟩
 refine ⟨rfl, h1.trans (hf.below h1.size (fun k hk => ?_)), ps', _, B, h2.new g1 g2 g3 hf, by simp; omega, by omega, by omega, by omega, h7⟩
 rcases hk with rfl | hk
 ·exact Nat.le_refl _
 ·exact Nat.le_of_lt (h2.law.psb k hk)
theorem kInv_old (mr mg mh : Nat) (w wr : World) (q : Nat) (cs : List Value) (kk oa : Int) (hI : kInv mr mg mh w q wr) (hlen : cs.length = 24) (k0 : cs[0]? = some (.int .i64 kk)) (hk : kk = 3 ∨ kk = 4 ∨ kk = 5) (k1 : cs[1]? = some (.int .i64 oa)) (ha1 : -9223372036854775808 ≤ oa) (ha2 : oa ≤ 9223372036854775807) (hst : StoredOk cs) :
  Calls Tryz.prog 12 #[.pointer (some ⟨w.heap.size, 0, none⟩), .agg cs.toArray] wr fun e w' => e = .returned (.bool true) ∧ kInv mr mg mh w (q + 1) w' := by
 obtain ⟨h1, ps, ds, B, h2, h3, h4, h5, h6, h7⟩ := hI
 have e1 : (q + 1) * mr = q * mr + mr := Nat.succ_mul q mr
 have e2 : (q + 1) * mg = q * mg + mg := Nat.succ_mul q mg
 have e3 : (q + 1) * mh = q * mh + mh := Nat.succ_mul q mh
 by_cases hn : ds.length = 0
 ·have hnil : ds = [] := List.length_eq_zero_iff.1 hn
  subst hnil
  refine (step_none cs kk w.heap.size ps wr h2.law k0 hk).mono ?_
  rintro e w' ⟨rfl, hb⟩
  exact ⟨rfl, h1.trans (hb.mono h1.size), ps, [], B, h2.below hb, by omega, by omega, by omega, by omega, h7⟩
 ·refine (step_pair cs kk oa w.heap.size ps ds wr h2.law hlen k0 hk k1 ha1 ha2 (by omega) (fun W d => hst _ W d)).mono ?_
  rintro e w' ⟨rfl, W, d, hd, hb, hs, i, hi⟩
  obtain ⟨ds', g1, g2⟩ := (h2.below hb).step hi hs
  obtain ⟨_, _, _, hf, _⟩ := hs
  refine ⟨rfl, (h1.trans (hb.mono h1.size)).trans (hf.below (Nat.le_trans h1.size hb.size) (fun k hk => Nat.le_of_lt (h2.law.low d hd k hk).1)), ps, ds', B, g1, by omega, by omega, by omega, by omega, h7⟩
theorem kInv_digest (mr mg mh : Nat) (w wr : World) (q : Nat) (cs : List Value) (oa : Int) (s : ByteArray) (hI : kInv mr mg mh w q wr) (hlen : cs.length = 24) (k0 : cs[0]? = some (.int .i64 1)) (k1 : cs[1]? = some (.int .i64 oa)) (k4 : cs[4]? = some (.string s)) (hs : s.size ≤ 140737488351232) :
  Calls Tryz.prog 12 #[.pointer (some ⟨w.heap.size, 0, none⟩), .agg cs.toArray] wr fun e w' => e = .returned (.bool true) ∧ kInv mr mg mh w (q + 1) w' := by
 obtain ⟨h1, ps, ds, B, h2, h3, h4, h5, h6, h7⟩ := hI
 have e1 : (q + 1) * mr = q * mr + mr := Nat.succ_mul q mr
 have e2 : (q + 1) * mg = q * mg + mg := Nat.succ_mul q mg
 have e3 : (q + 1) * mh = q * mh + mh := Nat.succ_mul q mh
 refine (step_digest cs oa s _ wr hlen k0 k1 k4 hs).mono ?_
 rintro e w' ⟨rfl, hb⟩
 exact ⟨rfl, h1.trans (hb.mono h1.size), ps, ds, B, h2.below hb, by omega, by omega, by omega, by omega, h7⟩
theorem kInv_check (mr mg mh : Nat) (w wr : World) (q : Nat) (o : OpR) (hI : kInv mr mg mh w q wr) (hq : CapQ mr mg mh q) (h1r : 1 ≤ mr) (hk : o.kind = 10) (hs : o.s.size ≤ 140737488351232) (hu : o.u.size ≤ 1000000000) :
  Calls Tryz.prog 12 #[.pointer (some ⟨w.heap.size, 0, none⟩), .agg o.cells.toArray] wr fun e w' => e = .returned (.bool true) ∧ kInv mr mg mh w (q + 1) w' := by
 obtain ⟨h1, ps, ds, B, h2, h3, h4, h5, h6, h7⟩ := hI
 obtain ⟨q1, q2, q3⟩ := id hq
 rw [Nat.succ_mul] at q1 q2 q3
 have hb : Below wr.heap.size wr (wr.alloc (.cells o.cells.toArray 43)) := (Below.refl _ _).alloc (Nat.le_refl _) _
 refine step_free o.cells 10 _ wr (kInv mr mg mh w (q + 1)) rfl (by rw [← hk]; rfl) (Or.inl rfl) ?_
 refine (free_check o.cells o.s o.u (o.d.getD 0 0) (o.d.getD 1 0) (o.d.getD 2 0) (o.d.getD 3 0) (o.d.getD 4 0) (o.d.getD 5 0) (o.d.getD 6 0) (o.d.getD 7 0) w.heap.size ps ds B _ (h2.below hb) (by rw [← hk]; rfl) rfl rfl rfl rfl rfl rfl rfl rfl rfl rfl hs hu (by omega)).mono ?_
 intro e w' hs'
 exact kInv.next (h1.trans (hb.mono h1.size)) h3 h4 h5 h6 hs' h1r (Nat.zero_le _) (Nat.zero_le _) hq
theorem kInv_checks (mr mg mh : Nat) (w wr : World) (q : Nat) (o : OpR) (hI : kInv mr mg mh w q wr) (hq : CapQ mr mg mh q) (h1r : o.u.size * 2 ≤ mr) (h1h : 1 ≤ mh) (hk : o.kind = 11) (hs : o.s.size ≤ 140737488351232) (ht : o.t.size ≤ 140737488351232) (hu : o.u.size ≤ 1048576) :
  Calls Tryz.prog 12 #[.pointer (some ⟨w.heap.size, 0, none⟩), .agg o.cells.toArray] wr fun e w' => e = .returned (.bool true) ∧ kInv mr mg mh w (q + 1) w' := by
 obtain ⟨h1, ps, ds, B, h2, h3, h4, h5, h6, h7⟩ := hI
 obtain ⟨q1, q2, q3⟩ := id hq
 rw [Nat.succ_mul] at q1 q2 q3
 have hb : Below wr.heap.size wr (wr.alloc (.cells o.cells.toArray 43)) := (Below.refl _ _).alloc (Nat.le_refl _) _
 refine step_free o.cells 11 _ wr (kInv mr mg mh w (q + 1)) rfl (by rw [← hk]; rfl) (Or.inr (Or.inl rfl)) ?_
 refine (free_checks o.cells o.s o.t o.u (o.d.getD 0 0) (o.d.getD 1 0) (o.d.getD 2 0) (o.d.getD 3 0) (o.d.getD 4 0) (o.d.getD 5 0) (o.d.getD 6 0) (o.d.getD 7 0) w.heap.size ps ds B _ (h2.below hb) (by rw [← hk]; rfl) rfl rfl rfl rfl rfl rfl rfl rfl rfl rfl rfl hs ht (by omega) (by omega) (by omega)).mono ?_
 intro e w' hs'
 exact kInv.next (h1.trans (hb.mono h1.size)) h3 h4 h5 h6 hs' h1r (Nat.zero_le _) h1h hq
theorem kInv_ask (mr mg mh : Nat) (w wr : World) (q : Nat) (o : OpR) (hI : kInv mr mg mh w q wr) (hq : CapQ mr mg mh q) (h1r : 2000000 ≤ mr) (h1h : 1 ≤ mh) (hk : o.kind = 14 ∨ o.kind = 15) (hs : o.s.size ≤ 140737488351232) (ht : o.t.size ≤ 140737488351232)
  (ha1 : -9223372036854775808 ≤ o.a) (ha2 : o.a ≤ 9223372036854775807) (hb1 : -9223372036854775808 ≤ o.b) (hb2 : o.b ≤ 9223372036854775807) (hc1 : -9223372036854775808 ≤ o.c) (hc2 : o.c ≤ 9223372036854775807) :
  Calls Tryz.prog 12 #[.pointer (some ⟨w.heap.size, 0, none⟩), .agg o.cells.toArray] wr fun e w' => e = .returned (.bool true) ∧ kInv mr mg mh w (q + 1) w' := by
 obtain ⟨h1, ps, ds, B, h2, h3, h4, h5, h6, h7⟩ := hI
 obtain ⟨q1, q2, q3⟩ := id hq
 rw [Nat.succ_mul] at q1 q2 q3
 have e1 : (q + 1) * mr = q * mr + mr := Nat.succ_mul q mr
 have e2 : (q + 1) * mg = q * mg + mg := Nat.succ_mul q mg
 have e3 : (q + 1) * mh = q * mh + mh := Nat.succ_mul q mh
 have hk' : o.kind = 14 ∨ o.kind = 15 ∨ o.kind = 16 := by omega
 by_cases hn : ds.length = 0
 ·have hnil : ds = [] := List.length_eq_zero_iff.1 hn
  subst hnil
  refine (step_noneA o.cells o.kind w.heap.size ps wr h2.law rfl hk').mono ?_
  rintro e w' ⟨rfl, hb⟩
  exact ⟨rfl, h1.trans (hb.mono h1.size), ps, [], B, h2.below hb, by omega, by omega, by omega, by omega, h7⟩
 ·refine (step_ask o.cells o.kind o.a 2000000 0 1 w.heap.size ps ds B wr h2 rfl rfl hk' rfl ha1 ha2 (by omega) (fun d W hW hd hbW => ?_)).mono ?_
  ·by_cases h0 : d.tds.length = 0
   ·exact (asked_none o.cells w.heap.size ps ds B d W hW hd h0).mono (fun e w' hs' => hs'.mono (by omega) (by omega) (by omega))
   ·rcases hk with hk | hk
    ·exact (asked_key o.cells o.b o.c o.s o.t o.u w.heap.size ps ds B d W hW hd (by omega) (by rw [← hk]; rfl) rfl rfl rfl rfl rfl hb1 hb2 hc1 hc2 hs ht (by omega)).mono (fun e w' hs' => hs'.mono (by omega) (by omega) (by omega))
    ·exact (asked_range o.cells o.b o.c o.s o.t o.u w.heap.size ps ds B d W hW hd (by omega) (by rw [← hk]; rfl) rfl rfl rfl rfl rfl hb1 hb2 hc1 hc2 hs ht (by omega) (by omega)).mono (fun e w' hs' => hs'.mono (by omega) (by omega) (by omega))
  ·intro e w' hs'
   exact kInv.next h1 h3 h4 h5 h6 hs' h1r (Nat.zero_le _) h1h hq
theorem kInv_looks (mr mg mh : Nat) (w wr : World) (q : Nat) (hI : kInv mr mg mh w q wr) :
  Calls Tryz.prog 13 #[.pointer (some ⟨w.heap.size, 1, none⟩)] wr fun e w' => e = .returned (.bool true) ∧ kInv mr mg mh w q w' := by
 obtain ⟨h1, ps, ds, B, h2, h3, h4, h5, h6, h7⟩ := hI
 refine (looks_all w.heap.size ps B.bs B.dg B.es B.rs B.gs B.hs wr h2.row h2.bk h2.bd h2.be h7.1 h7.2.1 h7.2.2).mono ?_
 rintro e w1 ⟨rfl, hb⟩
 exact ⟨rfl, h1.trans (hb.mono h1.size), ps, ds, B, h2.below hb, h3, h4, h5, h6, h7⟩
end Go.Proofs.YtekegfbjbainhaaGreat


namespace Go.Proofs.YtekegfbjbainhaaGreat
open Go.RowKit
def PathAt (w : World) (p : Value) : Prop := ∃ (a : Option Addr) (cap : Nat) (l : List (List UInt8)), p = .slice a l.length cap ∧ SlD w a l ∧ l.length ≤ 17592186044416 ∧ l.length ≤ cap ∧ cap ≤ 9223372036854775807 ∧ ((a = none ∧ l = [] ∧ cap = 0) ∨ ∃ ad, a = some ad)
theorem PathAt.below {w W : World} {p : Value} (h : PathAt w p) (hb : Below w.heap.size w W) : PathAt W p := by
 obtain ⟨a, cap, l, h1, h2, h3⟩ := h
 exact ⟨a, cap, l, h1, h2.below hb, h3⟩
set_option maxRecDepth 100000 in
set_option maxHeartbeats 1000000 in
theorem free_in (cs : List Value) (ob oc : Int) (x0 x1 x2 x3 x4 x5 x6 x7 e0 e1 e2 e3 e4 e5 e6 e7 : UInt8) (l : List (List UInt8)) (a : Option Addr) (cap : Nat) (wb : Nat) (ps : SlR) (ds : List PairD) (B : BookD) (w : World) (h : LawK w wb ps ds B) (k0 : cs[0]? = some (.int .i64 12)) (k2 : cs[2]? = some (.int .i64 ob)) (k3 : cs[3]? = some (.int .i64 oc)) (k7 : cs[7]? = some (u8c x0)) (k8 : cs[8]? = some (u8c x1)) (k9 : cs[9]? = some (u8c x2)) (k10 : cs[10]? = some (u8c x3)) (k11 : cs[11]? = some (u8c x4)) (k12 : cs[12]? = some (u8c x5)) (k13 : cs[13]? = some (u8c x6)) (k14 : cs[14]? = some (u8c x7)) (k15 : cs[15]? = some (u8c e0)) (k16 : cs[16]? = some (u8c e1)) (k17 : cs[17]? = some (u8c e2)) (k18 : cs[18]? = some (u8c e3)) (k19 : cs[19]? = some (u8c e4)) (k20 : cs[20]? = some (u8c e5)) (k21 : cs[21]? = some (u8c e6)) (k22 : cs[22]? = some (u8c e7)) (k23 : cs[23]? = some (.slice a l.length cap))
  (hb2 : ob ≤ 9223372036854775807) (hp : SlD w a l) (hl : l.length ≤ 17592186044416) (hlc : l.length ≤ cap) (hc : cap ≤ 9223372036854775807) (ha : (a = none ∧ l = [] ∧ cap = 0) ∨ ∃ ad, a = some ad) :
  Calls Tryz.prog 19 #[.pointer (some ⟨wb, 0, none⟩), .agg cs.toArray] w (StepK 0 0 0 wb ps ds B w) := by
 have HA : Hid (Below w.heap.size w (w.alloc (.cells cs.toArray 43))) := (Below.refl _ _).alloc (Nat.le_refl _) _
 have hwb : wb < w.heap.size := RowV.lt h.law.row
 have HK : Hid (LawK (w.alloc (.cells cs.toArray 43)) wb ps ds B) := h.below HA.out
 have HC : Hid (Calls _ _ _ (w.alloc (.cells cs.toArray 43)) _) := in_any ob oc [x0, x1, x2, x3, x4, x5, x6, x7] [e0, e1, e2, e3, e4, e5, e6, e7] l a cap _ rfl rfl hb2 (hp.below HA.out) hl hlc hc ha
 unfold headV dV u8c at HC
 unfold u8c at k7 k8 k9 k10 k11 k12 k13 k14 k15 k16 k17 k18 k19 k20 k21 k22
 simp only [List.map_cons, List.map_nil] at HC
 generalize (x0.toNat : Int) = y0 at *
 generalize (x1.toNat : Int) = y1 at *
 generalize (x2.toNat : Int) = y2 at *
 generalize (x3.toNat : Int) = y3 at *
 generalize (x4.toNat : Int) = y4 at *
 generalize (x5.toNat : Int) = y5 at *
 generalize (x6.toNat : Int) = y6 at *
 generalize (x7.toNat : Int) = y7 at *
 generalize (e0.toNat : Int) = z0 at *
 generalize (e1.toNat : Int) = z1 at *
 generalize (e2.toNat : Int) = z2 at *
 generalize (e3.toNat : Int) = z3 at *
 generalize (e4.toNat : Int) = z4 at *
 generalize (e5.toNat : Int) = z5 at *
 generalize (e6.toNat : Int) = z6 at *
 generalize (e7.toNat : Int) = z7 at *
 clear h hp ha
 go_enter Tryz.func19, Tryz.ntmps19
 go_wp2_with fail
 refine HC.out.mono ?_
 rintro v w1 ⟨rfl, hb1⟩
 have G1 : Hid (LawK w1 wb ps ds B) := HK.out.below hb1
 have G2 : Hid (Below wb w w1) := (HA.out.trans (hb1.mono HA.out.size)).mono (Nat.le_of_lt hwb)
 clear hb1 HC
 go_wp2
 go_ret
 exact ⟨rfl, B, G1.out, by omega, by omega, by omega, G2.out⟩
set_option maxRecDepth 100000 in
set_option maxHeartbeats 1000000 in
theorem free_on (cs : List Value) (ob oc : Int) (x0 x1 x2 x3 x4 x5 x6 x7 e0 e1 e2 e3 e4 e5 e6 e7 : UInt8) (l : List (List UInt8)) (a : Option Addr) (cap : Nat) (wb : Nat) (ps : SlR) (ds : List PairD) (B : BookD) (w : World) (h : LawK w wb ps ds B) (k0 : cs[0]? = some (.int .i64 13)) (k2 : cs[2]? = some (.int .i64 ob)) (k3 : cs[3]? = some (.int .i64 oc)) (k7 : cs[7]? = some (u8c x0)) (k8 : cs[8]? = some (u8c x1)) (k9 : cs[9]? = some (u8c x2)) (k10 : cs[10]? = some (u8c x3)) (k11 : cs[11]? = some (u8c x4)) (k12 : cs[12]? = some (u8c x5)) (k13 : cs[13]? = some (u8c x6)) (k14 : cs[14]? = some (u8c x7)) (k15 : cs[15]? = some (u8c e0)) (k16 : cs[16]? = some (u8c e1)) (k17 : cs[17]? = some (u8c e2)) (k18 : cs[18]? = some (u8c e3)) (k19 : cs[19]? = some (u8c e4)) (k20 : cs[20]? = some (u8c e5)) (k21 : cs[21]? = some (u8c e6)) (k22 : cs[22]? = some (u8c e7)) (k23 : cs[23]? = some (.slice a l.length cap))
  (hb2 : ob ≤ 9223372036854775807) (hp : SlD w a l) (hl : l.length ≤ 17592186044416) (hlc : l.length ≤ cap) (hc : cap ≤ 9223372036854775807) (ha : (a = none ∧ l = [] ∧ cap = 0) ∨ ∃ ad, a = some ad) :
  Calls Tryz.prog 19 #[.pointer (some ⟨wb, 0, none⟩), .agg cs.toArray] w (StepK 0 0 0 wb ps ds B w) := by
 have HA : Hid (Below w.heap.size w (w.alloc (.cells cs.toArray 43))) := (Below.refl _ _).alloc (Nat.le_refl _) _
 have hwb : wb < w.heap.size := RowV.lt h.law.row
 have HK : Hid (LawK (w.alloc (.cells cs.toArray 43)) wb ps ds B) := h.below HA.out
 have HC : Hid (Calls _ _ _ (w.alloc (.cells cs.toArray 43)) _) := on_any oc ob [e0, e1, e2, e3, e4, e5, e6, e7] [x0, x1, x2, x3, x4, x5, x6, x7] l a cap _ rfl rfl hb2 (hp.below HA.out) hl hlc hc ha
 unfold headV u8c at HC
 unfold u8c at k7 k8 k9 k10 k11 k12 k13 k14 k15 k16 k17 k18 k19 k20 k21 k22
 simp only [List.map_cons, List.map_nil] at HC
 generalize (x0.toNat : Int) = y0 at *
 generalize (x1.toNat : Int) = y1 at *
 generalize (x2.toNat : Int) = y2 at *
 generalize (x3.toNat : Int) = y3 at *
 generalize (x4.toNat : Int) = y4 at *
 generalize (x5.toNat : Int) = y5 at *
 generalize (x6.toNat : Int) = y6 at *
 generalize (x7.toNat : Int) = y7 at *
 generalize (e0.toNat : Int) = z0 at *
 generalize (e1.toNat : Int) = z1 at *
 generalize (e2.toNat : Int) = z2 at *
 generalize (e3.toNat : Int) = z3 at *
 generalize (e4.toNat : Int) = z4 at *
 generalize (e5.toNat : Int) = z5 at *
 generalize (e6.toNat : Int) = z6 at *
 generalize (e7.toNat : Int) = z7 at *
 clear h hp ha
 go_enter Tryz.func19, Tryz.ntmps19
 go_wp2_with fail
 refine HC.out.mono ?_
 rintro v w1 ⟨rfl, hb1⟩
 have G1 : Hid (LawK w1 wb ps ds B) := HK.out.below hb1
 have G2 : Hid (Below wb w w1) := (HA.out.trans (hb1.mono HA.out.size)).mono (Nat.le_of_lt hwb)
 clear hb1 HC
 go_wp2
 go_ret
 exact ⟨rfl, B, G1.out, by omega, by omega, by omega, G2.out⟩
theorem kInv_path (mr mg mh : Nat) (w wr : World) (q : Nat) (o : OpR) (hI : kInv mr mg mh w q wr) (hcq : CapQ mr mg mh q) (hk : o.kind = 12 ∨ o.kind = 13) (hb : o.b ≤ 9223372036854775807) (hc' : o.c ≤ 9223372036854775807) (hp : PathAt w o.path) :
  Calls Tryz.prog 12 #[.pointer (some ⟨w.heap.size, 0, none⟩), .agg o.cells.toArray] wr fun e w' => e = .returned (.bool true) ∧ kInv mr mg mh w (q + 1) w' := by
 obtain ⟨h1, ps, ds, B, h2, h3, h4, h5, h6, h7⟩ := hI
 have hb' : Below wr.heap.size wr (wr.alloc (.cells o.cells.toArray 43)) := (Below.refl _ _).alloc (Nat.le_refl _) _
 obtain ⟨a, cap, l, hv, g1, g2, g3, g4, g5⟩ := (hp.below h1).below hb'
 rcases hk with hk | hk
 ·refine step_free o.cells 12 _ wr (kInv mr mg mh w (q + 1)) rfl (by rw [← hk]; rfl) (Or.inr (Or.inr (Or.inl rfl))) ?_
  refine (free_in o.cells o.b o.c (o.d.getD 0 0) (o.d.getD 1 0) (o.d.getD 2 0) (o.d.getD 3 0) (o.d.getD 4 0) (o.d.getD 5 0) (o.d.getD 6 0) (o.d.getD 7 0) (o.e.getD 0 0) (o.e.getD 1 0) (o.e.getD 2 0) (o.e.getD 3 0) (o.e.getD 4 0) (o.e.getD 5 0) (o.e.getD 6 0) (o.e.getD 7 0) l a cap w.heap.size ps ds B _ (h2.below hb') (by rw [← hk]; rfl) rfl rfl rfl rfl rfl rfl rfl rfl rfl rfl rfl rfl rfl rfl rfl rfl rfl rfl (by rw [← hv]; rfl) hb g1 g2 g3 g4 g5).mono ?_
  intro e w' hs'
  exact kInv.next (h1.trans (hb'.mono h1.size)) h3 h4 h5 h6 hs' (Nat.zero_le _) (Nat.zero_le _) (Nat.zero_le _) hcq
 ·refine step_free o.cells 13 _ wr (kInv mr mg mh w (q + 1)) rfl (by rw [← hk]; rfl) (Or.inr (Or.inr (Or.inr rfl))) ?_
  refine (free_on o.cells o.b o.c (o.d.getD 0 0) (o.d.getD 1 0) (o.d.getD 2 0) (o.d.getD 3 0) (o.d.getD 4 0) (o.d.getD 5 0) (o.d.getD 6 0) (o.d.getD 7 0) (o.e.getD 0 0) (o.e.getD 1 0) (o.e.getD 2 0) (o.e.getD 3 0) (o.e.getD 4 0) (o.e.getD 5 0) (o.e.getD 6 0) (o.e.getD 7 0) l a cap w.heap.size ps ds B _ (h2.below hb') (by rw [← hk]; rfl) rfl rfl rfl rfl rfl rfl rfl rfl rfl rfl rfl rfl rfl rfl rfl rfl rfl rfl (by rw [← hv]; rfl) hb g1 g2 g3 g4 g5).mono ?_
  intro e w' hs'
  exact kInv.next (h1.trans (hb'.mono h1.size)) h3 h4 h5 h6 hs' (Nat.zero_le _) (Nat.zero_le _) (Nat.zero_le _) hcq
end Go.Proofs.YtekegfbjbainhaaGreat


namespace Go.Proofs.YtekegfbjbainhaaGreat
open Go.ChangeShapes Go.WideShapes Go.ChangeAt Go.RowKit Go.Deep
theorem digsC_get (l : List (List UInt8)) (h : ∀ d ∈ l, d.length = 8) (q j : Nat) (hq : q < l.length) (hj : j < 8) : (digsC l)[q * 8 + j]? = (l[q].map u8c)[j]? := by
 have hd := digsC_drop l h q (by omega)
 rw [List.drop_eq_getElem_cons hq] at hd
 rw [← List.getElem?_drop, hd]
 simp only [digsC, List.flatMap_cons]
 rw [List.getElem?_append_left (by simp [h _ (List.getElem_mem hq)]; exact hj)]
section
variable {H : Type} {enc : TypeId × Value → H}
set_option maxRecDepth 100000 in
theorem open_path {W : World} {o : OpR} (h : OpOk enc W o) : PathAt W o.path := by
 obtain ⟨_, _, _, _, _, _, m0, d0, p0, ht, hw⟩ := h
 rcases open_slice Tryz.underlying41 ht with ⟨hcs, _⟩ | ⟨a, len, cap, m, n, D, Pl, hcs, _, hl, hmx, hm, hx, hel⟩
 ·simp only [List.cons.injEq, and_true] at hcs
  exact ⟨none, 0, [], hcs, ⟨fun i hi => absurd hi (Nat.not_lt_zero _), by simp⟩, by simp, by simp, by omega, Or.inl ⟨rfl, rfl, rfl⟩⟩
 simp only [List.cons.injEq, and_true] at hcs
 simp only [Prod.mk.injEq] at hx
 obtain ⟨rfl, rfl⟩ := hx
 rw [Tryz.cellsDigR] at hel
 have hone : ∀ i, i < len → ∃ d : List UInt8, d.length = 8 ∧ ∀ j v, (d.map u8c)[j]? = some v → W.cell? ((a.add (i * 8)).add j) = some v := by
  intro i hi
  obtain ⟨cs', hc, ht'⟩ := hel i (by rw [hm]; simp; omega)
  obtain ⟨d, hd, rfl⟩ := open_dig ht'
  refine ⟨d, hd, fun j v hv => ?_⟩
  unfold World.cells? at hc
  rw [if_pos (Nat.zero_le _)] at hc
  have hj : j < 8 := by have := (List.getElem?_eq_some_iff.1 hv).1; simp [hd] at this; exact this
  have := mapM_some_get hc j j (by simp [hj])
  rw [this]; exact hv
 obtain ⟨f, hf⟩ := @choose_lt (List UInt8) ⟨[]⟩ len _ hone
 have hlen : ((List.range len).map f).length = len := by simp
 have h8 : ∀ d ∈ (List.range len).map f, d.length = 8 := fun d hd => by
  obtain ⟨i, hi, rfl⟩ := List.mem_map.1 hd
  exact (hf i (List.mem_range.1 hi)).1
 have hsz : len ≤ 17592186044416 := by
  have h1 := hw _ (by
   simp only [DataW.weights, Tryz.underlying41, List.mem_cons]
   exact Or.inl rfl)
  have hb : Tryz.prog.bytesOf 36 = 8 := by kernel_rfl
  rw [hb] at h1
  have hr : reachBytes = 140737488351232 := rfl
  simp at h1
  omega
 refine ⟨some a, cap, (List.range len).map f, by rw [hlen]; exact hcs, ⟨fun i hi => ?_, h8⟩, by rw [hlen]; exact hsz, by rw [hlen]; exact hl, by unfold maxLen at hmx; omega, Or.inr ⟨a, rfl⟩⟩
 have hdl := digsC_length _ h8
 rw [hlen] at hdl
 have hq : i / 8 < len := by omega
 have hj : i % 8 < 8 := Nat.mod_lt _ (by omega)
 obtain ⟨b, k, sp⟩ := a
 have hs : sp = none := by
  obtain ⟨hd0, h00⟩ := hf 0 (by omega)
  obtain ⟨x, hx⟩ : ∃ x, ((f 0).map u8c)[0]? = some x := ⟨_, List.getElem?_eq_getElem (by simp [hd0])⟩
  have := h00 0 x hx
  simpa [Addr.add] using World.cell?_spot this
 subst hs
 have hv : (digsC ((List.range len).map f))[i]? = ((f (i / 8)).map u8c)[i % 8]? := by
  have := digsC_get _ h8 (i / 8) (i % 8) (by rw [hlen]; exact hq) hj
  rw [show i / 8 * 8 + i % 8 = i by omega] at this
  rw [this]
  simp
 rw [List.getElem?_eq_getElem hi] at hv
 have hcell := (hf (i / 8) hq).2 (i % 8) _ hv.symm
 rw [addr_add, addr_add, show k + i / 8 * 8 + i % 8 = k + i by omega] at hcell
 exact ⟨b, k, rfl, cell_lt hcell, hcell⟩
end
end Go.Proofs.YtekegfbjbainhaaGreat


namespace Go.Proofs.YtekegfbjbainhaaGreat
open Go.RowKit
attribute [local go_sem ↓] Go.wp_at_zero Go.wp_at_succ
def pathF : Nat → Nat → List (List UInt8) → List (List UInt8)
 | 0, _, _ => []
 | f + 1, e, l => if l.length ≤ 1 then [] else if e < halfN l.length then pathF f e (l.take (halfN l.length)) ++ [sumF 42 (l.drop (halfN l.length))] else pathF f (e - halfN l.length) (l.drop (halfN l.length)) ++ [sumF 42 (l.take (halfN l.length))]
def extL : Nat → Nat → List (List UInt8) → Bool → List (List UInt8)
 | 0, _, _, _ => []
 | f + 1, m, l, own => if m = l.length then (if own = true then [] else [sumF 42 l]) else if m ≤ halfN l.length then extL f m (l.take (halfN l.length)) own ++ [sumF 42 (l.drop (halfN l.length))] else extL f (m - halfN l.length) (l.drop (halfN l.length)) false ++ [sumF 42 (l.take (halfN l.length))]
theorem pathF_8 : ∀ (f e : Nat) (l : List (List UInt8)), ∀ d ∈ pathF f e l, d.length = 8
 | 0, _, _, d, hd => by cases hd
 | f + 1, e, l, d, hd => by
  unfold pathF at hd
  split at hd
  ·cases hd
  ·split at hd
   ·rcases List.mem_append.1 hd with h | h
    ·exact pathF_8 f _ _ d h
    ·rw [List.mem_singleton.1 h]; exact sumF_length 41 _
   ·rcases List.mem_append.1 hd with h | h
    ·exact pathF_8 f _ _ d h
    ·rw [List.mem_singleton.1 h]; exact sumF_length 41 _
theorem extL_8 : ∀ (f m : Nat) (l : List (List UInt8)) (own : Bool), ∀ d ∈ extL f m l own, d.length = 8
 | 0, _, _, _, d, hd => by cases hd
 | f + 1, m, l, own, d, hd => by
  unfold extL at hd
  split at hd
  ·split at hd
   ·cases hd
   ·rw [List.mem_singleton.1 hd]; exact sumF_length 41 _
  ·split at hd
   ·rcases List.mem_append.1 hd with h | h
    ·exact extL_8 f _ _ _ d h
    ·rw [List.mem_singleton.1 h]; exact sumF_length 41 _
   ·rcases List.mem_append.1 hd with h | h
    ·exact extL_8 f _ _ _ d h
    ·rw [List.mem_singleton.1 h]; exact sumF_length 41 _
theorem pathF_len : ∀ (f e : Nat) (l : List (List UInt8)), (pathF f e l).length ≤ f
 | 0, _, _ => Nat.zero_le _
 | f + 1, e, l => by
  unfold pathF
  have h1 := pathF_len f e (l.take (halfN l.length))
  have h2 := pathF_len f (e - halfN l.length) (l.drop (halfN l.length))
  split
  ·simp
  ·split <;> simp <;> omega
theorem extL_len : ∀ (f m : Nat) (l : List (List UInt8)) (own : Bool), (extL f m l own).length ≤ f
 | 0, _, _, _ => Nat.zero_le _
 | f + 1, m, l, own => by
  unfold extL
  have h1 := extL_len f m (l.take (halfN l.length)) own
  have h2 := extL_len f (m - halfN l.length) (l.drop (halfN l.length)) false
  split
  ·split <;> simp
  ·split <;> simp <;> omega
def pathPost (W : World) (L : List (List UInt8)) (v : Ending) (w' : World) : Prop := ∃ s : SlR, v = .returned (.slice s.a s.n s.cap) ∧ w'.ownsRow W.heap.size 36 8 (.slice s.a s.n s.cap) L.length (digsC L) ∧ Below W.heap.size W w'
theorem digsC_snoc (L : List (List UInt8)) (d : List UInt8) : digsC (L ++ [d]) = digsC L ++ d.map u8c := by
 unfold digsC; rw [List.flatMap_append]; simp
set_option maxRecDepth 100000 in
set_option maxHeartbeats 4000000 in
theorem path_lo (l : List (List UInt8)) (b o cap : Nat) (e : Nat) (LR : List (List UInt8)) (w : World) (h2 : 2 ≤ l.length) (h40 : l.length ≤ 40) (hcap : l.length ≤ cap) (hc : cap ≤ 9223372036854775807) (hs : SlD w (some ⟨b, o, none⟩) l) (he : e < halfN l.length) (hLR : LR.length ≤ 100)
  (hIH : ∀ W, Below w.heap.size w W → Calls Tryz.prog 97 #[.int .i64 (e : Int), .slice (some ⟨b, o, none⟩) (halfN l.length) cap] W (pathPost W LR)) :
  Calls Tryz.prog 97 #[.int .i64 (e : Int), .slice (some ⟨b, o, none⟩) l.length cap] w (pathPost w (LR ++ [sumF 42 (l.drop (halfN l.length))])) := by
 have hhb := halfN_bd l.length h2
 obtain ⟨d0, d1, d2, d3, d4, d5, d6, d7, hdd⟩ := list8 (sumF 42 (l.drop (halfN l.length))) (sumF_length 41 _)
 have HHF : Hid (∀ w : World, Calls Tryz.prog 122 #[.int .i64 (l.length : Int)] w fun e w' => e = .returned (.int .i64 (halfN l.length : Int)) ∧ w' = w) := fun w => half_any _ _ (by omega)
 have HSM : Hid (∀ W, Below w.heap.size w W → Calls Tryz.prog 87 #[.slice (some ⟨b, o + halfN l.length * 8, none⟩) (l.length - halfN l.length) (cap - halfN l.length)] W fun e w' => e = .returned (dV [d0, d1, d2, d3, d4, d5, d6, d7]) ∧ Below W.heap.size W w') := fun W hW => by
  rw [← hdd]
  have h := sum_any 42 (l.drop (halfN l.length)) (some ⟨b, o + halfN l.length * 8, none⟩) (cap - halfN l.length) W (by simp; omega) (by simp; omega) (by omega) ((hs.below hW).drop _ (by omega))
  rw [List.length_drop] at h
  exact h
 rw [hdd]
 have HIH : Hid (∀ W, Below w.heap.size w W → Calls Tryz.prog 97 #[.int .i64 (e : Int), .slice (some ⟨b, o, none⟩) (halfN l.length) cap] W (pathPost W LR)) := hIH
 have HV : Hid (dV [d0, d1, d2, d3, d4, d5, d6, d7] = .agg #[Value.int .u8 (d0.toNat : Int), Value.int .u8 (d1.toNat : Int), Value.int .u8 (d2.toNat : Int), Value.int .u8 (d3.toNat : Int), Value.int .u8 (d4.toNat : Int), Value.int .u8 (d5.toNat : Int), Value.int .u8 (d6.toNat : Int), Value.int .u8 (d7.toNat : Int)]) := rfl
 have HLR : Hid (LR.length ≤ 100) := hLR
 generalize halfN l.length = k at *
 clear hIH hdd hs
 generalize l.length = n at *
 have hnI : (n : Int) ≤ 40 := by omega
 have hn2 : (2 : Int) ≤ n := by omega
 have hk1 : (1 : Int) ≤ k := by omega
 have hkn : (k : Int) < n := by omega
 have hcI : (cap : Int) ≤ 9223372036854775807 := by omega
 have hncI : (n : Int) ≤ cap := by omega
 have hkc : ¬ cap = k := by omega
 have hk0 : (0 : Int) ≤ k := by omega
 have hkcap : (k : Int) ≤ cap := by omega
 have hkn' : (k : Int) ≤ n := by omega
 have hn0 : (0 : Int) ≤ n := by omega
 have hwk : IntKind.i64.wrap (k : Int) = (k : Int) := Go.IntWalk.i64_in _ ⟨by omega, by omega⟩
 have heI : (e : Int) < k := by omega
 have hn1 : ((n : Int) == 1) = false := by rw [Bool.eq_false_iff]; simp only [ne_eq, beq_iff_eq]; omega
 go_enter Tryz.func97, Tryz.ntmps97
 go_wp2_with fail
 refine (HHF.out _).mono ?_
 rintro v w1 ⟨rfl, hw1⟩
 obtain rfl : w = w1 := hw1.symm
 clear hw1
 go_wp2
 go_region_held3 (fun _ => True) (trivial)
  ((first
   | (go_at_call 97; refine (HIH.out _ (by repeat' (first | (with_reducible exact Below.refl _ _) | (with_reducible refine Below.drew ?_)))).mono ?_; rintro v w2 hp2; unfold pathPost at hp2; obtain ⟨s2, rfl, ho2, hb2⟩ := hp2; have HB2 : Hid (Below w.heap.size w w2) := ⟨hb2.os, hb2.tape, hb2.output, hb2.size, hb2.block⟩)
   | (go_at_call 87; refine (HSM.out _ (by exact HB2.out)).mono ?_; rintro v w3 ⟨rfl, hb3⟩; rw [HV.out]; have HB3 : Hid (Below w.heap.size w w3) := HB2.out.trans (hb3.mono HB2.out.size); have HO3 : Hid (w3.ownsRow w.heap.size 36 8 (.slice s2.a s2.n s2.cap) LR.length (digsC LR)) := owns_below ho2 hb3)
   | (refine step_appendV (by rfl) (.tmp 19) (.tmp 24) 41 (by rfl) w.heap.size 36 _ 8 8 Tryz.underlying41 Tryz.infoDigP rfl (by decide) (.slice s2.a s2.n s2.cap) LR.length (digsC LR) (by rfl) (HO3.out.alloc (.cells #[Value.int .u8 (d0.toNat : Int), Value.int .u8 (d1.toNat : Int), Value.int .u8 (d2.toNat : Int), Value.int .u8 (d3.toNat : Int), Value.int .u8 (d4.toNat : Int), Value.int .u8 (d5.toNat : Int), Value.int .u8 (d6.toNat : Int), Value.int .u8 (d7.toNat : Int)] 36)) ⟨w3.heap.size, 0, none⟩ 1 1 ([d0, d1, d2, d3, d4, d5, d6, d7].map u8c) (by rfl) rfl (SlV.alloc_new w3 ([d0, d1, d2, d3, d4, d5, d6, d7].map u8c) 36) (u8c_one _) (by have := HLR.out; unfold maxLen; omega) (by have := HLR.out; omega) (by have := HB3.out.size; simp; omega) ?_; intro a4 n4 c4 w4 ho4 hf4 hat4)
   | fail))
 all_goals
  have HO4 : Hid (w4.ownsRow w.heap.size 36 8 (.slice a4 n4 c4) (LR ++ [[d0, d1, d2, d3, d4, d5, d6, d7]]).length (digsC (LR ++ [[d0, d1, d2, d3, d4, d5, d6, d7]]))) := by
   rw [digsC_snoc, List.length_append]
   exact ho4
  have HB4 : Hid (Below w.heap.size w w4) := (HB3.out.alloc HB3.out.size _).trans (hf4.below (by have := HB3.out.size; simp; omega) (fun q hq => (HO3.out.lt q hq).1))
  clear ho4 hf4 hat4 ho2 hb2 hb3
  go_wp2
  go_returns
  exact ⟨⟨a4, n4, c4⟩, rfl, HO4.out, HB4.out⟩
set_option maxRecDepth 100000 in
set_option maxHeartbeats 4000000 in
theorem path_hi (l : List (List UInt8)) (b o cap : Nat) (e : Nat) (LR : List (List UInt8)) (w : World) (h2 : 2 ≤ l.length) (h40 : l.length ≤ 40) (hcap : l.length ≤ cap) (hc : cap ≤ 9223372036854775807) (hs : SlD w (some ⟨b, o, none⟩) l) (he : halfN l.length ≤ e) (he2 : e < l.length) (hLR : LR.length ≤ 100)
  (hIH : ∀ W, Below w.heap.size w W → Calls Tryz.prog 97 #[.int .i64 ((e - halfN l.length : Nat) : Int), .slice (some ⟨b, o + halfN l.length * 8, none⟩) (l.length - halfN l.length) (cap - halfN l.length)] W (pathPost W LR)) :
  Calls Tryz.prog 97 #[.int .i64 (e : Int), .slice (some ⟨b, o, none⟩) l.length cap] w (pathPost w (LR ++ [sumF 42 (l.take (halfN l.length))])) := by
 have hhb := halfN_bd l.length h2
 obtain ⟨d0, d1, d2, d3, d4, d5, d6, d7, hdd⟩ := list8 (sumF 42 (l.take (halfN l.length))) (sumF_length 41 _)
 have HHF : Hid (∀ w : World, Calls Tryz.prog 122 #[.int .i64 (l.length : Int)] w fun e w' => e = .returned (.int .i64 (halfN l.length : Int)) ∧ w' = w) := fun w => half_any _ _ (by omega)
 have HSM : Hid (∀ W, Below w.heap.size w W → Calls Tryz.prog 87 #[.slice (some ⟨b, o, none⟩) (halfN l.length) cap] W fun e w' => e = .returned (dV [d0, d1, d2, d3, d4, d5, d6, d7]) ∧ Below W.heap.size W w') := fun W hW => by
  rw [← hdd]
  have h := sum_any 42 (l.take (halfN l.length)) (some ⟨b, o, none⟩) cap W (by simp; omega) (by simp; omega) (by omega) ((hs.below hW).take _ (by omega))
  rw [List.length_take, Nat.min_eq_left (by omega)] at h
  exact h
 rw [hdd]
 have HIH : Hid (∀ W, Below w.heap.size w W → Calls Tryz.prog 97 #[.int .i64 ((e - halfN l.length : Nat) : Int), .slice (some ⟨b, o + halfN l.length * 8, none⟩) (l.length - halfN l.length) (cap - halfN l.length)] W (pathPost W LR)) := hIH
 have HV : Hid (dV [d0, d1, d2, d3, d4, d5, d6, d7] = .agg #[Value.int .u8 (d0.toNat : Int), Value.int .u8 (d1.toNat : Int), Value.int .u8 (d2.toNat : Int), Value.int .u8 (d3.toNat : Int), Value.int .u8 (d4.toNat : Int), Value.int .u8 (d5.toNat : Int), Value.int .u8 (d6.toNat : Int), Value.int .u8 (d7.toNat : Int)]) := rfl
 have HLR : Hid (LR.length ≤ 100) := hLR
 generalize halfN l.length = k at *
 clear hIH hdd hs
 generalize l.length = n at *
 have hnI : (n : Int) ≤ 40 := by omega
 have hn2 : (2 : Int) ≤ n := by omega
 have hk1 : (1 : Int) ≤ k := by omega
 have hkn : (k : Int) < n := by omega
 have hcI : (cap : Int) ≤ 9223372036854775807 := by omega
 have hncI : (n : Int) ≤ cap := by omega
 have hkc : ¬ cap = k := by omega
 have hk0 : (0 : Int) ≤ k := by omega
 have hkcap : (k : Int) ≤ cap := by omega
 have hkn' : (k : Int) ≤ n := by omega
 have hn0 : (0 : Int) ≤ n := by omega
 have hwk : IntKind.i64.wrap (k : Int) = (k : Int) := Go.IntWalk.i64_in _ ⟨by omega, by omega⟩
 have heI : ¬ (e : Int) < k := by omega
 have hek : (e : Int) - k = ((e - k : Nat) : Int) := by omega
 generalize hqq : (e - k : Nat) = ek at *
 have hwe : IntKind.i64.wrap (ek : Int) = (ek : Int) := Go.IntWalk.i64_in _ ⟨by omega, by omega⟩
 have hwd : IntKind.i64.wrap ((e : Int) - (k : Int)) = (ek : Int) := by rw [hek]; exact hwe
 clear hqq
 have hn1 : ((n : Int) == 1) = false := by rw [Bool.eq_false_iff]; simp only [ne_eq, beq_iff_eq]; omega
 have heN : (e : Int) ≤ 40 := by omega
 go_enter Tryz.func97, Tryz.ntmps97
 go_wp2_with fail
 refine (HHF.out _).mono ?_
 rintro v w1 ⟨rfl, hw1⟩
 obtain rfl : w = w1 := hw1.symm
 clear hw1
 go_wp2
 go_region_held3 (fun _ => True) (trivial)
  ((first
   | (go_at_call 97; refine (HIH.out _ (by repeat' (first | (with_reducible exact Below.refl _ _) | (with_reducible refine Below.drew ?_)))).mono ?_; rintro v w2 hp2; unfold pathPost at hp2; obtain ⟨s2, rfl, ho2, hb2⟩ := hp2; have HB2 : Hid (Below w.heap.size w w2) := ⟨hb2.os, hb2.tape, hb2.output, hb2.size, hb2.block⟩)
   | (go_at_call 87; refine (HSM.out _ (by exact HB2.out)).mono ?_; rintro v w3 ⟨rfl, hb3⟩; rw [HV.out]; have HB3 : Hid (Below w.heap.size w w3) := HB2.out.trans (hb3.mono HB2.out.size); have HO3 : Hid (w3.ownsRow w.heap.size 36 8 (.slice s2.a s2.n s2.cap) LR.length (digsC LR)) := owns_below ho2 hb3)
   | (refine step_appendV (by rfl) (.tmp 32) (.tmp 37) 41 (by rfl) w.heap.size 36 _ 8 8 Tryz.underlying41 Tryz.infoDigP rfl (by decide) (.slice s2.a s2.n s2.cap) LR.length (digsC LR) (by rfl) (HO3.out.alloc (.cells #[Value.int .u8 (d0.toNat : Int), Value.int .u8 (d1.toNat : Int), Value.int .u8 (d2.toNat : Int), Value.int .u8 (d3.toNat : Int), Value.int .u8 (d4.toNat : Int), Value.int .u8 (d5.toNat : Int), Value.int .u8 (d6.toNat : Int), Value.int .u8 (d7.toNat : Int)] 36)) ⟨w3.heap.size, 0, none⟩ 1 1 ([d0, d1, d2, d3, d4, d5, d6, d7].map u8c) (by rfl) rfl (SlV.alloc_new w3 ([d0, d1, d2, d3, d4, d5, d6, d7].map u8c) 36) (u8c_one _) (by have := HLR.out; unfold maxLen; omega) (by have := HLR.out; omega) (by have := HB3.out.size; simp; omega) ?_; intro a4 n4 c4 w4 ho4 hf4 hat4)
   | fail))
 all_goals
  have HO4 : Hid (w4.ownsRow w.heap.size 36 8 (.slice a4 n4 c4) (LR ++ [[d0, d1, d2, d3, d4, d5, d6, d7]]).length (digsC (LR ++ [[d0, d1, d2, d3, d4, d5, d6, d7]]))) := by
   rw [digsC_snoc, List.length_append]
   exact ho4
  have HB4 : Hid (Below w.heap.size w w4) := (HB3.out.alloc HB3.out.size _).trans (hf4.below (by have := HB3.out.size; simp; omega) (fun q hq => (HO3.out.lt q hq).1))
  clear ho4 hf4 hat4 ho2 hb2 hb3
  go_wp2
  go_returns
  exact ⟨⟨a4, n4, c4⟩, rfl, HO4.out, HB4.out⟩
set_option maxRecDepth 100000 in
set_option maxHeartbeats 4000000 in
theorem incl_lo (l : List (List UInt8)) (b o cap : Nat) (e : Nat) (LR : List (List UInt8)) (w : World) (h2 : 2 ≤ l.length) (h40 : l.length ≤ 40) (hcap : l.length ≤ cap) (hc : cap ≤ 9223372036854775807) (hs : SlD w (some ⟨b, o, none⟩) l) (he : e < halfN l.length) (hLR : LR.length ≤ 100)
  (hIH : ∀ W, Below w.heap.size w W → Calls Tryz.prog 95 #[.slice (some ⟨b, o, none⟩) (halfN l.length) cap, .int .i64 (e : Int)] W (pathPost W LR)) :
  Calls Tryz.prog 95 #[.slice (some ⟨b, o, none⟩) l.length cap, .int .i64 (e : Int)] w (pathPost w (LR ++ [sumF 42 (l.drop (halfN l.length))])) := by
 have hhb := halfN_bd l.length h2
 obtain ⟨d0, d1, d2, d3, d4, d5, d6, d7, hdd⟩ := list8 (sumF 42 (l.drop (halfN l.length))) (sumF_length 41 _)
 have HHF : Hid (∀ w : World, Calls Tryz.prog 128 #[.int .i64 (l.length : Int)] w fun e w' => e = .returned (.int .i64 (halfN l.length : Int)) ∧ w' = w) := fun w => first_all _ _ (by omega) (by omega)
 have HSM : Hid (∀ W, Below w.heap.size w W → Calls Tryz.prog 119 #[.slice (some ⟨b, o + halfN l.length * 8, none⟩) (l.length - halfN l.length) (cap - halfN l.length)] W fun e w' => e = .returned (dV [d0, d1, d2, d3, d4, d5, d6, d7]) ∧ Below W.heap.size W w') := fun W hW => by
  rw [← hdd]
  have h := sumP_any 42 (l.drop (halfN l.length)) (some ⟨b, o + halfN l.length * 8, none⟩) (cap - halfN l.length) W (by simp; omega) (by simp; omega) (by simp; omega) (by omega) ((hs.below hW).drop _ (by omega))
  rw [List.length_drop] at h
  exact h
 rw [hdd]
 have HIH : Hid (∀ W, Below w.heap.size w W → Calls Tryz.prog 95 #[.slice (some ⟨b, o, none⟩) (halfN l.length) cap, .int .i64 (e : Int)] W (pathPost W LR)) := hIH
 have HV : Hid (dV [d0, d1, d2, d3, d4, d5, d6, d7] = .agg #[Value.int .u8 (d0.toNat : Int), Value.int .u8 (d1.toNat : Int), Value.int .u8 (d2.toNat : Int), Value.int .u8 (d3.toNat : Int), Value.int .u8 (d4.toNat : Int), Value.int .u8 (d5.toNat : Int), Value.int .u8 (d6.toNat : Int), Value.int .u8 (d7.toNat : Int)]) := rfl
 have HLR : Hid (LR.length ≤ 100) := hLR
 generalize halfN l.length = k at *
 clear hIH hdd hs
 generalize l.length = n at *
 have hnI : (n : Int) ≤ 40 := by omega
 have hn2 : (2 : Int) ≤ n := by omega
 have hk1 : (1 : Int) ≤ k := by omega
 have hkn : (k : Int) < n := by omega
 have hcI : (cap : Int) ≤ 9223372036854775807 := by omega
 have hncI : (n : Int) ≤ cap := by omega
 have hkc : ¬ cap = k := by omega
 have hk0 : (0 : Int) ≤ k := by omega
 have hkcap : (k : Int) ≤ cap := by omega
 have hkn' : (k : Int) ≤ n := by omega
 have hn0 : (0 : Int) ≤ n := by omega
 have hwk : IntKind.i64.wrap (k : Int) = (k : Int) := Go.IntWalk.i64_in _ ⟨by omega, by omega⟩
 have heI : (e : Int) < k := by omega
 have hn1 : ((n : Int) == 1) = false := by rw [Bool.eq_false_iff]; simp only [ne_eq, beq_iff_eq]; omega
 go_enter Tryz.func95, Tryz.ntmps95
 go_wp2_with fail
 refine (HHF.out _).mono ?_
 rintro v w1 ⟨rfl, hw1⟩
 obtain rfl : w = w1 := hw1.symm
 clear hw1
 go_wp2
 go_region_held3 (fun _ => True) (trivial)
  ((first
   | (go_at_call 95; refine (HIH.out _ (by repeat' (first | (with_reducible exact Below.refl _ _) | (with_reducible refine Below.drew ?_)))).mono ?_; rintro v w2 hp2; unfold pathPost at hp2; obtain ⟨s2, rfl, ho2, hb2⟩ := hp2; have HB2 : Hid (Below w.heap.size w w2) := ⟨hb2.os, hb2.tape, hb2.output, hb2.size, hb2.block⟩)
   | (go_at_call 119; refine (HSM.out _ (by exact HB2.out)).mono ?_; rintro v w3 ⟨rfl, hb3⟩; rw [HV.out]; have HB3 : Hid (Below w.heap.size w w3) := HB2.out.trans (hb3.mono HB2.out.size); have HO3 : Hid (w3.ownsRow w.heap.size 36 8 (.slice s2.a s2.n s2.cap) LR.length (digsC LR)) := owns_below ho2 hb3)
   | (refine step_appendV (by rfl) (.tmp 19) (.tmp 24) 41 (by rfl) w.heap.size 36 _ 8 8 Tryz.underlying41 Tryz.infoDigP rfl (by decide) (.slice s2.a s2.n s2.cap) LR.length (digsC LR) (by rfl) (HO3.out.alloc (.cells #[Value.int .u8 (d0.toNat : Int), Value.int .u8 (d1.toNat : Int), Value.int .u8 (d2.toNat : Int), Value.int .u8 (d3.toNat : Int), Value.int .u8 (d4.toNat : Int), Value.int .u8 (d5.toNat : Int), Value.int .u8 (d6.toNat : Int), Value.int .u8 (d7.toNat : Int)] 36)) ⟨w3.heap.size, 0, none⟩ 1 1 ([d0, d1, d2, d3, d4, d5, d6, d7].map u8c) (by rfl) rfl (SlV.alloc_new w3 ([d0, d1, d2, d3, d4, d5, d6, d7].map u8c) 36) (u8c_one _) (by have := HLR.out; unfold maxLen; omega) (by have := HLR.out; omega) (by have := HB3.out.size; simp; omega) ?_; intro a4 n4 c4 w4 ho4 hf4 hat4)
   | fail))
 all_goals
  have HO4 : Hid (w4.ownsRow w.heap.size 36 8 (.slice a4 n4 c4) (LR ++ [[d0, d1, d2, d3, d4, d5, d6, d7]]).length (digsC (LR ++ [[d0, d1, d2, d3, d4, d5, d6, d7]]))) := by
   rw [digsC_snoc, List.length_append]
   exact ho4
  have HB4 : Hid (Below w.heap.size w w4) := (HB3.out.alloc HB3.out.size _).trans (hf4.below (by have := HB3.out.size; simp; omega) (fun q hq => (HO3.out.lt q hq).1))
  clear ho4 hf4 hat4 ho2 hb2 hb3
  go_wp2
  go_returns
  exact ⟨⟨a4, n4, c4⟩, rfl, HO4.out, HB4.out⟩
set_option maxRecDepth 100000 in
set_option maxHeartbeats 4000000 in
theorem incl_hi (l : List (List UInt8)) (b o cap : Nat) (e : Nat) (LR : List (List UInt8)) (w : World) (h2 : 2 ≤ l.length) (h40 : l.length ≤ 40) (hcap : l.length ≤ cap) (hc : cap ≤ 9223372036854775807) (hs : SlD w (some ⟨b, o, none⟩) l) (he : halfN l.length ≤ e) (he2 : e < l.length) (hLR : LR.length ≤ 100)
  (hIH : ∀ W, Below w.heap.size w W → Calls Tryz.prog 95 #[.slice (some ⟨b, o + halfN l.length * 8, none⟩) (l.length - halfN l.length) (cap - halfN l.length), .int .i64 ((e - halfN l.length : Nat) : Int)] W (pathPost W LR)) :
  Calls Tryz.prog 95 #[.slice (some ⟨b, o, none⟩) l.length cap, .int .i64 (e : Int)] w (pathPost w (LR ++ [sumF 42 (l.take (halfN l.length))])) := by
 have hhb := halfN_bd l.length h2
 obtain ⟨d0, d1, d2, d3, d4, d5, d6, d7, hdd⟩ := list8 (sumF 42 (l.take (halfN l.length))) (sumF_length 41 _)
 have HHF : Hid (∀ w : World, Calls Tryz.prog 128 #[.int .i64 (l.length : Int)] w fun e w' => e = .returned (.int .i64 (halfN l.length : Int)) ∧ w' = w) := fun w => first_all _ _ (by omega) (by omega)
 have HSM : Hid (∀ W, Below w.heap.size w W → Calls Tryz.prog 119 #[.slice (some ⟨b, o, none⟩) (halfN l.length) cap] W fun e w' => e = .returned (dV [d0, d1, d2, d3, d4, d5, d6, d7]) ∧ Below W.heap.size W w') := fun W hW => by
  rw [← hdd]
  have h := sumP_any 42 (l.take (halfN l.length)) (some ⟨b, o, none⟩) cap W (by simp; omega) (by simp; omega) (by simp; omega) (by omega) ((hs.below hW).take _ (by omega))
  rw [List.length_take, Nat.min_eq_left (by omega)] at h
  exact h
 rw [hdd]
 have HIH : Hid (∀ W, Below w.heap.size w W → Calls Tryz.prog 95 #[.slice (some ⟨b, o + halfN l.length * 8, none⟩) (l.length - halfN l.length) (cap - halfN l.length), .int .i64 ((e - halfN l.length : Nat) : Int)] W (pathPost W LR)) := hIH
 have HV : Hid (dV [d0, d1, d2, d3, d4, d5, d6, d7] = .agg #[Value.int .u8 (d0.toNat : Int), Value.int .u8 (d1.toNat : Int), Value.int .u8 (d2.toNat : Int), Value.int .u8 (d3.toNat : Int), Value.int .u8 (d4.toNat : Int), Value.int .u8 (d5.toNat : Int), Value.int .u8 (d6.toNat : Int), Value.int .u8 (d7.toNat : Int)]) := rfl
 have HLR : Hid (LR.length ≤ 100) := hLR
 generalize halfN l.length = k at *
 clear hIH hdd hs
 generalize l.length = n at *
 have hnI : (n : Int) ≤ 40 := by omega
 have hn2 : (2 : Int) ≤ n := by omega
 have hk1 : (1 : Int) ≤ k := by omega
 have hkn : (k : Int) < n := by omega
 have hcI : (cap : Int) ≤ 9223372036854775807 := by omega
 have hncI : (n : Int) ≤ cap := by omega
 have hkc : ¬ cap = k := by omega
 have hk0 : (0 : Int) ≤ k := by omega
 have hkcap : (k : Int) ≤ cap := by omega
 have hkn' : (k : Int) ≤ n := by omega
 have hn0 : (0 : Int) ≤ n := by omega
 have hwk : IntKind.i64.wrap (k : Int) = (k : Int) := Go.IntWalk.i64_in _ ⟨by omega, by omega⟩
 have heI : ¬ (e : Int) < k := by omega
 have hek : (e : Int) - k = ((e - k : Nat) : Int) := by omega
 generalize hqq : (e - k : Nat) = ek at *
 have hwe : IntKind.i64.wrap (ek : Int) = (ek : Int) := Go.IntWalk.i64_in _ ⟨by omega, by omega⟩
 have hwd : IntKind.i64.wrap ((e : Int) - (k : Int)) = (ek : Int) := by rw [hek]; exact hwe
 clear hqq
 have hn1 : ((n : Int) == 1) = false := by rw [Bool.eq_false_iff]; simp only [ne_eq, beq_iff_eq]; omega
 have heN : (e : Int) ≤ 40 := by omega
 go_enter Tryz.func95, Tryz.ntmps95
 go_wp2_with fail
 refine (HHF.out _).mono ?_
 rintro v w1 ⟨rfl, hw1⟩
 obtain rfl : w = w1 := hw1.symm
 clear hw1
 go_wp2
 go_region_held3 (fun _ => True) (trivial)
  ((first
   | (go_at_call 95; refine (HIH.out _ (by repeat' (first | (with_reducible exact Below.refl _ _) | (with_reducible refine Below.drew ?_)))).mono ?_; rintro v w2 hp2; unfold pathPost at hp2; obtain ⟨s2, rfl, ho2, hb2⟩ := hp2; have HB2 : Hid (Below w.heap.size w w2) := ⟨hb2.os, hb2.tape, hb2.output, hb2.size, hb2.block⟩)
   | (go_at_call 119; refine (HSM.out _ (by exact HB2.out)).mono ?_; rintro v w3 ⟨rfl, hb3⟩; rw [HV.out]; have HB3 : Hid (Below w.heap.size w w3) := HB2.out.trans (hb3.mono HB2.out.size); have HO3 : Hid (w3.ownsRow w.heap.size 36 8 (.slice s2.a s2.n s2.cap) LR.length (digsC LR)) := owns_below ho2 hb3)
   | (refine step_appendV (by rfl) (.tmp 32) (.tmp 37) 41 (by rfl) w.heap.size 36 _ 8 8 Tryz.underlying41 Tryz.infoDigP rfl (by decide) (.slice s2.a s2.n s2.cap) LR.length (digsC LR) (by rfl) (HO3.out.alloc (.cells #[Value.int .u8 (d0.toNat : Int), Value.int .u8 (d1.toNat : Int), Value.int .u8 (d2.toNat : Int), Value.int .u8 (d3.toNat : Int), Value.int .u8 (d4.toNat : Int), Value.int .u8 (d5.toNat : Int), Value.int .u8 (d6.toNat : Int), Value.int .u8 (d7.toNat : Int)] 36)) ⟨w3.heap.size, 0, none⟩ 1 1 ([d0, d1, d2, d3, d4, d5, d6, d7].map u8c) (by rfl) rfl (SlV.alloc_new w3 ([d0, d1, d2, d3, d4, d5, d6, d7].map u8c) 36) (u8c_one _) (by have := HLR.out; unfold maxLen; omega) (by have := HLR.out; omega) (by have := HB3.out.size; simp; omega) ?_; intro a4 n4 c4 w4 ho4 hf4 hat4)
   | fail))
 all_goals
  have HO4 : Hid (w4.ownsRow w.heap.size 36 8 (.slice a4 n4 c4) (LR ++ [[d0, d1, d2, d3, d4, d5, d6, d7]]).length (digsC (LR ++ [[d0, d1, d2, d3, d4, d5, d6, d7]]))) := by
   rw [digsC_snoc, List.length_append]
   exact ho4
  have HB4 : Hid (Below w.heap.size w w4) := (HB3.out.alloc HB3.out.size _).trans (hf4.below (by have := HB3.out.size; simp; omega) (fun q hq => (HO3.out.lt q hq).1))
  clear ho4 hf4 hat4 ho2 hb2 hb3
  go_wp2
  go_returns
  exact ⟨⟨a4, n4, c4⟩, rfl, HO4.out, HB4.out⟩
end Go.Proofs.YtekegfbjbainhaaGreat
