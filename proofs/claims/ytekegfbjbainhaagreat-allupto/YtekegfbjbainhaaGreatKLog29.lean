
import Derived.Test.YtekegfbjbainhaaGreatKJoin40
import Derived.Deep.RegionHeld3
import Derived.Deep.DeepCutAuto
set_option linter.unusedVariables false
set_option linter.unusedSimpArgs false
namespace Go.Proofs.YtekegfbjbainhaaGreat
open Go.RowKit
attribute [local go_sem ↓] Go.wp_at_zero Go.wp_at_succ
theorem set8_len {L : List (List UInt8)} (h : ∀ d ∈ L, d.length = 8) {i : Nat} {z0 z1 z2 z3 z4 z5 z6 z7 : UInt8} : ∀ d ∈ L.set i [z0, z1, z2, z3, z4, z5, z6, z7], d.length = 8 := fun d hd => by
 rcases List.mem_or_eq_of_mem_set hd with h1 | rfl
 ·exact h d h1
 ·rfl
theorem owns_drew {w : World} {base e size n : Nat} {v : Value} {xs : List Value} (h : w.ownsRow base e size v n xs) : w.drew.ownsRow base e size v n xs := owns_below h (Below.refl _ _).drew
set_option maxRecDepth 100000 in
set_option maxHeartbeats 4000000 in
theorem asked_lies1 (cs : List Value) (oa ob oc : Int) (pl : List (List UInt8)) (pa : Option Addr) (pcap : Nat) (wb : Nat) (ps : SlR) (ds : List PairD) (B : BookD) (d : PairD) (w : World) (h : LawK w wb ps ds B) (hd : d ∈ ds) (h0 : 0 < d.tds.length) (k0 : cs[0]? = some (.int .i64 16)) (k1 : cs[1]? = some (.int .i64 oa)) (k2 : cs[2]? = some (.int .i64 ob)) (k3 : cs[3]? = some (.int .i64 oc)) (k23 : cs[23]? = some (.slice pa pl.length pcap))
  (ha1 : -9223372036854775808 ≤ oa) (ha2 : oa ≤ 9223372036854775807) (hb1 : -9223372036854775808 ≤ ob) (hb2 : ob ≤ 9223372036854775807) (hc1 : -9223372036854775808 ≤ oc) (hc2 : oc ≤ 9223372036854775807) (hp : SlD w pa pl) (hpl : pl.length ≤ 17592186044416) (hpz : 0 < pl.length) :
  Calls Tryz.prog 23 #[.pointer (some ⟨wb, 0, none⟩), .agg cs.toArray, .pointer (some ⟨d.pb, 0, none⟩)] w (StepK 0 0 0 wb ps ds B w) := by
 have hdk := h.law.ok d hd
 have hpb : d.pb < w.heap.size := RowV.lt hdk.lay.row
 have hwb : wb < w.heap.size := RowV.lt h.law.row
 have hkl := pickN_lt ob d.tds.length h0
 have HPK : Hid (∀ W, Calls Tryz.prog 20 #[.int .i64 ob, .int .i64 (d.tds.length : Int)] W fun e w' => e = .returned (.int .i64 (pickN ob d.tds.length : Int)) ∧ w' = W) := fun W => pick_any ob _ W hb1 hb2 h0 (by have := hdk.t40; unfold maxLen; omega)
 obtain ⟨g, s0, s1, s2, s3, s4, s5, s6, s7, hga, hgw, hgo, q0, p0, p1, p2, p3, p4, p5, p6, p7⟩ := done_head hdk _ hkl
 have hdn : d.done.n = d.tds.length := (done_root hdk _ hkl).1
 have r2 : w.cell? ⟨d.pb, 2, none⟩ = some (.slice (some ⟨g, 0, none⟩) d.tds.length d.done.cap) := by
  have : w.cell? ⟨d.pb, 2, none⟩ = some (.slice d.done.a d.done.n d.done.cap) := RowV.cell hdk.lay.row 2 (by simp)
  rw [hdn, hga] at this; exact this
 have r1 : w.cell? ⟨d.pb, 1, none⟩ = some (.pointer (some ⟨d.rb, 0, none⟩)) := RowV.cell hdk.lay.row 1 (by simp)
 have h40 : d.tds.length ≤ 40 := hdk.t40
 have HH : Hid (LawK w wb ps ds B) := h
 have HDK : Hid (PairOk w d) := hdk
 have HRL : Hid (d.rl = d.tds.map rootOf) := hdk.rl
 have HPP : Hid (SlD w pa pl) := hp
 clear h hdk hd hdn
 generalize pickN ob d.tds.length = k at *
 have hcl := pickN_lt oc (k + 1) (by omega)
 have HPC : Hid (∀ W, Calls Tryz.prog 20 #[.int .i64 oc, .int .i64 ((k : Int) + 1)] W fun e w' => e = .returned (.int .i64 (pickN oc (k + 1) : Int)) ∧ w' = W) := fun W => pick_any oc (k + 1) W hc1 hc2 (by omega) (by unfold maxLen; omega)
 generalize pickN oc (k + 1) = c at *
 obtain ⟨y0, y1, y2, y3, y4, y5, y6, y7, hy⟩ := list8 (digB []) (digB_length _)
 have HDN : Hid (∀ W, Calls Tryz.prog 10 #[.slice none 0 0] W fun e w' => e = .returned (dV [y0, y1, y2, y3, y4, y5, y6, y7]) ∧ Below W.heap.size W w') := fun W => by
  have h := refDigest_any none 0 0 [] W rfl (by simp) (SlB.nil _ _)
  rw [show dV [y0, y1, y2, y3, y4, y5, y6, y7] = dV (digB []) by rw [hy]]
  exact h
 clear hy
 have hnI : (0 : Int) < d.tds.length := by omega
 have hn40 : (d.tds.length : Int) ≤ 40 := by omega
 have hkI : (k : Int) < d.tds.length := by omega
 have hcI : (c : Int) ≤ k := by omega
 have hn0 : ((d.tds.length : Int) == 0) = false := by rw [Bool.eq_false_iff]; simp only [ne_eq, beq_iff_eq]; omega
 have HHC : Hid (0 < c → ∃ u0 u1 u2 u3 u4 u5 u6 u7 : UInt8, w.cell? ⟨g, (c - 1) * 18 + 9, none⟩ = some (.int .i64 (c : Int)) ∧ w.cell? ⟨g, (c - 1) * 18 + 9 + 1, none⟩ = some (.int .u8 (u0.toNat : Int)) ∧ w.cell? ⟨g, (c - 1) * 18 + 9 + 2, none⟩ = some (.int .u8 (u1.toNat : Int)) ∧ w.cell? ⟨g, (c - 1) * 18 + 9 + 3, none⟩ = some (.int .u8 (u2.toNat : Int)) ∧ w.cell? ⟨g, (c - 1) * 18 + 9 + 4, none⟩ = some (.int .u8 (u3.toNat : Int)) ∧ w.cell? ⟨g, (c - 1) * 18 + 9 + 5, none⟩ = some (.int .u8 (u4.toNat : Int)) ∧ w.cell? ⟨g, (c - 1) * 18 + 9 + 6, none⟩ = some (.int .u8 (u5.toNat : Int)) ∧ w.cell? ⟨g, (c - 1) * 18 + 9 + 7, none⟩ = some (.int .u8 (u6.toNat : Int)) ∧ w.cell? ⟨g, (c - 1) * 18 + 9 + 8, none⟩ = some (.int .u8 (u7.toNat : Int))) := fun hc0 => by
  obtain ⟨g3, u0, u1, u2, u3, u4, u5, u6, u7, hg3, _, _, m0, m1, m2, m3, m4, m5, m6, m7, m8⟩ := done_head HDK.out (c - 1) (by omega)
  rw [hga] at hg3
  cases hg3
  simp only [Nat.zero_add] at m0 m1 m2 m3 m4 m5 m6 m7 m8
  exact ⟨u0, u1, u2, u3, u4, u5, u6, u7, by rw [m0, show c - 1 + 1 = c by omega], m1, m2, m3, m4, m5, m6, m7, m8⟩
 obtain ⟨_, g', o', x0, x1, x2, x3, x4, x5, x6, x7, hga', _, _, e0, e1, e2, e3, e4, e5, e6, e7⟩ := done_root HDK.out c (by omega)
 rw [hga] at hga'
 cases hga'
 unfold u8c at e0 e1 e2 e3 e4 e5 e6 e7 p0 p1 p2 p3 p4 p5 p6 p7
 simp only [Nat.zero_add] at q0 p0 p1 p2 p3 p4 p5 p6 p7 e0 e1 e2 e3 e4 e5 e6 e7
 have q0' : w.cell? ⟨g, k * 18 + 9, none⟩ = some (.int .i64 ((k : Int) + 1)) := by rw [q0]; congr 2
 clear q0
 go_enter Tryz.func23, Tryz.ntmps23
 go_wp2
 go_quiet (first | (go_at_call 20; exact Calls.quiet_of_same (HPK.out _)))
 have HBq : Hid (Below w.heap.size w ((w.alloc (.cells cs.toArray 43)).drewN nq)) := by
  have hb := (Below.refl w.heap.size w).alloc (Nat.le_refl _) (.cells cs.toArray 43)
  exact ⟨hb.os, hb.tape, hb.output, hb.size, hb.block⟩
 have hW1 : w.heap.size < ((w.alloc (.cells cs.toArray 43)).drewN nq).heap.size := by
  show w.heap.size < (w.alloc (.cells cs.toArray 43)).heap.size
  simp
 have c0 : ((w.alloc (.cells cs.toArray 43)).drewN nq).cell? ⟨w.heap.size, 0, none⟩ = some (.int .i64 16) := by simp [go_sem, k0]
 have c1 : ((w.alloc (.cells cs.toArray 43)).drewN nq).cell? ⟨w.heap.size, 1, none⟩ = some (.int .i64 oa) := by simp [go_sem, k1]
 have c3 : ((w.alloc (.cells cs.toArray 43)).drewN nq).cell? ⟨w.heap.size, 3, none⟩ = some (.int .i64 oc) := by simp [go_sem, k3]
 have c23 : ((w.alloc (.cells cs.toArray 43)).drewN nq).cell? ⟨w.heap.size, 23, none⟩ = some (.slice pa pl.length pcap) := by simp [go_sem, k23]
 generalize (w.alloc (.cells cs.toArray 43)).drewN nq = w1 at *
 have hold : ∀ (b q : Nat), b < w.heap.size → w1.cell? ⟨b, q, none⟩ = w.cell? ⟨b, q, none⟩ := fun b q hb => HBq.out.cell (p := ⟨b, q, none⟩) hb
 rw [← hold _ _ hpb] at r1 r2
 have HLI : Hid (∀ W, Below w1.heap.size w1 W → Calls Tryz.prog 51 #[.pointer (some ⟨d.rb, 0, none⟩), .int .i64 (c : Int), .int .i64 ((k : Int) + 1)] W (logPost W (incS (d.tds.map rootOf) c ((k : Int) + 1)))) := fun W hW => by
  have h := refIncl_any d.rb d.now d.past d.roots d.nl d.pastL d.rl c ((k : Int) + 1) W ((HDK.out.lay.below HBq.out).below hW).ref (by rw [HRL.out]; simpa using h40)
  rw [HRL.out] at h
  exact h
 have HLE : Hid (∀ W, Below w1.heap.size w1 W → Calls Tryz.prog 55 #[.pointer (some ⟨d.rb, 0, none⟩), .int .i64 (c : Int), .int .i64 ((k : Int) + 1)] W (logPost W (extS (d.tds.map rootOf) c ((k : Int) + 1)))) := fun W hW => by
  have h := refExt_any d.rb d.now d.past d.roots d.nl d.pastL d.rl c ((k : Int) + 1) W ((HDK.out.lay.below HBq.out).below hW).ref (by rw [HRL.out]; simpa using h40)
  rw [HRL.out] at h
  exact h
 have H81 := incS_8 (d.tds.map rootOf) c ((k : Int) + 1)
 have H82 := extS_8 (d.tds.map rootOf) c ((k : Int) + 1)
 have HL1 : Hid _ := H81
 have HL2 : Hid _ := H82
 have HKP : Hid (∀ (W : World), Below w1.heap.size w1 W → ∀ (b q : Nat), b < w.heap.size → W.cell? ⟨b, q, none⟩ = w.cell? ⟨b, q, none⟩) := fun W hW b q hb => (HBq.out.trans (hW.mono HBq.out.size)).cell (p := ⟨b, q, none⟩) hb
 clear hold H81 H82
 generalize incS (d.tds.map rootOf) c ((k : Int) + 1) = L1 at *
 generalize extS (d.tds.map rootOf) c ((k : Int) + 1) = L2 at *
 generalize d.tds.length = N at *
 have hpb1 : d.pb < w1.heap.size := by omega
 have hg1 : g < w1.heap.size := by omega
 go_wp2_with fail
 refine (HPC.out _).mono ?_
 rintro v wz ⟨rfl, hwz⟩
 obtain rfl : w1 = wz := hwz.symm
 clear hwz
 go_wp2_with fail
 refine (HLI.out _ (Below.refl _ _)).mono ?_
 rintro v w2 hp2
 unfold logPost at hp2
 obtain ⟨v2, rfl, ho2, hb2⟩ := hp2
 have HO2 : Hid (w2.ownsRow w1.heap.size 36 8 (.slice v2.a v2.n v2.cap) L1.1.length (digsC L1.1)) := ho2
 have HB2 : Hid (Below w1.heap.size w1 w2) := hb2
 rw [← hb2.cell (p := ⟨d.pb, 1, none⟩) hpb1] at r1
 clear ho2 hb2
 go_wp2_with fail
 refine (HLE.out _ HB2.out).mono ?_
 rintro v w3 hp3
 unfold logPost at hp3
 obtain ⟨v3, rfl, ho3, hb3⟩ := hp3
 have HO3 : Hid (w3.ownsRow w1.heap.size 36 8 (.slice v3.a v3.n v3.cap) L2.1.length (digsC L2.1)) := owns_base ho3 (fun q hq => Nat.le_trans HB2.out.size (ho3.lt q hq).1)
 have HO23 : Hid (w3.ownsRow w1.heap.size 36 8 (.slice v2.a v2.n v2.cap) L1.1.length (digsC L1.1)) := owns_below HO2.out hb3
 have HNE : Hid (∀ q, (Value.slice v2.a v2.n v2.cap).ownBlock = some q → (Value.slice v3.a v3.n v3.cap).ownBlock = some q → False) := fun q h2 h3 => by
  have e2 := (HO2.out.lt q h2).2
  have e3 := (ho3.lt q h3).1
  omega
 have HB3 : Hid (Below w1.heap.size w1 w3) := HB2.out.trans (hb3.mono HB2.out.size)
 have keep3 : ∀ (b q : Nat), b < w1.heap.size → w3.cell? ⟨b, q, none⟩ = w1.cell? ⟨b, q, none⟩ := fun b q hb => HB3.out.cell (p := ⟨b, q, none⟩) hb
 have c1' := (keep3 _ 1 hW1).trans c1
 have c23' := (keep3 _ 23 hW1).trans c23
 clear ho3 hb3 HLI HLE HPC HPK c0 c3 r1 keep3 HO2
 rcases v2 with ⟨va, vn, vcap⟩
 rcases v3 with ⟨ua, un, ucap⟩
 rcases L1 with ⟨L1, E1⟩
 rcases L2 with ⟨L2, E2⟩
 dsimp only at *
 obtain rfl : vn = L1.length := (owns_cap (a := va) (n' := vn) (cap := vcap) HO23.out).1
 obtain rfl : un = L2.length := (owns_cap (a := ua) (n' := un) (cap := ucap) HO3.out).1
 have hL1 : L1.length ≤ 42 := HL1.out.2
 have hL2 : L2.length ≤ 42 := HL2.out.2
 have hplI : (pl.length : Int) ≤ 17592186044416 := by omega
 have hn2I : (L1.length : Int) ≤ 42 := by omega
 have hn3I : (L2.length : Int) ≤ 42 := by omega
 have H18 : Hid (∀ d ∈ L1, d.length = 8) := HL1.out.1
 have H28 : Hid (∀ d ∈ L2, d.length = 8) := HL2.out.1
 clear HL1 HL2
 have hpzI : (0 : Int) < pl.length := by omega
 obtain ⟨pb, po, rfl, hpbw, hz⟩ := HPP.out.at 0 hpz
 rw [show po + 0 * 8 = po by omega] at hz
 obtain ⟨z0, z1, z2, z3, z4, z5, z6, z7, hzz⟩ := list8 pl[0] (HPP.out.2 _ (List.getElem_mem hpz))
 rw [hzz] at hz
 go_upto_if 161 with fail
 go_cut [] (fun wx => ∃ M : List (List UInt8), Hid (M.length = L1.length) ∧ Hid (∀ d ∈ M, d.length = 8) ∧ Hid (wx.ownsRow w1.heap.size 36 8 (.slice va L1.length vcap) L1.length (digsC M)) ∧ Hid (wx.ownsRow w1.heap.size 36 8 (.slice ua L2.length ucap) L2.length (digsC L2)) ∧ Hid (Below w1.heap.size w1 wx))
 case first =>
  by_cases hlz : 0 < L1.length
  ·have hlzI : (0 : Int) < L1.length := by omega
   have hil := pickN_lt oa L1.length (by omega)
   have HPA : Hid (∀ W, Calls Tryz.prog 20 #[.int .i64 oa, .int .i64 (L1.length : Int)] W fun e w' => e = .returned (.int .i64 (pickN oa L1.length : Int)) ∧ w' = W) := fun W => pick_any oa _ W ha1 ha2 (by omega) (by unfold maxLen; omega)
   generalize pickN oa L1.length = i at *
   have hilI : (i : Int) < L1.length := by omega
   obtain ⟨g2, hva, hg2o, hgl⟩ : ∃ g, va = some ⟨g, 0, none⟩ ∧ w1.heap.size ≤ g ∧ g < w3.heap.size := by
    rcases (owns_cap (a := va) (n' := L1.length) (cap := vcap) HO23.out).2.2.2 with ⟨_, h0, _⟩ | h
    ·omega
    ·exact h
   subst hva
   have z0c : w3.cell? ⟨pb, po, none⟩ = some (.int .u8 (z0.toNat : Int)) := by rw [HKP.out _ HB3.out _ _ hpbw]; exact hz 0 _ rfl
   have z1c : w3.cell? ⟨pb, po + 1, none⟩ = some (.int .u8 (z1.toNat : Int)) := by rw [HKP.out _ HB3.out _ _ hpbw]; exact hz 1 _ rfl
   have z2c : w3.cell? ⟨pb, po + 2, none⟩ = some (.int .u8 (z2.toNat : Int)) := by rw [HKP.out _ HB3.out _ _ hpbw]; exact hz 2 _ rfl
   have z3c : w3.cell? ⟨pb, po + 3, none⟩ = some (.int .u8 (z3.toNat : Int)) := by rw [HKP.out _ HB3.out _ _ hpbw]; exact hz 3 _ rfl
   have z4c : w3.cell? ⟨pb, po + 4, none⟩ = some (.int .u8 (z4.toNat : Int)) := by rw [HKP.out _ HB3.out _ _ hpbw]; exact hz 4 _ rfl
   have z5c : w3.cell? ⟨pb, po + 5, none⟩ = some (.int .u8 (z5.toNat : Int)) := by rw [HKP.out _ HB3.out _ _ hpbw]; exact hz 5 _ rfl
   have z6c : w3.cell? ⟨pb, po + 6, none⟩ = some (.int .u8 (z6.toNat : Int)) := by rw [HKP.out _ HB3.out _ _ hpbw]; exact hz 6 _ rfl
   have z7c : w3.cell? ⟨pb, po + 7, none⟩ = some (.int .u8 (z7.toNat : Int)) := by rw [HKP.out _ HB3.out _ _ hpbw]; exact hz 7 _ rfl
   have hDL := digsC_length L1 H18.out
   have hix : i * 8 + 7 < L1.length * 8 := by omega
   obtain ⟨u0, hu0⟩ : ∃ u, (digsC L1)[i * 8]? = some u := ⟨_, List.getElem?_eq_getElem (by rw [hDL]; omega)⟩
   have d0 := World.ownsRow.cellAt HO23.out (i * 8) (by omega)
   rw [hu0] at d0
   have f0 := World.ownsRow.frozenAt HO23.out (i * 8)
   obtain ⟨u1, hu1⟩ : ∃ u, (digsC L1)[i * 8 + 1]? = some u := ⟨_, List.getElem?_eq_getElem (by rw [hDL]; omega)⟩
   have d1 := World.ownsRow.cellAt HO23.out (i * 8 + 1) (by omega)
   rw [hu1] at d1
   have f1 := World.ownsRow.frozenAt HO23.out (i * 8 + 1)
   obtain ⟨u2, hu2⟩ : ∃ u, (digsC L1)[i * 8 + 2]? = some u := ⟨_, List.getElem?_eq_getElem (by rw [hDL]; omega)⟩
   have d2 := World.ownsRow.cellAt HO23.out (i * 8 + 2) (by omega)
   rw [hu2] at d2
   have f2 := World.ownsRow.frozenAt HO23.out (i * 8 + 2)
   obtain ⟨u3, hu3⟩ : ∃ u, (digsC L1)[i * 8 + 3]? = some u := ⟨_, List.getElem?_eq_getElem (by rw [hDL]; omega)⟩
   have d3 := World.ownsRow.cellAt HO23.out (i * 8 + 3) (by omega)
   rw [hu3] at d3
   have f3 := World.ownsRow.frozenAt HO23.out (i * 8 + 3)
   obtain ⟨u4, hu4⟩ : ∃ u, (digsC L1)[i * 8 + 4]? = some u := ⟨_, List.getElem?_eq_getElem (by rw [hDL]; omega)⟩
   have d4 := World.ownsRow.cellAt HO23.out (i * 8 + 4) (by omega)
   rw [hu4] at d4
   have f4 := World.ownsRow.frozenAt HO23.out (i * 8 + 4)
   obtain ⟨u5, hu5⟩ : ∃ u, (digsC L1)[i * 8 + 5]? = some u := ⟨_, List.getElem?_eq_getElem (by rw [hDL]; omega)⟩
   have d5 := World.ownsRow.cellAt HO23.out (i * 8 + 5) (by omega)
   rw [hu5] at d5
   have f5 := World.ownsRow.frozenAt HO23.out (i * 8 + 5)
   obtain ⟨u6, hu6⟩ : ∃ u, (digsC L1)[i * 8 + 6]? = some u := ⟨_, List.getElem?_eq_getElem (by rw [hDL]; omega)⟩
   have d6 := World.ownsRow.cellAt HO23.out (i * 8 + 6) (by omega)
   rw [hu6] at d6
   have f6 := World.ownsRow.frozenAt HO23.out (i * 8 + 6)
   obtain ⟨u7, hu7⟩ : ∃ u, (digsC L1)[i * 8 + 7]? = some u := ⟨_, List.getElem?_eq_getElem (by rw [hDL]; omega)⟩
   have d7 := World.ownsRow.cellAt HO23.out (i * 8 + 7) (by omega)
   rw [hu7] at d7
   have f7 := World.ownsRow.frozenAt HO23.out (i * 8 + 7)
   have hg2w : g2 ≠ w.heap.size := by omega
   have hg2p : g2 ≠ pb := by omega
   have hg2w' : ¬ w.heap.size = g2 := by omega
   have hg2p' : ¬ pb = g2 := by omega
   go_wp2
   go_region_held3 (fun W' => W'.cell? ⟨w.heap.size, 1, none⟩ = some (.int .i64 oa) ∧ W'.cell? ⟨w.heap.size, 23, none⟩ = some (.slice (some ⟨pb, po, none⟩) pl.length pcap) ∧ W'.cell? ⟨pb, po, none⟩ = some (.int .u8 (z0.toNat : Int)) ∧ W'.cell? ⟨pb, po + 1, none⟩ = some (.int .u8 (z1.toNat : Int)) ∧ W'.cell? ⟨pb, po + 2, none⟩ = some (.int .u8 (z2.toNat : Int)) ∧ W'.cell? ⟨pb, po + 3, none⟩ = some (.int .u8 (z3.toNat : Int)) ∧ W'.cell? ⟨pb, po + 4, none⟩ = some (.int .u8 (z4.toNat : Int)) ∧ W'.cell? ⟨pb, po + 5, none⟩ = some (.int .u8 (z5.toNat : Int)) ∧ W'.cell? ⟨pb, po + 6, none⟩ = some (.int .u8 (z6.toNat : Int)) ∧ W'.cell? ⟨pb, po + 7, none⟩ = some (.int .u8 (z7.toNat : Int))) (go_keep)
    ((go_at_call 20; refine (HPA.out _).mono ?_; rintro v wz ⟨rfl, rfl⟩))
   have hput := own_put8 (i := i) (z0 := z0) (z1 := z1) (z2 := z2) (z3 := z3) (z4 := z4) (z5 := z5) (z6 := z6) (z7 := z7) HO23.out rfl H18.out hil
   go_wp2
   go_meet
   exact ⟨L1.set i [z0, z1, z2, z3, z4, z5, z6, z7], List.length_set, set8_len H18.out, owns_drew hput.1, owns_drew (owns_frame HO3.out hput.2.1 (fun q hq e => HNE.out q (by rw [e]; rfl) hq)), Below.drew (HB3.out.trans (hput.2.1.below HB3.out.size (fun q e => by omega)))⟩
  ·have hlzI : ¬ (0 : Int) < L1.length := by omega
   go_wp2
   go_meet
   exact ⟨L1, rfl, H18, HO23, HO3, HB3⟩
 case rest =>
  obtain ⟨M, HMl, HM8, HOM, HO3, HBc⟩ := hcut
  have c1' : wc.cell? ⟨w.heap.size, 1, none⟩ = some (.int .i64 oa) := (HBc.out.cell (p := ⟨w.heap.size, 1, none⟩) hW1).trans c1
  have c23' : wc.cell? ⟨w.heap.size, 23, none⟩ = some (.slice (some ⟨pb, po, none⟩) pl.length pcap) := (HBc.out.cell (p := ⟨w.heap.size, 23, none⟩) hW1).trans c23
  go_upto_if 181 with fail
  go_cut [] (fun wx => ∃ M' : List (List UInt8), Hid (M'.length = L2.length) ∧ Hid (∀ d ∈ M', d.length = 8) ∧ Hid (wx.ownsRow w1.heap.size 36 8 (.slice va L1.length vcap) L1.length (digsC M)) ∧ Hid (wx.ownsRow w1.heap.size 36 8 (.slice ua L2.length ucap) L2.length (digsC M')) ∧ Hid (Below w1.heap.size w1 wx))
  case first =>
   by_cases hlz : 0 < L2.length
   ·have hlzI : (0 : Int) < L2.length := by omega
    have hil := pickN_lt oa L2.length (by omega)
    have HPA : Hid (∀ W, Calls Tryz.prog 20 #[.int .i64 oa, .int .i64 (L2.length : Int)] W fun e w' => e = .returned (.int .i64 (pickN oa L2.length : Int)) ∧ w' = W) := fun W => pick_any oa _ W ha1 ha2 (by omega) (by unfold maxLen; omega)
    generalize pickN oa L2.length = i at *
    have hilI : (i : Int) < L2.length := by omega
    obtain ⟨g2, hva, hg2o, hgl⟩ : ∃ g, ua = some ⟨g, 0, none⟩ ∧ w1.heap.size ≤ g ∧ g < wc.heap.size := by
     rcases (owns_cap (a := ua) (n' := L2.length) (cap := ucap) HO3.out).2.2.2 with ⟨_, h0, _⟩ | h
     ·omega
     ·exact h
    subst hva
    have z0c : wc.cell? ⟨pb, po, none⟩ = some (.int .u8 (z0.toNat : Int)) := by rw [HKP.out _ HBc.out _ _ hpbw]; exact hz 0 _ rfl
    have z1c : wc.cell? ⟨pb, po + 1, none⟩ = some (.int .u8 (z1.toNat : Int)) := by rw [HKP.out _ HBc.out _ _ hpbw]; exact hz 1 _ rfl
    have z2c : wc.cell? ⟨pb, po + 2, none⟩ = some (.int .u8 (z2.toNat : Int)) := by rw [HKP.out _ HBc.out _ _ hpbw]; exact hz 2 _ rfl
    have z3c : wc.cell? ⟨pb, po + 3, none⟩ = some (.int .u8 (z3.toNat : Int)) := by rw [HKP.out _ HBc.out _ _ hpbw]; exact hz 3 _ rfl
    have z4c : wc.cell? ⟨pb, po + 4, none⟩ = some (.int .u8 (z4.toNat : Int)) := by rw [HKP.out _ HBc.out _ _ hpbw]; exact hz 4 _ rfl
    have z5c : wc.cell? ⟨pb, po + 5, none⟩ = some (.int .u8 (z5.toNat : Int)) := by rw [HKP.out _ HBc.out _ _ hpbw]; exact hz 5 _ rfl
    have z6c : wc.cell? ⟨pb, po + 6, none⟩ = some (.int .u8 (z6.toNat : Int)) := by rw [HKP.out _ HBc.out _ _ hpbw]; exact hz 6 _ rfl
    have z7c : wc.cell? ⟨pb, po + 7, none⟩ = some (.int .u8 (z7.toNat : Int)) := by rw [HKP.out _ HBc.out _ _ hpbw]; exact hz 7 _ rfl
    have hDL := digsC_length L2 H28.out
    have hix : i * 8 + 7 < L2.length * 8 := by omega
    obtain ⟨u0, hu0⟩ : ∃ u, (digsC L2)[i * 8]? = some u := ⟨_, List.getElem?_eq_getElem (by rw [hDL]; omega)⟩
    have d0 := World.ownsRow.cellAt HO3.out (i * 8) (by omega)
    rw [hu0] at d0
    have f0 := World.ownsRow.frozenAt HO3.out (i * 8)
    obtain ⟨u1, hu1⟩ : ∃ u, (digsC L2)[i * 8 + 1]? = some u := ⟨_, List.getElem?_eq_getElem (by rw [hDL]; omega)⟩
    have d1 := World.ownsRow.cellAt HO3.out (i * 8 + 1) (by omega)
    rw [hu1] at d1
    have f1 := World.ownsRow.frozenAt HO3.out (i * 8 + 1)
    obtain ⟨u2, hu2⟩ : ∃ u, (digsC L2)[i * 8 + 2]? = some u := ⟨_, List.getElem?_eq_getElem (by rw [hDL]; omega)⟩
    have d2 := World.ownsRow.cellAt HO3.out (i * 8 + 2) (by omega)
    rw [hu2] at d2
    have f2 := World.ownsRow.frozenAt HO3.out (i * 8 + 2)
    obtain ⟨u3, hu3⟩ : ∃ u, (digsC L2)[i * 8 + 3]? = some u := ⟨_, List.getElem?_eq_getElem (by rw [hDL]; omega)⟩
    have d3 := World.ownsRow.cellAt HO3.out (i * 8 + 3) (by omega)
    rw [hu3] at d3
    have f3 := World.ownsRow.frozenAt HO3.out (i * 8 + 3)
    obtain ⟨u4, hu4⟩ : ∃ u, (digsC L2)[i * 8 + 4]? = some u := ⟨_, List.getElem?_eq_getElem (by rw [hDL]; omega)⟩
    have d4 := World.ownsRow.cellAt HO3.out (i * 8 + 4) (by omega)
    rw [hu4] at d4
    have f4 := World.ownsRow.frozenAt HO3.out (i * 8 + 4)
    obtain ⟨u5, hu5⟩ : ∃ u, (digsC L2)[i * 8 + 5]? = some u := ⟨_, List.getElem?_eq_getElem (by rw [hDL]; omega)⟩
    have d5 := World.ownsRow.cellAt HO3.out (i * 8 + 5) (by omega)
    rw [hu5] at d5
    have f5 := World.ownsRow.frozenAt HO3.out (i * 8 + 5)
    obtain ⟨u6, hu6⟩ : ∃ u, (digsC L2)[i * 8 + 6]? = some u := ⟨_, List.getElem?_eq_getElem (by rw [hDL]; omega)⟩
    have d6 := World.ownsRow.cellAt HO3.out (i * 8 + 6) (by omega)
    rw [hu6] at d6
    have f6 := World.ownsRow.frozenAt HO3.out (i * 8 + 6)
    obtain ⟨u7, hu7⟩ : ∃ u, (digsC L2)[i * 8 + 7]? = some u := ⟨_, List.getElem?_eq_getElem (by rw [hDL]; omega)⟩
    have d7 := World.ownsRow.cellAt HO3.out (i * 8 + 7) (by omega)
    rw [hu7] at d7
    have f7 := World.ownsRow.frozenAt HO3.out (i * 8 + 7)
    have hg2w : g2 ≠ w.heap.size := by omega
    have hg2p : g2 ≠ pb := by omega
    have hg2w' : ¬ w.heap.size = g2 := by omega
    have hg2p' : ¬ pb = g2 := by omega
    go_wp2
    go_region_held3 (fun W' => W'.cell? ⟨w.heap.size, 1, none⟩ = some (.int .i64 oa) ∧ W'.cell? ⟨w.heap.size, 23, none⟩ = some (.slice (some ⟨pb, po, none⟩) pl.length pcap) ∧ W'.cell? ⟨pb, po, none⟩ = some (.int .u8 (z0.toNat : Int)) ∧ W'.cell? ⟨pb, po + 1, none⟩ = some (.int .u8 (z1.toNat : Int)) ∧ W'.cell? ⟨pb, po + 2, none⟩ = some (.int .u8 (z2.toNat : Int)) ∧ W'.cell? ⟨pb, po + 3, none⟩ = some (.int .u8 (z3.toNat : Int)) ∧ W'.cell? ⟨pb, po + 4, none⟩ = some (.int .u8 (z4.toNat : Int)) ∧ W'.cell? ⟨pb, po + 5, none⟩ = some (.int .u8 (z5.toNat : Int)) ∧ W'.cell? ⟨pb, po + 6, none⟩ = some (.int .u8 (z6.toNat : Int)) ∧ W'.cell? ⟨pb, po + 7, none⟩ = some (.int .u8 (z7.toNat : Int))) (go_keep)
     ((go_at_call 20; refine (HPA.out _).mono ?_; rintro v wz ⟨rfl, rfl⟩))
    have hput := own_put8 (i := i) (z0 := z0) (z1 := z1) (z2 := z2) (z3 := z3) (z4 := z4) (z5 := z5) (z6 := z6) (z7 := z7) HO3.out rfl H28.out hil
    go_wp2
    go_meet
    exact ⟨L2.set i [z0, z1, z2, z3, z4, z5, z6, z7], List.length_set, set8_len H28.out, owns_drew (owns_frame HOM.out hput.2.1 (fun q hq e => HNE.out q hq (by rw [e]; rfl))), owns_drew hput.1, Below.drew (HBc.out.trans (hput.2.1.below HBc.out.size (fun q e => by omega)))⟩
   ·have hlzI : ¬ (0 : Int) < L2.length := by omega
    go_wp2
    go_meet
    exact ⟨L2, rfl, H28, HOM, HO3, HBc⟩
  case rest =>
   obtain ⟨M', HNl, HN8, HOM, HON', HBc⟩ := hcut
   have hMl := HMl.out
   have hNl := HNl.out
   clear c1' c23' c1 c23 hz
   go_wp2_with fail
   refine (HDN.out _).mono ?_
   rintro v w6 ⟨rfl, hb6⟩
   have HB6 : Hid (Below w1.heap.size w1 w6) := HBc.out.trans (hb6.mono HBc.out.size)
   have HBw : Hid (Below wc.heap.size wc w6) := hb6
   clear hb6
   unfold dV u8c
   simp only [List.map_cons, List.map_nil]
   have HBY : Hid (Below w1.heap.size w1 (w6.alloc (.cells #[.int .i64 0, Value.int .u8 (y0.toNat : Int), Value.int .u8 (y1.toNat : Int), Value.int .u8 (y2.toNat : Int), Value.int .u8 (y3.toNat : Int), Value.int .u8 (y4.toNat : Int), Value.int .u8 (y5.toNat : Int), Value.int .u8 (y6.toNat : Int), Value.int .u8 (y7.toNat : Int)] 98))) := HB6.out.alloc HB6.out.size _
   have r26 : (w6.alloc (.cells #[.int .i64 0, Value.int .u8 (y0.toNat : Int), Value.int .u8 (y1.toNat : Int), Value.int .u8 (y2.toNat : Int), Value.int .u8 (y3.toNat : Int), Value.int .u8 (y4.toNat : Int), Value.int .u8 (y5.toNat : Int), Value.int .u8 (y6.toNat : Int), Value.int .u8 (y7.toNat : Int)] 98)).cell? ⟨d.pb, 2, none⟩ = some (.slice (some ⟨g, 0, none⟩) N d.done.cap) := by
    rw [HBY.out.cell (p := ⟨d.pb, 2, none⟩) hpb1]; exact r2
   go_upto_if 196 with fail
   go_cut [] (fun wx => ∃ t0 t1 t2 t3 t4 t5 t6 t7 : UInt8, Hid (RowV wx w6.heap.size 98 [.int .i64 (c : Int), Value.int .u8 (t0.toNat : Int), Value.int .u8 (t1.toNat : Int), Value.int .u8 (t2.toNat : Int), Value.int .u8 (t3.toNat : Int), Value.int .u8 (t4.toNat : Int), Value.int .u8 (t5.toNat : Int), Value.int .u8 (t6.toNat : Int), Value.int .u8 (t7.toNat : Int)]) ∧ Hid (Below wc.heap.size wc wx))
   case first => as_aux_lemma =>
    by_cases hc0 : c = 0
    ·have hcz : ¬ (0 : Int) < c := by omega
     have HC0 : Hid (c = 0) := hc0
     clear hc0
     go_wp2
     go_meet
     exact ⟨y0, y1, y2, y3, y4, y5, y6, y7, by unfold Hid; rw [HC0.out]; exact RowV.new w6 98 [.int .i64 0, Value.int .u8 (y0.toNat : Int), Value.int .u8 (y1.toNat : Int), Value.int .u8 (y2.toNat : Int), Value.int .u8 (y3.toNat : Int), Value.int .u8 (y4.toNat : Int), Value.int .u8 (y5.toNat : Int), Value.int .u8 (y6.toNat : Int), Value.int .u8 (y7.toNat : Int)], HBw.out.alloc HBw.out.size _⟩
    ·have hcz : (0 : Int) < c := by omega
     obtain ⟨u0, u1, u2, u3, u4, u5, u6, u7, h00, hh0, hh1, hh2, hh3, hh4, hh5, hh6, hh7⟩ := HHC.out (by omega)
     have hcm : (c : Int) - 1 = ((c - 1 : Nat) : Int) := by omega
     have hcm2 : ((c - 1 : Nat) : Int) < N := by omega
     have hcN : (c : Int) ≤ 40 := by omega
     generalize (c - 1 : Nat) = cm at *
     have f0 : (w6.alloc (.cells #[.int .i64 0, Value.int .u8 (y0.toNat : Int), Value.int .u8 (y1.toNat : Int), Value.int .u8 (y2.toNat : Int), Value.int .u8 (y3.toNat : Int), Value.int .u8 (y4.toNat : Int), Value.int .u8 (y5.toNat : Int), Value.int .u8 (y6.toNat : Int), Value.int .u8 (y7.toNat : Int)] 98)).cell? ⟨g, cm * 18 + 9, none⟩ = _ := (HKP.out _ HBY.out _ _ hgw).trans h00
     have f1 : (w6.alloc (.cells #[.int .i64 0, Value.int .u8 (y0.toNat : Int), Value.int .u8 (y1.toNat : Int), Value.int .u8 (y2.toNat : Int), Value.int .u8 (y3.toNat : Int), Value.int .u8 (y4.toNat : Int), Value.int .u8 (y5.toNat : Int), Value.int .u8 (y6.toNat : Int), Value.int .u8 (y7.toNat : Int)] 98)).cell? ⟨g, cm * 18 + 9 + 1, none⟩ = _ := (HKP.out _ HBY.out _ _ hgw).trans hh0
     have f2 : (w6.alloc (.cells #[.int .i64 0, Value.int .u8 (y0.toNat : Int), Value.int .u8 (y1.toNat : Int), Value.int .u8 (y2.toNat : Int), Value.int .u8 (y3.toNat : Int), Value.int .u8 (y4.toNat : Int), Value.int .u8 (y5.toNat : Int), Value.int .u8 (y6.toNat : Int), Value.int .u8 (y7.toNat : Int)] 98)).cell? ⟨g, cm * 18 + 9 + 2, none⟩ = _ := (HKP.out _ HBY.out _ _ hgw).trans hh1
     have f3 : (w6.alloc (.cells #[.int .i64 0, Value.int .u8 (y0.toNat : Int), Value.int .u8 (y1.toNat : Int), Value.int .u8 (y2.toNat : Int), Value.int .u8 (y3.toNat : Int), Value.int .u8 (y4.toNat : Int), Value.int .u8 (y5.toNat : Int), Value.int .u8 (y6.toNat : Int), Value.int .u8 (y7.toNat : Int)] 98)).cell? ⟨g, cm * 18 + 9 + 3, none⟩ = _ := (HKP.out _ HBY.out _ _ hgw).trans hh2
     have f4 : (w6.alloc (.cells #[.int .i64 0, Value.int .u8 (y0.toNat : Int), Value.int .u8 (y1.toNat : Int), Value.int .u8 (y2.toNat : Int), Value.int .u8 (y3.toNat : Int), Value.int .u8 (y4.toNat : Int), Value.int .u8 (y5.toNat : Int), Value.int .u8 (y6.toNat : Int), Value.int .u8 (y7.toNat : Int)] 98)).cell? ⟨g, cm * 18 + 9 + 4, none⟩ = _ := (HKP.out _ HBY.out _ _ hgw).trans hh3
     have f5 : (w6.alloc (.cells #[.int .i64 0, Value.int .u8 (y0.toNat : Int), Value.int .u8 (y1.toNat : Int), Value.int .u8 (y2.toNat : Int), Value.int .u8 (y3.toNat : Int), Value.int .u8 (y4.toNat : Int), Value.int .u8 (y5.toNat : Int), Value.int .u8 (y6.toNat : Int), Value.int .u8 (y7.toNat : Int)] 98)).cell? ⟨g, cm * 18 + 9 + 5, none⟩ = _ := (HKP.out _ HBY.out _ _ hgw).trans hh4
     have f6 : (w6.alloc (.cells #[.int .i64 0, Value.int .u8 (y0.toNat : Int), Value.int .u8 (y1.toNat : Int), Value.int .u8 (y2.toNat : Int), Value.int .u8 (y3.toNat : Int), Value.int .u8 (y4.toNat : Int), Value.int .u8 (y5.toNat : Int), Value.int .u8 (y6.toNat : Int), Value.int .u8 (y7.toNat : Int)] 98)).cell? ⟨g, cm * 18 + 9 + 6, none⟩ = _ := (HKP.out _ HBY.out _ _ hgw).trans hh5
     have f7 : (w6.alloc (.cells #[.int .i64 0, Value.int .u8 (y0.toNat : Int), Value.int .u8 (y1.toNat : Int), Value.int .u8 (y2.toNat : Int), Value.int .u8 (y3.toNat : Int), Value.int .u8 (y4.toNat : Int), Value.int .u8 (y5.toNat : Int), Value.int .u8 (y6.toNat : Int), Value.int .u8 (y7.toNat : Int)] 98)).cell? ⟨g, cm * 18 + 9 + 7, none⟩ = _ := (HKP.out _ HBY.out _ _ hgw).trans hh6
     have f8 : (w6.alloc (.cells #[.int .i64 0, Value.int .u8 (y0.toNat : Int), Value.int .u8 (y1.toNat : Int), Value.int .u8 (y2.toNat : Int), Value.int .u8 (y3.toNat : Int), Value.int .u8 (y4.toNat : Int), Value.int .u8 (y5.toNat : Int), Value.int .u8 (y6.toNat : Int), Value.int .u8 (y7.toNat : Int)] 98)).cell? ⟨g, cm * 18 + 9 + 8, none⟩ = _ := (HKP.out _ HBY.out _ _ hgw).trans hh7
     go_wp2
     go_meet
     exact ⟨u0, u1, u2, u3, u4, u5, u6, u7, RowV.new w6 98 [.int .i64 (c : Int), Value.int .u8 (u0.toNat : Int), Value.int .u8 (u1.toNat : Int), Value.int .u8 (u2.toNat : Int), Value.int .u8 (u3.toNat : Int), Value.int .u8 (u4.toNat : Int), Value.int .u8 (u5.toNat : Int), Value.int .u8 (u6.toNat : Int), Value.int .u8 (u7.toNat : Int)], HBw.out.alloc HBw.out.size _⟩
   case rest => as_aux_lemma =>
    obtain ⟨t0, t1, t2, t3, t4, t5, t6, t7, HT, HBx⟩ := hcut
    have HBC : Hid (Below w1.heap.size w1 wc) := HBc.out.trans (HBx.out.mono HBc.out.size)
    have r27 : wc.cell? ⟨d.pb, 2, none⟩ = some (.slice (some ⟨g, 0, none⟩) N d.done.cap) := by
     rw [HBC.out.cell (p := ⟨d.pb, 2, none⟩) hpb1]; exact r2
    have b0 : wc.cell? ⟨g, k * 18 + 9, none⟩ = some (.int .i64 ((k : Int) + 1)) := (HKP.out _ HBC.out _ _ hgw).trans q0'
    have b1 : wc.cell? ⟨g, k * 18 + 9 + 1, none⟩ = some (.int .u8 (s0.toNat : Int)) := (HKP.out _ HBC.out _ _ hgw).trans p0
    have b2 : wc.cell? ⟨g, k * 18 + 9 + 2, none⟩ = some (.int .u8 (s1.toNat : Int)) := (HKP.out _ HBC.out _ _ hgw).trans p1
    have b3 : wc.cell? ⟨g, k * 18 + 9 + 3, none⟩ = some (.int .u8 (s2.toNat : Int)) := (HKP.out _ HBC.out _ _ hgw).trans p2
    have b4 : wc.cell? ⟨g, k * 18 + 9 + 4, none⟩ = some (.int .u8 (s3.toNat : Int)) := (HKP.out _ HBC.out _ _ hgw).trans p3
    have b5 : wc.cell? ⟨g, k * 18 + 9 + 5, none⟩ = some (.int .u8 (s4.toNat : Int)) := (HKP.out _ HBC.out _ _ hgw).trans p4
    have b6 : wc.cell? ⟨g, k * 18 + 9 + 6, none⟩ = some (.int .u8 (s5.toNat : Int)) := (HKP.out _ HBC.out _ _ hgw).trans p5
    have b7 : wc.cell? ⟨g, k * 18 + 9 + 7, none⟩ = some (.int .u8 (s6.toNat : Int)) := (HKP.out _ HBC.out _ _ hgw).trans p6
    have b8 : wc.cell? ⟨g, k * 18 + 9 + 8, none⟩ = some (.int .u8 (s7.toNat : Int)) := (HKP.out _ HBC.out _ _ hgw).trans p7
    have a0 : wc.cell? ⟨g, c * 18 + 1, none⟩ = some (.int .u8 (x0.toNat : Int)) := (HKP.out _ HBC.out _ _ hgw).trans e0
    have a1 : wc.cell? ⟨g, c * 18 + 1 + 1, none⟩ = some (.int .u8 (x1.toNat : Int)) := (HKP.out _ HBC.out _ _ hgw).trans e1
    have a2 : wc.cell? ⟨g, c * 18 + 1 + 2, none⟩ = some (.int .u8 (x2.toNat : Int)) := (HKP.out _ HBC.out _ _ hgw).trans e2
    have a3 : wc.cell? ⟨g, c * 18 + 1 + 3, none⟩ = some (.int .u8 (x3.toNat : Int)) := (HKP.out _ HBC.out _ _ hgw).trans e3
    have a4 : wc.cell? ⟨g, c * 18 + 1 + 4, none⟩ = some (.int .u8 (x4.toNat : Int)) := (HKP.out _ HBC.out _ _ hgw).trans e4
    have a5 : wc.cell? ⟨g, c * 18 + 1 + 5, none⟩ = some (.int .u8 (x5.toNat : Int)) := (HKP.out _ HBC.out _ _ hgw).trans e5
    have a6 : wc.cell? ⟨g, c * 18 + 1 + 6, none⟩ = some (.int .u8 (x6.toNat : Int)) := (HKP.out _ HBC.out _ _ hgw).trans e6
    have a7 : wc.cell? ⟨g, c * 18 + 1 + 7, none⟩ = some (.int .u8 (x7.toNat : Int)) := (HKP.out _ HBC.out _ _ hgw).trans e7
    have HBD : Hid (Below w1.heap.size w1 wc.drew) := HBC.out.drew
    have HIN : Hid (Calls _ _ _ _ _) := in_any ((k : Int) + 1) c [s0, s1, s2, s3, s4, s5, s6, s7] [x0, x1, x2, x3, x4, x5, x6, x7] M va vcap wc.drew rfl rfl (by omega) ⟨(SlV.ofOwn (s := ⟨va, L1.length, vcap⟩) (owns_below HOM.out HBx.out.drew)).1, HM8.out⟩ (by omega) (by have := (owns_cap (a := va) (n' := L1.length) (cap := vcap) HOM.out).2.1; omega) (by have := (owns_cap (a := va) (n' := L1.length) (cap := vcap) HOM.out).2.2.1; unfold maxLen at this; omega) (by rcases (owns_cap (a := va) (n' := L1.length) (cap := vcap) HOM.out).2.2.2 with ⟨h1, h2, h3⟩ | ⟨gg, h1, _⟩; exact Or.inl ⟨h1, List.length_eq_zero_iff.1 (by omega), h3⟩; exact Or.inr ⟨_, h1⟩)
    unfold headV dV u8c at HIN
    simp only [List.map_cons, List.map_nil] at HIN
    rw [hMl] at HIN
    have hcNI : (c : Int) < N := by omega
    have hc0I : (0 : Int) ≤ c := by omega
    go_wp2
    go_region_held3 (fun W' => W'.cell? ⟨d.pb, 2, none⟩ = some (.slice (some ⟨g, 0, none⟩) N d.done.cap) ∧ W'.cell? ⟨g, k * 18 + 9, none⟩ = some (.int .i64 ((k : Int) + 1)) ∧ W'.cell? ⟨g, k * 18 + 9 + 1, none⟩ = some (.int .u8 (s0.toNat : Int)) ∧ W'.cell? ⟨g, k * 18 + 9 + 2, none⟩ = some (.int .u8 (s1.toNat : Int)) ∧ W'.cell? ⟨g, k * 18 + 9 + 3, none⟩ = some (.int .u8 (s2.toNat : Int)) ∧ W'.cell? ⟨g, k * 18 + 9 + 4, none⟩ = some (.int .u8 (s3.toNat : Int)) ∧ W'.cell? ⟨g, k * 18 + 9 + 5, none⟩ = some (.int .u8 (s4.toNat : Int)) ∧ W'.cell? ⟨g, k * 18 + 9 + 6, none⟩ = some (.int .u8 (s5.toNat : Int)) ∧ W'.cell? ⟨g, k * 18 + 9 + 7, none⟩ = some (.int .u8 (s6.toNat : Int)) ∧ W'.cell? ⟨g, k * 18 + 9 + 8, none⟩ = some (.int .u8 (s7.toNat : Int)) ∧ W'.cell? ⟨g, c * 18 + 1, none⟩ = some (.int .u8 (x0.toNat : Int)) ∧ W'.cell? ⟨g, c * 18 + 1 + 1, none⟩ = some (.int .u8 (x1.toNat : Int)) ∧ W'.cell? ⟨g, c * 18 + 1 + 2, none⟩ = some (.int .u8 (x2.toNat : Int)) ∧ W'.cell? ⟨g, c * 18 + 1 + 3, none⟩ = some (.int .u8 (x3.toNat : Int)) ∧ W'.cell? ⟨g, c * 18 + 1 + 4, none⟩ = some (.int .u8 (x4.toNat : Int)) ∧ W'.cell? ⟨g, c * 18 + 1 + 5, none⟩ = some (.int .u8 (x5.toNat : Int)) ∧ W'.cell? ⟨g, c * 18 + 1 + 6, none⟩ = some (.int .u8 (x6.toNat : Int)) ∧ W'.cell? ⟨g, c * 18 + 1 + 7, none⟩ = some (.int .u8 (x7.toNat : Int))) (go_keep)
     ((go_at_call 38; refine HIN.out.mono ?_; rintro v w7 ⟨rfl, hb7⟩; have HB7 : Hid (Below w1.heap.size w1 w7) := HBD.out.trans (hb7.mono HBD.out.size); have nm : w7.cell? ⟨d.pb, 2, none⟩ = _ := (HKP.out _ HB7.out _ _ hpb).trans ((HKP.out _ HBC.out _ _ hpb).symm.trans r27); have n0 : w7.cell? ⟨g, k * 18 + 9, none⟩ = _ := (HKP.out _ HB7.out _ _ hgw).trans q0'; have n1 : w7.cell? ⟨g, k * 18 + 9 + 1, none⟩ = _ := (HKP.out _ HB7.out _ _ hgw).trans p0; have n2 : w7.cell? ⟨g, k * 18 + 9 + 2, none⟩ = _ := (HKP.out _ HB7.out _ _ hgw).trans p1; have n3 : w7.cell? ⟨g, k * 18 + 9 + 3, none⟩ = _ := (HKP.out _ HB7.out _ _ hgw).trans p2; have n4 : w7.cell? ⟨g, k * 18 + 9 + 4, none⟩ = _ := (HKP.out _ HB7.out _ _ hgw).trans p3; have n5 : w7.cell? ⟨g, k * 18 + 9 + 5, none⟩ = _ := (HKP.out _ HB7.out _ _ hgw).trans p4; have n6 : w7.cell? ⟨g, k * 18 + 9 + 6, none⟩ = _ := (HKP.out _ HB7.out _ _ hgw).trans p5; have n7 : w7.cell? ⟨g, k * 18 + 9 + 7, none⟩ = _ := (HKP.out _ HB7.out _ _ hgw).trans p6; have n8 : w7.cell? ⟨g, k * 18 + 9 + 8, none⟩ = _ := (HKP.out _ HB7.out _ _ hgw).trans p7; have o0 : w7.cell? ⟨g, c * 18 + 1, none⟩ = _ := (HKP.out _ HB7.out _ _ hgw).trans e0; have o1 : w7.cell? ⟨g, c * 18 + 1 + 1, none⟩ = _ := (HKP.out _ HB7.out _ _ hgw).trans e1; have o2 : w7.cell? ⟨g, c * 18 + 1 + 2, none⟩ = _ := (HKP.out _ HB7.out _ _ hgw).trans e2; have o3 : w7.cell? ⟨g, c * 18 + 1 + 3, none⟩ = _ := (HKP.out _ HB7.out _ _ hgw).trans e3; have o4 : w7.cell? ⟨g, c * 18 + 1 + 4, none⟩ = _ := (HKP.out _ HB7.out _ _ hgw).trans e4; have o5 : w7.cell? ⟨g, c * 18 + 1 + 5, none⟩ = _ := (HKP.out _ HB7.out _ _ hgw).trans e5; have o6 : w7.cell? ⟨g, c * 18 + 1 + 6, none⟩ = _ := (HKP.out _ HB7.out _ _ hgw).trans e6; have o7 : w7.cell? ⟨g, c * 18 + 1 + 7, none⟩ = _ := (HKP.out _ HB7.out _ _ hgw).trans e7))
    have hT7 : RowV w7 w6.heap.size 98 [.int .i64 (c : Int), Value.int .u8 (t0.toNat : Int), Value.int .u8 (t1.toNat : Int), Value.int .u8 (t2.toNat : Int), Value.int .u8 (t3.toNat : Int), Value.int .u8 (t4.toNat : Int), Value.int .u8 (t5.toNat : Int), Value.int .u8 (t6.toNat : Int), Value.int .u8 (t7.toNat : Int)] := RowV.past hb7 (by exact HT.out)
    have t0c : w7.cell? ⟨w6.heap.size, 0, none⟩ = some (.int .i64 (c : Int)) := RowV.cell? hT7 0
    have t1c : w7.cell? ⟨w6.heap.size, 1, none⟩ = some (.int .u8 (t0.toNat : Int)) := RowV.cell? hT7 1
    have t2c : w7.cell? ⟨w6.heap.size, 2, none⟩ = some (.int .u8 (t1.toNat : Int)) := RowV.cell? hT7 2
    have t3c : w7.cell? ⟨w6.heap.size, 3, none⟩ = some (.int .u8 (t2.toNat : Int)) := RowV.cell? hT7 3
    have t4c : w7.cell? ⟨w6.heap.size, 4, none⟩ = some (.int .u8 (t3.toNat : Int)) := RowV.cell? hT7 4
    have t5c : w7.cell? ⟨w6.heap.size, 5, none⟩ = some (.int .u8 (t4.toNat : Int)) := RowV.cell? hT7 5
    have t6c : w7.cell? ⟨w6.heap.size, 6, none⟩ = some (.int .u8 (t5.toNat : Int)) := RowV.cell? hT7 6
    have t7c : w7.cell? ⟨w6.heap.size, 7, none⟩ = some (.int .u8 (t6.toNat : Int)) := RowV.cell? hT7 7
    have t8c : w7.cell? ⟨w6.heap.size, 8, none⟩ = some (.int .u8 (t7.toNat : Int)) := RowV.cell? hT7 8
    have HW37 : Hid (Below _ _ w7.drew) := (HBx.out.drew.trans (hb7.mono HBx.out.size)).drew
    have HON : Hid (Calls _ _ _ _ _) := on_any c ((k : Int) + 1) [t0, t1, t2, t3, t4, t5, t6, t7] [s0, s1, s2, s3, s4, s5, s6, s7] M' ua ucap w7.drew rfl rfl (by omega) ⟨(SlV.ofOwn (s := ⟨ua, L2.length, ucap⟩) (owns_below HON'.out HW37.out)).1, HN8.out⟩ (by omega) (by have := (owns_cap (a := ua) (n' := L2.length) (cap := ucap) HON'.out).2.1; omega) (by have := (owns_cap (a := ua) (n' := L2.length) (cap := ucap) HON'.out).2.2.1; unfold maxLen at this; omega) (by rcases (owns_cap (a := ua) (n' := L2.length) (cap := ucap) HON'.out).2.2.2 with ⟨h1, h2, h3⟩ | ⟨gg, h1, _⟩; exact Or.inl ⟨h1, List.length_eq_zero_iff.1 (by omega), h3⟩; exact Or.inr ⟨_, h1⟩)
    unfold headV u8c at HON
    simp only [List.map_cons, List.map_nil] at HON
    rw [hNl] at HON
    have hl6 : w6.heap.size < w7.heap.size := hT7.lt
    clear HIN b0 b1 b2 b3 b4 b5 b6 b7 b8 a0 o0 a1 o1 a2 o2 a3 o3 a4 o4 a5 o5 a6 o6 a7 o7
    go_wp2
    go_region_held3 (fun W' => W'.cell? ⟨d.pb, 2, none⟩ = some (.slice (some ⟨g, 0, none⟩) N d.done.cap) ∧ W'.cell? ⟨g, k * 18 + 9, none⟩ = some (.int .i64 ((k : Int) + 1)) ∧ W'.cell? ⟨g, k * 18 + 9 + 1, none⟩ = some (.int .u8 (s0.toNat : Int)) ∧ W'.cell? ⟨g, k * 18 + 9 + 2, none⟩ = some (.int .u8 (s1.toNat : Int)) ∧ W'.cell? ⟨g, k * 18 + 9 + 3, none⟩ = some (.int .u8 (s2.toNat : Int)) ∧ W'.cell? ⟨g, k * 18 + 9 + 4, none⟩ = some (.int .u8 (s3.toNat : Int)) ∧ W'.cell? ⟨g, k * 18 + 9 + 5, none⟩ = some (.int .u8 (s4.toNat : Int)) ∧ W'.cell? ⟨g, k * 18 + 9 + 6, none⟩ = some (.int .u8 (s5.toNat : Int)) ∧ W'.cell? ⟨g, k * 18 + 9 + 7, none⟩ = some (.int .u8 (s6.toNat : Int)) ∧ W'.cell? ⟨g, k * 18 + 9 + 8, none⟩ = some (.int .u8 (s7.toNat : Int)) ∧ W'.cell? ⟨w6.heap.size, 0, none⟩ = some (.int .i64 (c : Int)) ∧ W'.cell? ⟨w6.heap.size, 1, none⟩ = some (.int .u8 (t0.toNat : Int)) ∧ W'.cell? ⟨w6.heap.size, 2, none⟩ = some (.int .u8 (t1.toNat : Int)) ∧ W'.cell? ⟨w6.heap.size, 3, none⟩ = some (.int .u8 (t2.toNat : Int)) ∧ W'.cell? ⟨w6.heap.size, 4, none⟩ = some (.int .u8 (t3.toNat : Int)) ∧ W'.cell? ⟨w6.heap.size, 5, none⟩ = some (.int .u8 (t4.toNat : Int)) ∧ W'.cell? ⟨w6.heap.size, 6, none⟩ = some (.int .u8 (t5.toNat : Int)) ∧ W'.cell? ⟨w6.heap.size, 7, none⟩ = some (.int .u8 (t6.toNat : Int)) ∧ W'.cell? ⟨w6.heap.size, 8, none⟩ = some (.int .u8 (t7.toNat : Int))) (go_keep)
     ((go_at_call 39; refine HON.out.mono ?_; rintro v w8 ⟨rfl, hb8⟩; have HB8 : Hid (Below w1.heap.size w1 w8) := HB7.out.trans (by have hq := hb8.mono HB7.out.size; exact ⟨hq.os, hq.tape, hq.output, hq.size, hq.block⟩); have hT8 : RowV w8 w6.heap.size 98 [.int .i64 (c : Int), Value.int .u8 (t0.toNat : Int), Value.int .u8 (t1.toNat : Int), Value.int .u8 (t2.toNat : Int), Value.int .u8 (t3.toNat : Int), Value.int .u8 (t4.toNat : Int), Value.int .u8 (t5.toNat : Int), Value.int .u8 (t6.toNat : Int), Value.int .u8 (t7.toNat : Int)] := RowV.past hb8 (by exact hT7); have jm : w8.cell? ⟨d.pb, 2, none⟩ = _ := (HKP.out _ HB8.out _ _ hpb).trans ((HKP.out _ HBC.out _ _ hpb).symm.trans r27); have j0 : w8.cell? ⟨g, k * 18 + 9, none⟩ = _ := (HKP.out _ HB8.out _ _ hgw).trans q0'; have j1 : w8.cell? ⟨g, k * 18 + 9 + 1, none⟩ = _ := (HKP.out _ HB8.out _ _ hgw).trans p0; have j2 : w8.cell? ⟨g, k * 18 + 9 + 2, none⟩ = _ := (HKP.out _ HB8.out _ _ hgw).trans p1; have j3 : w8.cell? ⟨g, k * 18 + 9 + 3, none⟩ = _ := (HKP.out _ HB8.out _ _ hgw).trans p2; have j4 : w8.cell? ⟨g, k * 18 + 9 + 4, none⟩ = _ := (HKP.out _ HB8.out _ _ hgw).trans p3; have j5 : w8.cell? ⟨g, k * 18 + 9 + 5, none⟩ = _ := (HKP.out _ HB8.out _ _ hgw).trans p4; have j6 : w8.cell? ⟨g, k * 18 + 9 + 6, none⟩ = _ := (HKP.out _ HB8.out _ _ hgw).trans p5; have j7 : w8.cell? ⟨g, k * 18 + 9 + 7, none⟩ = _ := (HKP.out _ HB8.out _ _ hgw).trans p6; have j8 : w8.cell? ⟨g, k * 18 + 9 + 8, none⟩ = _ := (HKP.out _ HB8.out _ _ hgw).trans p7; have l0 : w8.cell? ⟨w6.heap.size, 0, none⟩ = some (.int .i64 (c : Int)) := RowV.cell? hT8 0; have l1 : w8.cell? ⟨w6.heap.size, 1, none⟩ = some (.int .u8 (t0.toNat : Int)) := RowV.cell? hT8 1; have l2 : w8.cell? ⟨w6.heap.size, 2, none⟩ = some (.int .u8 (t1.toNat : Int)) := RowV.cell? hT8 2; have l3 : w8.cell? ⟨w6.heap.size, 3, none⟩ = some (.int .u8 (t2.toNat : Int)) := RowV.cell? hT8 3; have l4 : w8.cell? ⟨w6.heap.size, 4, none⟩ = some (.int .u8 (t3.toNat : Int)) := RowV.cell? hT8 4; have l5 : w8.cell? ⟨w6.heap.size, 5, none⟩ = some (.int .u8 (t4.toNat : Int)) := RowV.cell? hT8 5; have l6 : w8.cell? ⟨w6.heap.size, 6, none⟩ = some (.int .u8 (t5.toNat : Int)) := RowV.cell? hT8 6; have l7 : w8.cell? ⟨w6.heap.size, 7, none⟩ = some (.int .u8 (t6.toNat : Int)) := RowV.cell? hT8 7; have l8 : w8.cell? ⟨w6.heap.size, 8, none⟩ = some (.int .u8 (t7.toNat : Int)) := RowV.cell? hT8 8))
    have HBF : Hid (Below w.heap.size w w8) := HBq.out.trans (HB8.out.mono HBq.out.size)
    go_wp2
    go_ret
    exact ⟨rfl, B, HH.out.below HBF.out, by omega, by omega, by omega, HBF.out.mono (Nat.le_of_lt hwb)⟩
end Go.Proofs.YtekegfbjbainhaaGreat
