import Derived.Test.YtekegfbjbainhaaGreatKJoin33
import Derived.Test.YtekegfbjbainhaaGreatKJoin17
set_option linter.unusedVariables false
set_option linter.unusedSimpArgs false

namespace Go.Proofs.YtekegfbjbainhaaGreat
open Go.RowKit
attribute [local go_sem ↓] Go.wp_at_zero Go.wp_at_succ
set_option maxRecDepth 100000 in
set_option maxHeartbeats 4000000 in
theorem asked_range (cs : List Value) (ob oc : Int) (s t u : ByteArray) (wb : Nat) (ps : SlR) (ds : List PairD) (B : BookD) (d : PairD) (w : World) (h : LawK w wb ps ds B) (hd : d ∈ ds) (h0 : 0 < d.tds.length) (k0 : cs[0]? = some (.int .i64 15)) (k2 : cs[2]? = some (.int .i64 ob)) (k3 : cs[3]? = some (.int .i64 oc)) (k4 : cs[4]? = some (.string s)) (k5 : cs[5]? = some (.string t)) (k6 : cs[6]? = some (.string u))
  (hb1 : -9223372036854775808 ≤ ob) (hb2 : ob ≤ 9223372036854775807) (hc1 : -9223372036854775808 ≤ oc) (hc2 : oc ≤ 9223372036854775807) (hs : s.size ≤ 140737488351232) (ht : t.size ≤ 140737488351232) (hn : B.rs.length ≤ 1190000000000) (hh : B.hs.length ≤ 1200000000000) :
  Calls Tryz.prog 23 #[.pointer (some ⟨wb, 0, none⟩), .agg cs.toArray, .pointer (some ⟨d.pb, 0, none⟩)] w (StepK 2000000 0 1 wb ps ds B w) := by
 have hdk := h.law.ok d hd
 have hsm : s.data.toList.length ≤ maxLen := by simp; unfold maxLen; omega
 have HSM : Hid (s.data.toList.length ≤ maxLen) := hsm
 have HTM : Hid (t.data.toList.length ≤ maxLen) := by unfold Hid; simp; unfold maxLen; omega
 have hpb : d.pb < w.heap.size := RowV.lt hdk.lay.row
 have hwb : wb < w.heap.size := RowV.lt h.law.row
 have hkl := pickN_lt ob d.tds.length h0
 have HPK : Hid (∀ W, Calls Tryz.prog 20 #[.int .i64 ob, .int .i64 (d.tds.length : Int)] W fun e w' => e = .returned (.int .i64 (pickN ob d.tds.length : Int)) ∧ w' = W) := fun W => pick_any ob _ W hb1 hb2 h0 (by have := hdk.t40; unfold maxLen; omega)
 obtain ⟨hdn, g, o, x0, x1, x2, x3, x4, x5, x6, x7, hga, hgw, hgo, y0, y1, y2, y3, y4, y5, y6, y7⟩ := done_root hdk _ hkl
 have r2 : w.cell? ⟨d.pb, 2, none⟩ = some (.slice (some ⟨g, o, none⟩) d.tds.length d.done.cap) := by
  have : w.cell? ⟨d.pb, 2, none⟩ = some (.slice d.done.a d.done.n d.done.cap) := RowV.cell hdk.lay.row 2 (by simp)
  rw [hdn, hga] at this; exact this
 have r1 : w.cell? ⟨d.pb, 1, none⟩ = some (.pointer (some ⟨d.rb, 0, none⟩)) := RowV.cell hdk.lay.row 1 (by simp)
 have h40 : d.tds.length ≤ 40 := hdk.t40
 have HFP : Hid (d.F d.pb) := Or.inl (Or.inl rfl)
 have HFG : Hid (d.F g) := Or.inl (Or.inr hgo)
 have HDD : Hid (d ∈ ds) := hd
 have HH : Hid (LawK w wb ps ds B) := h
 have HDK : Hid (PairOk w d) := hdk
 have HN : Hid (B.rs.length ≤ 1190000000000 ∧ B.hs.length ≤ 1200000000000) := ⟨hn, hh⟩
 have HSH : Hid (∀ k : Nat, (rngB d.pp k s.data.toList t.data.toList).length ≤ 1000000) := fun k => rngB_short hdk.lay.pastR _ _ _
 clear hsm h hdk hd hn hh hdn hga hgo
 generalize pickN ob d.tds.length = k at *
 unfold u8c at y0 y1 y2 y3 y4 y5 y6 y7
 have hnI : (0 : Int) < d.tds.length := by omega
 have hn40 : (d.tds.length : Int) ≤ 40 := by omega
 have hkI : (k : Int) < d.tds.length := by omega
 have hn0 : ((d.tds.length : Int) == 0) = false := by rw [Bool.eq_false_iff]; simp only [ne_eq, beq_iff_eq]; omega
 generalize d.tds.length = N at *
 go_enter Tryz.func23, Tryz.ntmps23
 go_wp2
 go_quiet (first | (go_at_call 20; exact Calls.quiet_of_same (HPK.out _)))
 have HBq : Hid (Below w.heap.size w ((w.alloc (.cells cs.toArray 43)).drewN nq)) := by
  have hb := (Below.refl w.heap.size w).alloc (Nat.le_refl _) (.cells cs.toArray 43)
  exact ⟨hb.os, hb.tape, hb.output, hb.size, hb.block⟩
 have hW1 : w.heap.size < ((w.alloc (.cells cs.toArray 43)).drewN nq).heap.size := by
  show w.heap.size < (w.alloc (.cells cs.toArray 43)).heap.size
  simp
 have c0 : ((w.alloc (.cells cs.toArray 43)).drewN nq).cell? ⟨w.heap.size, 0, none⟩ = some (.int .i64 15) := by simp [go_sem, k0]
 have c3 : ((w.alloc (.cells cs.toArray 43)).drewN nq).cell? ⟨w.heap.size, 3, none⟩ = some (.int .i64 oc) := by simp [go_sem, k3]
 have c4 : ((w.alloc (.cells cs.toArray 43)).drewN nq).cell? ⟨w.heap.size, 4, none⟩ = some (.string s) := by simp [go_sem, k4]
 have c5 : ((w.alloc (.cells cs.toArray 43)).drewN nq).cell? ⟨w.heap.size, 5, none⟩ = some (.string t) := by simp [go_sem, k5]
 have c6 : ((w.alloc (.cells cs.toArray 43)).drewN nq).cell? ⟨w.heap.size, 6, none⟩ = some (.string u) := by simp [go_sem, k6]
 have c2 : ((w.alloc (.cells cs.toArray 43)).drewN nq).cell? ⟨w.heap.size, 2, none⟩ = some (.int .i64 ob) := by simp [go_sem, k2]
 generalize (w.alloc (.cells cs.toArray 43)).drewN nq = w1 at *
 have hold : ∀ (b q : Nat), b < w.heap.size → w1.cell? ⟨b, q, none⟩ = w.cell? ⟨b, q, none⟩ := fun b q hb => HBq.out.cell (p := ⟨b, q, none⟩) hb
 rw [← hold _ _ hpb] at r1 r2
 rw [← hold _ _ hgw] at y0 y1 y2 y3 y4 y5 y6 y7
 have HP1 := HDK.out.lay.below HBq.out
 have hcv := fun w => run_bytes_of_string (P := Tryz.prog) w 9 38 5 s Tryz.underlying9 Tryz.underlying38 Tryz.underlying5
 have hcu := fun w => run_bytes_of_string (P := Tryz.prog) w 9 38 5 t Tryz.underlying9 Tryz.underlying38 Tryz.underlying5
 have HREF : Hid (∀ (W : World) (a' : Option Addr) (n' cap' : Nat) (a'' : Option Addr) (n'' cap'' : Nat), Below w1.heap.size w1 W → BS W ⟨a', n', cap'⟩ s.data.toList → BS W ⟨a'', n'', cap''⟩ t.data.toList → Calls Tryz.prog 49 #[.pointer (some ⟨d.rb, 0, none⟩), .int .i64 (k : Int), .slice a' n' cap', .slice a'' n'' cap''] W fun r w' => ∃ v' : SlR, r = .returned (.tuple #[.slice v'.a v'.n v'.cap, .int .i64 (rngE d.pp.length k s.data.toList t.data.toList : Int)]) ∧ OwnB w' W.heap.size v'.val (rngB d.pp k s.data.toList t.data.toList) ∧ Below W.heap.size W w') := fun W a' n' cap' a'' n'' cap'' hb hbs hbt => by
  have hr := ref_range d.rb d.now d.past d.roots d.nl d.pastL d.rl k ⟨a', n', cap'⟩ ⟨a'', n'', cap''⟩ s.data.toList t.data.toList W (HP1.below hb).ref (by rw [HDK.out.pl]; exact HDK.out.t40) (fun q hq => HP1.pastR _ (by rw [← HDK.out.pst]; exact List.mem_map_of_mem hq)) hbs hbt HSM.out HTM.out
  rw [HDK.out.pst] at hr
  exact hr
 have hpb1 : d.pb < w1.heap.size := by omega
 have hg1 : g < w1.heap.size := by omega
 have HHD : Hid (∀ (b q : Nat), b < w.heap.size → w1.cell? ⟨b, q, none⟩ = w.cell? ⟨b, q, none⟩) := hold
 clear HP1 hold
 go_wp2
 go_cut [13, 14] (fun bv fv wx => ∃ v4 : SlR, bv = .slice v4.a v4.n v4.cap ∧ fv = .int .i64 (rngE d.pp.length k s.data.toList t.data.toList : Int) ∧ Hid (Below w1.heap.size w1 wx) ∧ Hid (OwnB wx w1.heap.size v4.val (rngB d.pp k s.data.toList t.data.toList)))
 case first =>
  go_region_held_law (fun W => W.cell? ⟨d.pb, 1, none⟩ = some (.pointer (some ⟨d.rb, 0, none⟩)) ∧ W.cell? ⟨w.heap.size, 4, none⟩ = some (.string s) ∧ W.cell? ⟨w.heap.size, 5, none⟩ = some (.string t)) (go_keep)
   ((go_at_call 49; refine (HREF.out _ _ _ _ _ _ _ (by repeat' (first | (with_reducible exact Below.refl _ _) | (with_reducible refine Below.drew ?_) | (with_reducible refine Below.alloc ?_ ?_ _) | omega | (simp only [World.size_alloc, World.size_drew]; omega))) (by repeat' (first | (with_reducible refine bs_ofString _ _ _ _ _ _ ?_; simp) | (with_reducible refine BS.drew ?_) | (with_reducible refine bs_alloc ?_ _))) (by repeat' (first | (with_reducible refine bs_ofString _ _ _ _ _ _ ?_; simp) | (with_reducible refine BS.drew ?_) | (with_reducible refine bs_alloc ?_ _)))).mono ?_; rintro r w4 ⟨v4, rfl, ho4, hb4⟩; have HB4 : Hid (Below w1.heap.size w1 w4) := Below.trans (by repeat' (first | (with_reducible exact Below.refl _ _) | (with_reducible refine Below.drew ?_) | (with_reducible refine Below.alloc ?_ ?_ _) | omega | (simp only [World.size_alloc, World.size_drew]; omega))) (Below.mono hb4 (by simp; omega)); have HO4 : Hid (OwnB w4 w1.heap.size v4.val (rngB d.pp k s.data.toList t.data.toList)) := owns_base ho4 (fun k hk => (by have h1 := (ho4.lt k hk).1; simp at h1; omega)); clear ho4 hb4; have e1 : w4.cell? ⟨d.pb, 1, none⟩ = some (.pointer (some ⟨d.rb, 0, none⟩)) := (by rw [HB4.out.cell (p := ⟨d.pb, 1, none⟩) (by show d.pb < w1.heap.size; omega)]; exact r1); have e4 : w4.cell? ⟨w.heap.size, 4, none⟩ = some (.string s) := (by rw [HB4.out.cell (p := ⟨w.heap.size, 4, none⟩) (by show w.heap.size < w1.heap.size; omega)]; exact c4); have e5 : w4.cell? ⟨w.heap.size, 5, none⟩ = some (.string t) := (by rw [HB4.out.cell (p := ⟨w.heap.size, 5, none⟩) (by show w.heap.size < w1.heap.size; omega)]; exact c5)))
  all_goals
   go_wp2
   go_meet
   exact ⟨v4, rfl, rfl, HB4, HO4⟩
 case rest =>
  obtain ⟨v4, rfl, rfl, HB4, HO4⟩ := hcut
  have hbc := HB4.out
  have HLN : Hid ((rngB d.pp k s.data.toList t.data.toList).length ≤ 1000000) := HSH.out k
  have keepc : ∀ (b q : Nat), b < w1.heap.size → wc.cell? ⟨b, q, none⟩ = w1.cell? ⟨b, q, none⟩ := fun b q hb => hbc.cell (p := ⟨b, q, none⟩) hb
  have HT : Hid (Calls _ _ _ _ _) := turned_any v4 (rngB d.pp k s.data.toList t.data.toList) oc u w1.heap.size wc.drew (owns_below HO4.out ⟨rfl, rfl, rfl, Nat.le_refl _, fun _ _ => rfl⟩) (by have := HLN.out; omega) hc1 hc2
  have HOL : Hid (∀ k', v4.val.ownBlock = some k' → w1.heap.size ≤ k') := fun k' hk' => (HO4.out.lt k' hk').1
  unfold SlR.val at HT HOL
  rw [← keepc _ _ hpb1] at r2
  rw [← keepc _ _ hg1] at y0 y1 y2 y3 y4 y5 y6 y7
  rw [← keepc _ _ hW1] at c3 c4 c5 c6
  have HNW : Hid (w.heap.size ≠ wb) := by unfold Hid; omega
  have HNB : Hid (¬ B.F w.heap.size) := fun e => by have := HH.out.lt _ e; omega
  have HZC : Hid (w1.heap.size ≤ wc.heap.size) := hbc.size
  have HCK : Hid (∀ (W : World) (pf : ByteArray), LawK W wb ps ds B → pf.size ≤ 1000000 → Calls Tryz.prog 37 #[.pointer (some ⟨wb, 0, none⟩), dV [x0, x1, x2, x3, x4, x5, x6, x7], .string s, .string t, .string pf] W fun e w' => e = .returned (.bool true) ∧ ∃ B' : BookD, LawK w' wb ps ds B' ∧ B'.rs.length ≤ B.rs.length + 2000000 ∧ B'.gs = B.gs ∧ B'.hs.length = B.hs.length + 1 ∧ Frame (fun k => k = wb ∨ B.F k) W w') := fun W pf hW hpf => by
   refine (world_checks [x0, x1, x2, x3, x4, x5, x6, x7] s t pf wb ps ds B W hW rfl hs ht (by omega) (by have := HN.out.1; omega) HN.out.2).mono ?_
   rintro e w' ⟨h0, B', h1, h2, h3⟩
   exact ⟨h0, B', h1, by omega, h3⟩
  unfold dV u8c at HCK
  simp only [List.map_cons, List.map_nil] at HCK
  clear HREF hbc keepc HO4 c0 c2 hcv hcu r1 HHD HPK HSM HTM HDK
  go_wp2
  go_region_held3 (fun W => W.cell? ⟨d.pb, 2, none⟩ = some (.slice (some ⟨g, o, none⟩) N d.done.cap) ∧ W.cell? ⟨g, o + k * 18 + 1, none⟩ = some (.int .u8 (x0.toNat : Int)) ∧ W.cell? ⟨g, o + k * 18 + 1 + 1, none⟩ = some (.int .u8 (x1.toNat : Int)) ∧ W.cell? ⟨g, o + k * 18 + 1 + 2, none⟩ = some (.int .u8 (x2.toNat : Int)) ∧ W.cell? ⟨g, o + k * 18 + 1 + 3, none⟩ = some (.int .u8 (x3.toNat : Int)) ∧ W.cell? ⟨g, o + k * 18 + 1 + 4, none⟩ = some (.int .u8 (x4.toNat : Int)) ∧ W.cell? ⟨g, o + k * 18 + 1 + 5, none⟩ = some (.int .u8 (x5.toNat : Int)) ∧ W.cell? ⟨g, o + k * 18 + 1 + 6, none⟩ = some (.int .u8 (x6.toNat : Int)) ∧ W.cell? ⟨g, o + k * 18 + 1 + 7, none⟩ = some (.int .u8 (x7.toNat : Int)) ∧ W.cell? ⟨w.heap.size, 3, none⟩ = some (.int .i64 oc) ∧ W.cell? ⟨w.heap.size, 4, none⟩ = some (.string s) ∧ W.cell? ⟨w.heap.size, 5, none⟩ = some (.string t) ∧ W.cell? ⟨w.heap.size, 6, none⟩ = some (.string u)) (go_keep)
   ((first
    | (go_at_call 56; refine HT.out.mono ?_; rintro r w5 ⟨L', hL', rfl, hf5⟩; have HB5 : Hid (Below w1.heap.size wc w5) := (by have hq := hf5.below (B := w1.heap.size) (by exact HZC.out) (fun k hk => HOL.out k hk); exact ⟨hq.os, hq.tape, hq.output, hq.size, hq.block⟩); have HKE : ∀ (b q : Nat), b < w1.heap.size → w5.cell? ⟨b, q, none⟩ = wc.cell? ⟨b, q, none⟩ := (fun b q hb => HB5.out.cell (p := ⟨b, q, none⟩) hb); have bP : w5.cell? ⟨d.pb, 2, none⟩ = _ := (HKE _ 2 hpb1).trans r2; have b0 : w5.cell? ⟨g, (o + k * 18 + 1), none⟩ = _ := (HKE _ _ hg1).trans y0; have b1 : w5.cell? ⟨g, (o + k * 18 + 1 + 1), none⟩ = _ := (HKE _ _ hg1).trans y1; have b2 : w5.cell? ⟨g, (o + k * 18 + 1 + 2), none⟩ = _ := (HKE _ _ hg1).trans y2; have b3 : w5.cell? ⟨g, (o + k * 18 + 1 + 3), none⟩ = _ := (HKE _ _ hg1).trans y3; have b4 : w5.cell? ⟨g, (o + k * 18 + 1 + 4), none⟩ = _ := (HKE _ _ hg1).trans y4; have b5 : w5.cell? ⟨g, (o + k * 18 + 1 + 5), none⟩ = _ := (HKE _ _ hg1).trans y5; have b6 : w5.cell? ⟨g, (o + k * 18 + 1 + 6), none⟩ = _ := (HKE _ _ hg1).trans y6; have b7 : w5.cell? ⟨g, (o + k * 18 + 1 + 7), none⟩ = _ := (HKE _ _ hg1).trans y7; have bC3 : w5.cell? ⟨w.heap.size, 3, none⟩ = _ := (HKE _ 3 hW1).trans c3; have bC4 : w5.cell? ⟨w.heap.size, 4, none⟩ = _ := (HKE _ 4 hW1).trans c4; have bC5 : w5.cell? ⟨w.heap.size, 5, none⟩ = _ := (HKE _ 5 hW1).trans c5; have bC6 : w5.cell? ⟨w.heap.size, 6, none⟩ = _ := (HKE _ 6 hW1).trans c6)
    | (go_at_call 37; have HBW : Hid (Below w.heap.size w w5) := (HBq.out.trans ((HB4.out.trans HB5.out).mono HBq.out.size)); have HK5 : Hid (LawK w5 wb ps ds B) := HH.out.below HBW.out; have HWS : Hid (w.heap.size < w5.heap.size) := Nat.lt_of_lt_of_le hW1 (HB4.out.trans HB5.out).size; refine (HCK.out _ _ HK5.out (by show L'.toArray.size ≤ 1000000; have := HLN.out; simp; omega)).mono ?_; rintro r w6 ⟨rfl, B', g1, g2, g3, g4, g5⟩; have dP : w6.cell? ⟨d.pb, 2, none⟩ = _ := (HK5.out.keepCell HDD.out g5 HFP.out 2).trans bP; have d0 : w6.cell? ⟨g, (o + k * 18 + 1), none⟩ = _ := (HK5.out.keepCell HDD.out g5 HFG.out (o + k * 18 + 1)).trans b0; have d1 : w6.cell? ⟨g, (o + k * 18 + 1 + 1), none⟩ = _ := (HK5.out.keepCell HDD.out g5 HFG.out (o + k * 18 + 1 + 1)).trans b1; have d2 : w6.cell? ⟨g, (o + k * 18 + 1 + 2), none⟩ = _ := (HK5.out.keepCell HDD.out g5 HFG.out (o + k * 18 + 1 + 2)).trans b2; have d3 : w6.cell? ⟨g, (o + k * 18 + 1 + 3), none⟩ = _ := (HK5.out.keepCell HDD.out g5 HFG.out (o + k * 18 + 1 + 3)).trans b3; have d4 : w6.cell? ⟨g, (o + k * 18 + 1 + 4), none⟩ = _ := (HK5.out.keepCell HDD.out g5 HFG.out (o + k * 18 + 1 + 4)).trans b4; have d5 : w6.cell? ⟨g, (o + k * 18 + 1 + 5), none⟩ = _ := (HK5.out.keepCell HDD.out g5 HFG.out (o + k * 18 + 1 + 5)).trans b5; have d6 : w6.cell? ⟨g, (o + k * 18 + 1 + 6), none⟩ = _ := (HK5.out.keepCell HDD.out g5 HFG.out (o + k * 18 + 1 + 6)).trans b6; have d7 : w6.cell? ⟨g, (o + k * 18 + 1 + 7), none⟩ = _ := (HK5.out.keepCell HDD.out g5 HFG.out (o + k * 18 + 1 + 7)).trans b7; have dC3 : w6.cell? ⟨w.heap.size, 3, none⟩ = _ := (HK5.out.keepOther g5 (by exact HWS.out) HNW.out HNB.out 3).trans bC3; have dC4 : w6.cell? ⟨w.heap.size, 4, none⟩ = _ := (HK5.out.keepOther g5 (by exact HWS.out) HNW.out HNB.out 4).trans bC4; have dC5 : w6.cell? ⟨w.heap.size, 5, none⟩ = _ := (HK5.out.keepOther g5 (by exact HWS.out) HNW.out HNB.out 5).trans bC5; have dC6 : w6.cell? ⟨w.heap.size, 6, none⟩ = _ := (HK5.out.keepOther g5 (by exact HWS.out) HNW.out HNB.out 6).trans bC6)))
  all_goals
   have HK6 : Hid (LawK w6 wb ps ds B') := g1
   have HF6 : Hid (Below wb w w6) := (HBW.out.mono (Nat.le_of_lt hwb)).trans (HK5.out.frameBelow g5)
   have HG6 : Hid (B'.rs.length ≤ B.rs.length + 2000000 ∧ B'.gs.length ≤ B.gs.length + 0 ∧ B'.hs.length ≤ B.hs.length + 1) := ⟨g2, by rw [g3]; omega, by omega⟩
   clear g1 g2 g3 g4 g5
   go_wp2
   go_ret
   exact ⟨rfl, B', HK6.out, HG6.out.1, HG6.out.2.1, HG6.out.2.2, HF6.out⟩
end Go.Proofs.YtekegfbjbainhaaGreat


namespace Go.Proofs.YtekegfbjbainhaaGreat
open Go.RowKit
theorem StepK.mono {a b c a' b' c' wb : Nat} {ps : SlR} {ds : List PairD} {B : BookD} {w w' : World} {e : Ending} (h : StepK a b c wb ps ds B w e w') (h1 : a ≤ a') (h2 : b ≤ b') (h3 : c ≤ c') : StepK a' b' c' wb ps ds B w e w' := by
 obtain ⟨h0, B', g1, g2, g3, g4, g5⟩ := h
 exact ⟨h0, B', g1, by omega, by omega, by omega, g5⟩
theorem StepK.behind {a b c wb : Nat} {ps : SlR} {ds : List PairD} {B : BookD} {w W w' : World} {e : Ending} (hb : Below w.heap.size w W) (hwb : wb ≤ w.heap.size) (h : StepK a b c wb ps ds B W e w') : StepK a b c wb ps ds B w e w' := by
 obtain ⟨h0, B', g1, g2, g3, g4, g5⟩ := h
 exact ⟨h0, B', g1, g2, g3, g4, (hb.mono hwb).trans g5⟩
set_option maxRecDepth 100000 in
set_option maxHeartbeats 1000000 in
theorem free_check (cs : List Value) (s u : ByteArray) (x0 x1 x2 x3 x4 x5 x6 x7 : UInt8) (wb : Nat) (ps : SlR) (ds : List PairD) (B : BookD) (w : World) (h : LawK w wb ps ds B) (k0 : cs[0]? = some (.int .i64 10)) (k4 : cs[4]? = some (.string s)) (k6 : cs[6]? = some (.string u))
  (k7 : cs[7]? = some (u8c x0)) (k8 : cs[8]? = some (u8c x1)) (k9 : cs[9]? = some (u8c x2)) (k10 : cs[10]? = some (u8c x3)) (k11 : cs[11]? = some (u8c x4)) (k12 : cs[12]? = some (u8c x5)) (k13 : cs[13]? = some (u8c x6)) (k14 : cs[14]? = some (u8c x7))
  (hs : s.size ≤ 140737488351232) (hu : u.size ≤ 1000000000) (hn : B.rs.length ≤ 1200000000000) :
  Calls Tryz.prog 19 #[.pointer (some ⟨wb, 0, none⟩), .agg cs.toArray] w (StepK 1 0 0 wb ps ds B w) := by
 have HA : Hid (Below w.heap.size w (w.alloc (.cells cs.toArray 43))) := (Below.refl _ _).alloc (Nat.le_refl _) _
 have hwb : wb < w.heap.size := RowV.lt h.law.row
 have HK : Hid (LawK (w.alloc (.cells cs.toArray 43)) wb ps ds B) := h.below HA.out
 have HC : Hid (Calls _ _ _ _ _) := world_check [x0, x1, x2, x3, x4, x5, x6, x7] s u wb ps ds B _ HK.out rfl hs hu hn
 unfold dV u8c at HC
 unfold u8c at k7 k8 k9 k10 k11 k12 k13 k14
 simp only [List.map_cons, List.map_nil] at HC
 generalize (x0.toNat : Int) = y0 at *
 generalize (x1.toNat : Int) = y1 at *
 generalize (x2.toNat : Int) = y2 at *
 generalize (x3.toNat : Int) = y3 at *
 generalize (x4.toNat : Int) = y4 at *
 generalize (x5.toNat : Int) = y5 at *
 generalize (x6.toNat : Int) = y6 at *
 generalize (x7.toNat : Int) = y7 at *
 clear h
 go_enter Tryz.func19, Tryz.ntmps19
 go_wp2_with fail
 refine HC.out.mono ?_
 rintro e w1 ⟨rfl, bs', r, g1, gg, g2⟩
 have G1 : Hid (LawK w1 wb ps ds (B.addB bs' r)) := g1
 have G2 : Hid (Below wb w w1) := (HA.out.mono (Nat.le_of_lt hwb)).trans (HK.out.frameBelow g2)
 clear g1 gg g2
 go_wp2
 go_ret
 exact ⟨rfl, _, G1.out, by simp [BookD.addB], by simp [BookD.addB], by simp [BookD.addB], G2.out⟩
set_option maxRecDepth 100000 in
set_option maxHeartbeats 1000000 in
theorem free_checks (cs : List Value) (s t u : ByteArray) (x0 x1 x2 x3 x4 x5 x6 x7 : UInt8) (wb : Nat) (ps : SlR) (ds : List PairD) (B : BookD) (w : World) (h : LawK w wb ps ds B) (k0 : cs[0]? = some (.int .i64 11)) (k4 : cs[4]? = some (.string s)) (k5 : cs[5]? = some (.string t)) (k6 : cs[6]? = some (.string u))
  (k7 : cs[7]? = some (u8c x0)) (k8 : cs[8]? = some (u8c x1)) (k9 : cs[9]? = some (u8c x2)) (k10 : cs[10]? = some (u8c x3)) (k11 : cs[11]? = some (u8c x4)) (k12 : cs[12]? = some (u8c x5)) (k13 : cs[13]? = some (u8c x6)) (k14 : cs[14]? = some (u8c x7))
  (hs : s.size ≤ 140737488351232) (ht : t.size ≤ 140737488351232) (hu : u.size ≤ 1000000000) (hn : B.rs.length + u.size * 2 ≤ 1200000000000) (hh : B.hs.length ≤ 1200000000000) :
  Calls Tryz.prog 19 #[.pointer (some ⟨wb, 0, none⟩), .agg cs.toArray] w (StepK (u.size * 2) 0 1 wb ps ds B w) := by
 have HA : Hid (Below w.heap.size w (w.alloc (.cells cs.toArray 43))) := (Below.refl _ _).alloc (Nat.le_refl _) _
 have hwb : wb < w.heap.size := RowV.lt h.law.row
 have HK : Hid (LawK (w.alloc (.cells cs.toArray 43)) wb ps ds B) := h.below HA.out
 have HC : Hid (Calls _ _ _ _ _) := world_checks [x0, x1, x2, x3, x4, x5, x6, x7] s t u wb ps ds B _ HK.out rfl hs ht hu hn hh
 unfold dV u8c at HC
 unfold u8c at k7 k8 k9 k10 k11 k12 k13 k14
 simp only [List.map_cons, List.map_nil] at HC
 generalize (x0.toNat : Int) = y0 at *
 generalize (x1.toNat : Int) = y1 at *
 generalize (x2.toNat : Int) = y2 at *
 generalize (x3.toNat : Int) = y3 at *
 generalize (x4.toNat : Int) = y4 at *
 generalize (x5.toNat : Int) = y5 at *
 generalize (x6.toNat : Int) = y6 at *
 generalize (x7.toNat : Int) = y7 at *
 clear h
 go_enter Tryz.func19, Tryz.ntmps19
 go_wp2_with fail
 refine HC.out.mono ?_
 rintro e w1 ⟨rfl, B', g1, g2, g3, g4, g5⟩
 have G1 : Hid (LawK w1 wb ps ds B') := g1
 have G2 : Hid (Below wb w w1) := (HA.out.mono (Nat.le_of_lt hwb)).trans (HK.out.frameBelow g5)
 have G3 : Hid (B'.rs.length ≤ B.rs.length + u.size * 2 ∧ B'.gs.length ≤ B.gs.length + 0 ∧ B'.hs.length ≤ B.hs.length + 1) := ⟨g2, by rw [g3]; omega, by omega⟩
 clear g1 g2 g3 g4 g5
 go_wp2
 go_ret
 exact ⟨rfl, B', G1.out, G3.out.1, G3.out.2.1, G3.out.2.2, G2.out⟩
set_option maxRecDepth 100000 in
set_option maxHeartbeats 1000000 in
theorem step_free (cs : List Value) (kk : Int) (p : Value) (w : World) (P : World → Prop) (hlen : cs.length = 24) (k0 : cs[0]? = some (.int .i64 kk)) (hk : kk = 10 ∨ kk = 11 ∨ kk = 12 ∨ kk = 13)
  (hF : Calls Tryz.prog 19 #[p, .agg cs.toArray] (w.alloc (.cells cs.toArray 43)) fun e w' => e = .returned (.bool true) ∧ P w') :
  Calls Tryz.prog 12 #[p, .agg cs.toArray] w fun e w' => e = .returned (.bool true) ∧ P w' := by
 obtain ⟨d, hd1, hd2⟩ := Tryz.rowOp
 have hsz : Hid ((Tryz.prog.info? 43).map (·.size) = some cs.length) := by rw [hlen]; exact Tryz.sizeOp
 have HD : Hid (Tryz.prog.underlying 43 = some d) := hd1
 have HD2 : Hid (d.isRow = true) := hd2
 have HL : Hid (cs.length = 24) := hlen
 have HF : Hid (Calls _ _ _ _ _) := hF
 clear hd1 hd2 hlen hF
 rcases hk with rfl | rfl | rfl | rfl
 all_goals
  go_enter Tryz.func12, Tryz.ntmps12
  go_wp2_with (refine wpList_load_mid (by rfl) 43 (.tmp 3) (by rfl) w.heap.size 0 (by rfl) cs d (rangeAt_new w cs 43) HD.out HD2.out hsz.out ?_)
  refine HF.out.mono ?_
  rintro e w1 ⟨rfl, h1⟩
  have H1 : Hid (P w1) := h1
  clear h1
  go_wp2
  go_ret
  exact ⟨rfl, H1.out⟩
set_option maxRecDepth 100000 in
set_option maxHeartbeats 1000000 in
theorem step_noneA {B : BkV} (cs : List Value) (kk : Int) (wb : Nat) (ps : SlR) (w : World) (h : LawAt B w wb ps []) (k0 : cs[0]? = some (.int .i64 kk)) (hk : kk = 14 ∨ kk = 15 ∨ kk = 16) :
  Calls Tryz.prog 12 #[.pointer (some ⟨wb, 0, none⟩), .agg cs.toArray] w fun e w' => e = .returned (.bool true) ∧ Below w.heap.size w w' := by
 have hwb : wb < w.heap.size := RowV.lt h.row
 have hpn : ps.n = 0 := (owns_cap (a := ps.a) (n' := ps.n) (cap := ps.cap) h.own).1
 have r0 : w.cell? ⟨wb, 0, none⟩ = some (.slice ps.a 0 ps.cap) := by
  have : w.cell? ⟨wb, 0, none⟩ = some (.slice ps.a ps.n ps.cap) := RowV.cell h.row 0 (by simp)
  rw [hpn] at this; exact this
 clear hpn h
 have HB : Hid (Below w.heap.size w (w.alloc (.cells cs.toArray 43))) := (Below.refl _ _).alloc (Nat.le_refl _) _
 rcases hk with rfl | rfl | rfl
 all_goals
  go_enter Tryz.func12, Tryz.ntmps12
  go_wp2
  go_ret
  exact ⟨rfl, HB.out⟩
set_option maxRecDepth 100000 in
set_option maxHeartbeats 1000000 in
theorem step_ask (cs : List Value) (kk oa : Int) (a b c : Nat) (wb : Nat) (ps : SlR) (ds : List PairD) (B : BookD) (w : World) (hh : LawK w wb ps ds B) (hlen : cs.length = 24) (k0 : cs[0]? = some (.int .i64 kk)) (hk : kk = 14 ∨ kk = 15 ∨ kk = 16) (k1 : cs[1]? = some (.int .i64 oa)) (ha1 : -9223372036854775808 ≤ oa) (ha2 : oa ≤ 9223372036854775807) (hn : 1 ≤ ds.length)
  (hst : ∀ (d : PairD) (W : World), LawK W wb ps ds B → d ∈ ds → Below w.heap.size w W → Calls Tryz.prog 23 #[.pointer (some ⟨wb, 0, none⟩), .agg cs.toArray, .pointer (some ⟨d.pb, 0, none⟩)] W (StepK a b c wb ps ds B W)) :
  Calls Tryz.prog 12 #[.pointer (some ⟨wb, 0, none⟩), .agg cs.toArray] w (StepK a b c wb ps ds B w) := by
 have h := hh.law
 obtain ⟨d, hd1, hd2⟩ := Tryz.rowOp
 have hsz : Hid ((Tryz.prog.info? 43).map (·.size) = some cs.length) := by rw [hlen]; exact Tryz.sizeOp
 have HD : Hid (Tryz.prog.underlying 43 = some d) := hd1
 have HD2 : Hid (d.isRow = true) := hd2
 have HL : Hid (cs.length = 24) := hlen
 have HB : Hid (Below w.heap.size w (w.alloc (.cells cs.toArray 43))) := (Below.refl _ _).alloc (Nat.le_refl _) _
 have hwb : wb < w.heap.size := RowV.lt h.row
 have r0 : w.cell? ⟨wb, 0, none⟩ = some (.slice ps.a ps.n ps.cap) := RowV.cell h.row 0 (by simp)
 obtain ⟨hpn, hpc, hpm, hpa⟩ := owns_cap (a := ps.a) (n' := ps.n) (cap := ps.cap) h.own
 obtain ⟨g, hg, hglt⟩ : ∃ g, ps.a = some ⟨g, 0, none⟩ ∧ g < w.heap.size := by
  rcases hpa with ⟨_, h0, _⟩ | ⟨g, hg, _, hlt⟩
  ·omega
  ·exact ⟨g, hg, hlt⟩
 rw [hg] at r0
 have hpm' : ps.n ≤ maxLen := by omega
 obtain ⟨dd, hdd, hcd⟩ : ∃ d, ds[pickN oa ps.n]? = some d ∧ w.cell? ⟨g, pickN oa ps.n, none⟩ = some (.pointer (some ⟨d.pb, 0, none⟩)) := by
  have hi' : pickN oa ps.n < ds.length := by have := pickN_lt oa ps.n (by omega); omega
  refine ⟨ds[pickN oa ps.n], List.getElem?_eq_getElem hi', ?_⟩
  have hsl : SlV w ps.a (ds.map (fun d => ptrV d.pb)) := (SlV.ofOwn h.own).1
  obtain ⟨b, o, e, _, hc⟩ := hsl (pickN oa ps.n) (by simpa using hi')
  rw [hg] at e; cases e
  rw [Nat.zero_add] at hc
  rw [hc]; simp [ptrV]
 have HDD : Hid (dd ∈ ds) := List.mem_of_getElem? hdd
 have hiI : (pickN oa ps.n : Int) < ps.n := by have := pickN_lt oa ps.n (by omega); omega
 have HPK : Hid (∀ W, Calls Tryz.prog 20 #[.int .i64 oa, .int .i64 (ps.n : Int)] W fun e w' => e = .returned (.int .i64 (pickN oa ps.n : Int)) ∧ w' = W) := fun W => pick_any oa ps.n W ha1 ha2 (by omega) hpm'
 generalize pickN oa ps.n = i at *
 have hn1 : 1 ≤ ps.n := by omega
 have hpmI : (ps.n : Int) ≤ 9223372036854775807 := by unfold maxLen at hpm; omega
 have hn0 : ((ps.n : Int) == 0) = false := by simp; omega
 have HH : Hid (LawK w wb ps ds B) := hh
 have HST : Hid (∀ (d : PairD) (W : World), LawK W wb ps ds B → d ∈ ds → Below w.heap.size w W → Calls Tryz.prog 23 #[.pointer (some ⟨wb, 0, none⟩), .agg cs.toArray, .pointer (some ⟨d.pb, 0, none⟩)] W (StepK a b c wb ps ds B W)) := hst
 clear hd1 hd2 hlen hpn hpc hpm hpa hst hn hdd hpm' hh h
 rcases hk with rfl | rfl | rfl
 all_goals
  go_enter Tryz.func12, Tryz.ntmps12
  go_wp2
  go_quiet (first | (go_at_call 20; exact Calls.quiet_of_same (HPK.out _)))
  have HBq : Hid (Below w.heap.size w ((w.alloc (.cells cs.toArray 43)).drewN nq)) := by
   have hb := HB.out
   exact ⟨hb.os, hb.tape, hb.output, hb.size, hb.block⟩
  go_wp2_with (refine wpList_load_mid (by rfl) 43 (.tmp 3) (by rfl) w.heap.size 0 (by rfl) cs d (by exact rangeAt_new w cs 43) HD.out HD2.out hsz.out ?_)
  refine (HST.out dd _ (HH.out.below HBq.out) HDD.out HBq.out).mono ?_
  rintro e w1 hs1
  obtain ⟨rfl, hs1⟩ : e = .returned (.bool true) ∧ StepK a b c wb ps ds B w e w1 := ⟨hs1.1, StepK.behind HBq.out (Nat.le_of_lt hwb) hs1⟩
  have HS1 : Hid (StepK a b c wb ps ds B w (.returned (.bool true)) w1) := hs1
  clear hs1
  go_wp2
  go_ret
  exact HS1.out
def BookD.Caps (B : BookD) : Prop := B.rs.length ≤ 1200000000000 ∧ B.gs.length ≤ 1200000000000 ∧ B.hs.length ≤ 1200000000000
def CapQ (mr mg mh q : Nat) : Prop := (q + 1) * mr ≤ 1190000000000 ∧ (q + 1) * mg ≤ 1190000000000 ∧ (q + 1) * mh ≤ 1190000000000
def kInv (mr mg mh : Nat) (w : World) (q : Nat) (wr : World) : Prop := Below w.heap.size w wr ∧ ∃ ps ds B, LawK wr w.heap.size ps ds B ∧ ds.length ≤ q ∧ B.rs.length ≤ q * mr ∧ B.gs.length ≤ q * mg ∧ B.hs.length ≤ q * mh ∧ B.Caps
theorem kInv.mono {mr mg mh : Nat} {w wr : World} {q : Nat} (h : kInv mr mg mh w q wr) : kInv mr mg mh w (q + 1) wr := by
 obtain ⟨h1, ps, ds, B, h2, h3, h4, h5, h6, h7⟩ := h
 have e1 : (q + 1) * mr = q * mr + mr := Nat.succ_mul q mr
 have e2 : (q + 1) * mg = q * mg + mg := Nat.succ_mul q mg
 have e3 : (q + 1) * mh = q * mh + mh := Nat.succ_mul q mh
 exact ⟨h1, ps, ds, B, h2, by omega, by omega, by omega, by omega, h7⟩
theorem kInv.drew {mr mg mh : Nat} {w wr : World} {q : Nat} (m : Nat) (h : kInv mr mg mh w q wr) : kInv mr mg mh w q (wr.drewN m) := by
 obtain ⟨h1, ps, ds, B, h2, h3⟩ := h
 have hb := Below.refl wr.heap.size wr
 exact ⟨⟨h1.os, h1.tape, h1.output, h1.size, h1.block⟩, ps, ds, B, h2.below ⟨hb.os, hb.tape, hb.output, hb.size, hb.block⟩, h3⟩
theorem lawK_fresh (w : World) : LawK (w.alloc (.cells #[.slice none 0 0, .slice none 0 0, .slice none 0 0, .slice none 0 0] 34)) w.heap.size ⟨none, 0, 0⟩ [] ⟨⟨none, 0, 0⟩, ⟨none, 0, 0⟩, ⟨none, 0, 0⟩, [], [], []⟩ :=
 LawK.start ⟨RowV.new w _ _, World.ownsRow_nil _ _ _ _, fun d hd => (by cases hd), fun d hd => (by cases hd), fun k hk => (by cases hk), fun i j d e _ h => (by simp at h)⟩
theorem kInv_start (mr mg mh : Nat) (w : World) : kInv mr mg mh w 0 (w.alloc (.cells #[.slice none 0 0, .slice none 0 0, .slice none 0 0, .slice none 0 0] 34)) :=
 ⟨(Below.refl _ _).alloc (Nat.le_refl _) _, _, _, _, lawK_fresh w, Nat.le_refl _, by simp, by simp, by simp, by simp [BookD.Caps]⟩
theorem kInv.next {mr mg mh a b c : Nat} {w wr w' : World} {q : Nat} {ps : SlR} {ds : List PairD} {B : BookD} {e : Ending} (h1 : Below w.heap.size w wr) (h3 : ds.length ≤ q) (h4 : B.rs.length ≤ q * mr) (h5 : B.gs.length ≤ q * mg) (h6 : B.hs.length ≤ q * mh) (hs : StepK a b c w.heap.size ps ds B wr e w') (ha : a ≤ mr) (hb : b ≤ mg) (hc : c ≤ mh) (hcap : CapQ mr mg mh q) :
  e = .returned (.bool true) ∧ kInv mr mg mh w (q + 1) w' := by
 obtain ⟨h0, B', g1, g2, g3, g4, g5⟩ := hs
 have e1 : (q + 1) * mr = q * mr + mr := Nat.succ_mul q mr
 have e2 : (q + 1) * mg = q * mg + mg := Nat.succ_mul q mg
 have e3 : (q + 1) * mh = q * mh + mh := Nat.succ_mul q mh
 obtain ⟨c1, c2, c3⟩ := hcap
 exact ⟨h0, h1.trans g5, ps, ds, B', g1, by omega, by omega, by omega, by omega, ⟨by omega, by omega, by omega⟩⟩
theorem kInv_new (mr mg mh : Nat) (w wr : World) (q : Nat) (cs : List Value) (hI : kInv mr mg mh w q wr) (hlen : cs.length = 24) (k0 : cs[0]? = some (.int .i64 2)) (hq : q + 1 ≤ 17592186044416) :
  Calls Tryz.prog 12 #[.pointer (some ⟨w.heap.size, 0, none⟩), .agg cs.toArray] wr fun e w' => e = .returned (.bool true) ∧ kInv mr mg mh w (q + 1) w' := by
 obtain ⟨h1, ps, ds, B, h2, h3, h4, h5, h6, h7⟩ := hI
 have e1 : (q + 1) * mr = q * mr + mr := Nat.succ_mul q mr
 have e2 : (q + 1) * mg = q * mg + mg := Nat.succ_mul q mg
 have e3 : (q + 1) * mh = q * mh + mh := Nat.succ_mul q mh
 refine (step_store cs w.heap.size ps ds wr h2.law hlen k0 (by omega)).mono ?_
 rintro e w' ⟨rfl, ⟨ps', d, g1, g2, g3⟩, hf⟩
 refine ⟨rfl, h1.trans (hf.below h1.size (fun k hk => ?_)), ps', _, B, h2.new g1 g2 g3 hf, by simp; omega, by omega, by omega, by omega, h7⟩
 rcases hk with rfl | hk
 ·exact Nat.le_refl _
 ·exact Nat.le_of_lt (h2.law.psb k hk)
theorem kInv_old (mr mg mh : Nat) (w wr : World) (q : Nat) (cs : List Value) (kk oa : Int) (hI : kInv mr mg mh w q wr) (hlen : cs.length = 24) (k0 : cs[0]? = some (.int .i64 kk)) (hk : kk = 3 ∨ kk = 4 ∨ kk = 5) (k1 : cs[1]? = some (.int .i64 oa)) (ha1 : -9223372036854775808 ≤ oa) (ha2 : oa ≤ 9223372036854775807) (hst : StoredOk cs) :
  Calls Tryz.prog 12 #[.pointer (some ⟨w.heap.size, 0, none⟩), .agg cs.toArray] wr fun e w' => e = .returned (.bool true) ∧ kInv mr mg mh w (q + 1) w' := by
 obtain ⟨h1, ps, ds, B, h2, h3, h4, h5, h6, h7⟩ := hI
 have e1 : (q + 1) * mr = q * mr + mr := Nat.succ_mul q mr
 have e2 : (q + 1) * mg = q * mg + mg := Nat.succ_mul q mg
 have e3 : (q + 1) * mh = q * mh + mh := Nat.succ_mul q mh
 by_cases hn : ds.length = 0
 ·have hnil : ds = [] := List.length_eq_zero_iff.1 hn
  subst hnil
  refine (step_none cs kk w.heap.size ps wr h2.law k0 hk).mono ?_
  rintro e w' ⟨rfl, hb⟩
  exact ⟨rfl, h1.trans (hb.mono h1.size), ps, [], B, h2.below hb, by omega, by omega, by omega, by omega, h7⟩
 ·refine (step_pair cs kk oa w.heap.size ps ds wr h2.law hlen k0 hk k1 ha1 ha2 (by omega) (fun W d => hst _ W d)).mono ?_
  rintro e w' ⟨rfl, W, d, hd, hb, hs, i, hi⟩
  obtain ⟨ds', g1, g2⟩ := (h2.below hb).step hi hs
  obtain ⟨_, _, _, hf, _⟩ := hs
  refine ⟨rfl, (h1.trans (hb.mono h1.size)).trans (hf.below (Nat.le_trans h1.size hb.size) (fun k hk => Nat.le_of_lt (h2.law.low d hd k hk).1)), ps, ds', B, g1, by omega, by omega, by omega, by omega, h7⟩
theorem kInv_digest (mr mg mh : Nat) (w wr : World) (q : Nat) (cs : List Value) (oa : Int) (s : ByteArray) (hI : kInv mr mg mh w q wr) (hlen : cs.length = 24) (k0 : cs[0]? = some (.int .i64 1)) (k1 : cs[1]? = some (.int .i64 oa)) (k4 : cs[4]? = some (.string s)) (hs : s.size ≤ 140737488351232) :
  Calls Tryz.prog 12 #[.pointer (some ⟨w.heap.size, 0, none⟩), .agg cs.toArray] wr fun e w' => e = .returned (.bool true) ∧ kInv mr mg mh w (q + 1) w' := by
 obtain ⟨h1, ps, ds, B, h2, h3, h4, h5, h6, h7⟩ := hI
 have e1 : (q + 1) * mr = q * mr + mr := Nat.succ_mul q mr
 have e2 : (q + 1) * mg = q * mg + mg := Nat.succ_mul q mg
 have e3 : (q + 1) * mh = q * mh + mh := Nat.succ_mul q mh
 refine (step_digest cs oa s _ wr hlen k0 k1 k4 hs).mono ?_
 rintro e w' ⟨rfl, hb⟩
 exact ⟨rfl, h1.trans (hb.mono h1.size), ps, ds, B, h2.below hb, by omega, by omega, by omega, by omega, h7⟩
theorem kInv_check (mr mg mh : Nat) (w wr : World) (q : Nat) (o : OpR) (hI : kInv mr mg mh w q wr) (hq : CapQ mr mg mh q) (h1r : 1 ≤ mr) (hk : o.kind = 10) (hs : o.s.size ≤ 140737488351232) (hu : o.u.size ≤ 1000000000) :
  Calls Tryz.prog 12 #[.pointer (some ⟨w.heap.size, 0, none⟩), .agg o.cells.toArray] wr fun e w' => e = .returned (.bool true) ∧ kInv mr mg mh w (q + 1) w' := by
 obtain ⟨h1, ps, ds, B, h2, h3, h4, h5, h6, h7⟩ := hI
 obtain ⟨q1, q2, q3⟩ := id hq
 rw [Nat.succ_mul] at q1 q2 q3
 have hb : Below wr.heap.size wr (wr.alloc (.cells o.cells.toArray 43)) := (Below.refl _ _).alloc (Nat.le_refl _) _
 refine step_free o.cells 10 _ wr (kInv mr mg mh w (q + 1)) rfl (by rw [← hk]; rfl) (Or.inl rfl) ?_
 refine (free_check o.cells o.s o.u (o.d.getD 0 0) (o.d.getD 1 0) (o.d.getD 2 0) (o.d.getD 3 0) (o.d.getD 4 0) (o.d.getD 5 0) (o.d.getD 6 0) (o.d.getD 7 0) w.heap.size ps ds B _ (h2.below hb) (by rw [← hk]; rfl) rfl rfl rfl rfl rfl rfl rfl rfl rfl rfl hs hu (by omega)).mono ?_
 intro e w' hs'
 exact kInv.next (h1.trans (hb.mono h1.size)) h3 h4 h5 h6 hs' h1r (Nat.zero_le _) (Nat.zero_le _) hq
theorem kInv_checks (mr mg mh : Nat) (w wr : World) (q : Nat) (o : OpR) (hI : kInv mr mg mh w q wr) (hq : CapQ mr mg mh q) (h1r : o.u.size * 2 ≤ mr) (h1h : 1 ≤ mh) (hk : o.kind = 11) (hs : o.s.size ≤ 140737488351232) (ht : o.t.size ≤ 140737488351232) (hu : o.u.size ≤ 1048576) :
  Calls Tryz.prog 12 #[.pointer (some ⟨w.heap.size, 0, none⟩), .agg o.cells.toArray] wr fun e w' => e = .returned (.bool true) ∧ kInv mr mg mh w (q + 1) w' := by
 obtain ⟨h1, ps, ds, B, h2, h3, h4, h5, h6, h7⟩ := hI
 obtain ⟨q1, q2, q3⟩ := id hq
 rw [Nat.succ_mul] at q1 q2 q3
 have hb : Below wr.heap.size wr (wr.alloc (.cells o.cells.toArray 43)) := (Below.refl _ _).alloc (Nat.le_refl _) _
 refine step_free o.cells 11 _ wr (kInv mr mg mh w (q + 1)) rfl (by rw [← hk]; rfl) (Or.inr (Or.inl rfl)) ?_
 refine (free_checks o.cells o.s o.t o.u (o.d.getD 0 0) (o.d.getD 1 0) (o.d.getD 2 0) (o.d.getD 3 0) (o.d.getD 4 0) (o.d.getD 5 0) (o.d.getD 6 0) (o.d.getD 7 0) w.heap.size ps ds B _ (h2.below hb) (by rw [← hk]; rfl) rfl rfl rfl rfl rfl rfl rfl rfl rfl rfl rfl hs ht (by omega) (by omega) (by omega)).mono ?_
 intro e w' hs'
 exact kInv.next (h1.trans (hb.mono h1.size)) h3 h4 h5 h6 hs' h1r (Nat.zero_le _) h1h hq
theorem kInv_ask (mr mg mh : Nat) (w wr : World) (q : Nat) (o : OpR) (hI : kInv mr mg mh w q wr) (hq : CapQ mr mg mh q) (h1r : 2000000 ≤ mr) (h1h : 1 ≤ mh) (hk : o.kind = 14 ∨ o.kind = 15) (hs : o.s.size ≤ 140737488351232) (ht : o.t.size ≤ 140737488351232)
  (ha1 : -9223372036854775808 ≤ o.a) (ha2 : o.a ≤ 9223372036854775807) (hb1 : -9223372036854775808 ≤ o.b) (hb2 : o.b ≤ 9223372036854775807) (hc1 : -9223372036854775808 ≤ o.c) (hc2 : o.c ≤ 9223372036854775807) :
  Calls Tryz.prog 12 #[.pointer (some ⟨w.heap.size, 0, none⟩), .agg o.cells.toArray] wr fun e w' => e = .returned (.bool true) ∧ kInv mr mg mh w (q + 1) w' := by
 obtain ⟨h1, ps, ds, B, h2, h3, h4, h5, h6, h7⟩ := hI
 obtain ⟨q1, q2, q3⟩ := id hq
 rw [Nat.succ_mul] at q1 q2 q3
 have e1 : (q + 1) * mr = q * mr + mr := Nat.succ_mul q mr
 have e2 : (q + 1) * mg = q * mg + mg := Nat.succ_mul q mg
 have e3 : (q + 1) * mh = q * mh + mh := Nat.succ_mul q mh
 have hk' : o.kind = 14 ∨ o.kind = 15 ∨ o.kind = 16 := by omega
 by_cases hn : ds.length = 0
 ·have hnil : ds = [] := List.length_eq_zero_iff.1 hn
  subst hnil
  refine (step_noneA o.cells o.kind w.heap.size ps wr h2.law rfl hk').mono ?_
  rintro e w' ⟨rfl, hb⟩
  exact ⟨rfl, h1.trans (hb.mono h1.size), ps, [], B, h2.below hb, by omega, by omega, by omega, by omega, h7⟩
 ·refine (step_ask o.cells o.kind o.a 2000000 0 1 w.heap.size ps ds B wr h2 rfl rfl hk' rfl ha1 ha2 (by omega) (fun d W hW hd hbW => ?_)).mono ?_
  ·by_cases h0 : d.tds.length = 0
   ·exact (asked_none o.cells w.heap.size ps ds B d W hW hd h0).mono (fun e w' hs' => hs'.mono (by omega) (by omega) (by omega))
   ·rcases hk with hk | hk
    ·exact (asked_key o.cells o.b o.c o.s o.t o.u w.heap.size ps ds B d W hW hd (by omega) (by rw [← hk]; rfl) rfl rfl rfl rfl rfl hb1 hb2 hc1 hc2 hs ht (by omega)).mono (fun e w' hs' => hs'.mono (by omega) (by omega) (by omega))
    ·exact (asked_range o.cells o.b o.c o.s o.t o.u w.heap.size ps ds B d W hW hd (by omega) (by rw [← hk]; rfl) rfl rfl rfl rfl rfl hb1 hb2 hc1 hc2 hs ht (by omega) (by omega)).mono (fun e w' hs' => hs'.mono (by omega) (by omega) (by omega))
  ·intro e w' hs'
   exact kInv.next h1 h3 h4 h5 h6 hs' h1r (Nat.zero_le _) h1h hq
theorem kInv_looks (mr mg mh : Nat) (w wr : World) (q : Nat) (hI : kInv mr mg mh w q wr) :
  Calls Tryz.prog 13 #[.pointer (some ⟨w.heap.size, 1, none⟩)] wr fun e w' => e = .returned (.bool true) ∧ kInv mr mg mh w q w' := by
 obtain ⟨h1, ps, ds, B, h2, h3, h4, h5, h6, h7⟩ := hI
 refine (looks_all w.heap.size ps B.bs B.dg B.es B.rs B.gs B.hs wr h2.row h2.bk h2.bd h2.be h7.1 h7.2.1 h7.2.2).mono ?_
 rintro e w1 ⟨rfl, hb⟩
 exact ⟨rfl, h1.trans (hb.mono h1.size), ps, ds, B, h2.below hb, h3, h4, h5, h6, h7⟩
end Go.Proofs.YtekegfbjbainhaaGreat


namespace Go.Proofs.YtekegfbjbainhaaGreat
open Go.RowKit
def OkC (o : OpR) : Prop := (-9223372036854775808 ≤ o.a ∧ o.a ≤ 9223372036854775807) ∧ (-9223372036854775808 ≤ o.b ∧ o.b ≤ 9223372036854775807) ∧ (-9223372036854775808 ≤ o.c ∧ o.c ≤ 9223372036854775807) ∧ o.u.size ≤ 1048576
theorem capQ_in {q n : Nat} (h : q ≤ n) (hn : n ≤ 524288) : CapQ 2100000 0 1 q := ⟨by omega, by omega, by omega⟩
set_option maxRecDepth 100000 in
set_option maxHeartbeats 800000 in
theorem checked_law (a : Option Addr) (n cap : Nat) (f : Nat → OpR) (w : World) (hn : n ≤ 524288) (hs : ScriptAt w a n f) (ho : ∀ i, i < n → OkC (f i))
  (hst : ∀ o : OpR, (o.kind = 3 ∨ o.kind = 4 ∨ o.kind = 5) → o.s.size ≤ 140737488351232 → o.t.size ≤ 140737488351232 → StoredOk o.cells) :
  Calls Tryz.prog 6 #[.slice a n cap] w fun e w' => e = .returned (.bool true) ∧ Below w.heap.size w w' := by
 have HN : Hid (n ≤ 524288) := hn
 clear hn
 go_enter Tryz.func6, Tryz.ntmps6
 go_wp2_with fail
 obtain ⟨W, hWe⟩ : ∃ W, W = w.alloc (Obj.cells #[Value.int IntKind.i64 1, Value.int IntKind.i64 10, Value.int IntKind.i64 11, Value.int IntKind.i64 2, Value.int IntKind.i64 3, Value.int IntKind.i64 4, Value.int IntKind.i64 5, Value.int IntKind.i64 14, Value.int IntKind.i64 15] 3) := ⟨_, rfl⟩
 have hs' : ScriptAt W a n f := fun i hi => by
  obtain ⟨b, o, ha, hb, hr, h1, h2, h3⟩ := hs i hi
  rw [hWe]
  exact ⟨b, o, ha, by simp; omega, fun j v hv => by rw [World.cell?_alloc_lt _ _ _ (by exact hb)]; exact hr j v hv, h1, h2, h3⟩
 have hk' : KindsAt W w.heap.size [1, 10, 11, 2, 3, 4, 5, 14, 15] := fun j hj => by
  rw [hWe]
  have hj4 : j < 9 := by simpa using hj
  match j, hj4 with
  | 0, _ => simp [go_sem]
  | 1, _ => simp [go_sem]
  | 2, _ => simp [go_sem]
  | 3, _ => simp [go_sem]
  | 4, _ => simp [go_sem]
  | 5, _ => simp [go_sem]
  | 6, _ => simp [go_sem]
  | 7, _ => simp [go_sem]
  | 8, _ => simp [go_sem]
 have hwW : w.heap.size < W.heap.size := by rw [hWe]; simp
 have HBW : Hid (Below w.heap.size w W) := by rw [hWe]; exact (Below.refl _ _).alloc (Nat.le_refl _) _
 rw [← hWe]
 clear hWe
 refine (plays_n a n cap w.heap.size 1 [10, 11, 2, 3, 4, 5, 14, 15] f W (kInv 2100000 0 1 W) OkC (by have := HN.out; unfold maxLen; omega) hs' ho hwW (by simp [maxLen]) hk'
  (kInv_start 2100000 0 1 W) (fun q wr h => h.1) (fun q wr m h => h.drew m) (fun q wr h => h.mono) ?_ ?_ ?_).mono ?_
 ·intro wr hI
  exact kInv_digest 2100000 0 1 W wr 0 _ 0 ⟨#[99, 97, 105, 114, 110]⟩ hI rfl rfl rfl rfl (by decide)
 ·intro q wr o hq hI hoo hk h1 h2 _
  have hcq : CapQ 2100000 0 1 q := capQ_in hq HN.out
  have hk' : o.kind = 1 ∨ o.kind = 10 ∨ o.kind = 11 ∨ o.kind = 2 ∨ o.kind = 3 ∨ o.kind = 4 ∨ o.kind = 5 ∨ o.kind = 14 ∨ o.kind = 15 := by simpa using hk
  obtain ⟨⟨a1, a2⟩, ⟨b1, b2⟩, ⟨c1, c2⟩, hu⟩ := hoo
  rcases hk' with hk' | hk' | hk' | hk' | hk' | hk' | hk' | hk' | hk'
  ·exact kInv_digest 2100000 0 1 W wr q o.cells o.a o.s hI rfl (by rw [← hk']; rfl) rfl rfl h1
  ·exact kInv_check 2100000 0 1 W wr q o hI hcq (by omega) hk' h1 (by omega)
  ·exact kInv_checks 2100000 0 1 W wr q o hI hcq (by omega) (by omega) hk' h1 h2 hu
  ·exact kInv_new 2100000 0 1 W wr q o.cells hI rfl (by rw [← hk']; rfl) (by have := HN.out; omega)
  ·exact kInv_old 2100000 0 1 W wr q o.cells o.kind o.a hI rfl rfl (Or.inl hk') rfl a1 a2 (hst o (Or.inl hk') h1 h2)
  ·exact kInv_old 2100000 0 1 W wr q o.cells o.kind o.a hI rfl rfl (Or.inr (Or.inl hk')) rfl a1 a2 (hst o (Or.inr (Or.inl hk')) h1 h2)
  ·exact kInv_old 2100000 0 1 W wr q o.cells o.kind o.a hI rfl rfl (Or.inr (Or.inr hk')) rfl a1 a2 (hst o (Or.inr (Or.inr hk')) h1 h2)
  ·exact kInv_ask 2100000 0 1 W wr q o hI hcq (by omega) (by omega) (Or.inl hk') h1 h2 a1 a2 b1 b2 c1 c2
  ·exact kInv_ask 2100000 0 1 W wr q o hI hcq (by omega) (by omega) (Or.inr hk') h1 h2 a1 a2 b1 b2 c1 c2
 ·intro q wr hI
  exact kInv_looks 2100000 0 1 W wr q hI
 ·rintro e w1 ⟨rfl, q, hI⟩
  have HB1 : Hid (Below w.heap.size w w1) := HBW.out.trans (hI.1.mono HBW.out.size)
  clear hI hs' hk' hs ho hst
  have hbs : SlB ((w1.alloc (.cells #[.slice none 0 0, .slice none 0 0, .slice none 0 0, .slice none 0 0] 34)).alloc (.cells (([0, 1, 1, 97, 1, 49] : List UInt8).map u8c).toArray 5)) (some ⟨w1.heap.size + 1, 0, none⟩) [0, 1, 1, 97, 1, 49] := SlB.of_row (RowV.new_at _ 5 _ _ (by simp))
  have hD : Hid (Calls _ _ _ _ _) := refDigest_any (some ⟨w1.heap.size + 1, 0, none⟩) 6 6 [0, 1, 1, 97, 1, 49] _ rfl (by simp [maxLen]) hbs
  go_wp2_with fail
  refine hD.out.mono ?_
  rintro e w2 ⟨rfl, hb2⟩
  have HK2 : Hid (LawK w2 w1.heap.size ⟨none, 0, 0⟩ [] ⟨⟨none, 0, 0⟩, ⟨none, 0, 0⟩, ⟨none, 0, 0⟩, [], [], []⟩) := ((lawK_fresh w1).below ((Below.refl _ _).alloc (Nat.le_refl _) _)).below hb2
  have HB2 : Hid (Below w.heap.size w w2) := HB1.out.trans (Below.trans (((Below.refl w1.heap.size w1).alloc (Nat.le_refl _) (.cells #[.slice none 0 0, .slice none 0 0, .slice none 0 0, .slice none 0 0] 34)).alloc (by simp) (.cells (([0, 1, 1, 97, 1, 49] : List UInt8).map u8c).toArray 5)) (hb2.mono (by simp; omega)) |>.mono HB1.out.size)
  obtain ⟨x0, x1, x2, x3, x4, x5, x6, x7, hx⟩ := list8 (digB [0, 1, 1, 97, 1, 49]) (digB_length _)
  rw [digV_eq, hx]
  clear hx hb2 hbs hD
  have HBA : Hid (Below w2.heap.size w2 (w2.alloc (.cells #[Value.int .u8 (x0.toNat : Int), Value.int .u8 (x1.toNat : Int), Value.int .u8 (x2.toNat : Int), Value.int .u8 (x3.toNat : Int), Value.int .u8 (x4.toNat : Int), Value.int .u8 (x5.toNat : Int), Value.int .u8 (x6.toNat : Int), Value.int .u8 (x7.toNat : Int)] 36))) := (Below.refl _ _).alloc (Nat.le_refl _) _
  have HK3 := HK2.out.below HBA.out
  have HC : Hid (Calls _ _ _ _ _) := world_check [x0, x1, x2, x3, x4, x5, x6, x7] ⟨#[97]⟩ ⟨#[0, 6, 0, 1, 1, 97, 1, 49]⟩ w1.heap.size ⟨none, 0, 0⟩ [] _ _ HK3 rfl (by decide) (by decide) (by simp)
  have HK4 : Hid _ := HK3
  clear HK3
  unfold dV u8c at HC ⊢
  simp only [List.map_cons, List.map_nil] at HC ⊢
  go_wp2_with fail
  refine HC.out.mono ?_
  rintro e w3 ⟨rfl, bs', r, g1, gg, g2⟩
  have HB3 : Hid (Below w.heap.size w w3) := (HB2.out.trans (HBA.out.mono HB2.out.size)).trans ((HK4.out.frameBelow g2).mono HB1.out.size)
  clear g1 gg g2 HC
  go_wp2
  go_ret
  exact ⟨rfl, HB3.out⟩
end Go.Proofs.YtekegfbjbainhaaGreat
