import Derived.Test.YtekegfbjbainhaaGreatKJoin40
import Derived.Deep.RegionHeld3
import Derived.Deep.RegionHeldLaw
import Derived.Deep.DeepCutAuto
import Derived.Test.YtekegfbjbainhaaGreatKJoin37
set_option linter.unusedVariables false
set_option linter.unusedSimpArgs false

namespace Go.Proofs.YtekegfbjbainhaaGreat
open Go.RowKit
attribute [local go_sem ↓] Go.wp_at_zero Go.wp_at_succ
set_option maxRecDepth 100000 in
set_option maxHeartbeats 4000000 in
theorem proved_keyK (cs : List Value) (ob oc : Int) (s : ByteArray) (wb : Nat) (ps : SlR) (ds : List PairD) (B : BookD) (d : PairD) (w : World) (h : LawK w wb ps ds B) (hd : d ∈ ds) (k0 : cs[0]? = some (.int .i64 6)) (k2 : cs[2]? = some (.int .i64 ob)) (k3 : cs[3]? = some (.int .i64 oc)) (k4 : cs[4]? = some (.string s)) (hs : s.size ≤ 140737488351232) (hn : B.rs.length ≤ 1200000000000) :
  Calls Tryz.prog 22 #[.pointer (some ⟨wb, 0, none⟩), .agg cs.toArray, .pointer (some ⟨d.pb, 0, none⟩)] w (StepK 1 0 0 wb ps ds B w) := by
 have hdk := h.law.ok d hd
 have HA : Hid (Below w.heap.size w (w.alloc (.cells cs.toArray 43))) := (Below.refl _ _).alloc (Nat.le_refl _) _
 have hsm : s.data.toList.length ≤ maxLen := by simp; unfold maxLen; omega
 have HSM : Hid (s.data.toList.length ≤ maxLen) := hsm
 have hpb : d.pb < w.heap.size := RowV.lt hdk.lay.row
 have hwb : wb < w.heap.size := RowV.lt h.law.row
 have HH : Hid (LawK w wb ps ds B) := h
 have HDK : Hid (PairOk w d) := hdk
 clear hsm h hdk
 go_enter Tryz.func22, Tryz.ntmps22
 go_wp2_with fail
 refine (lent_ok s _ _ hs).mono ?_
 rintro e w1 ⟨a, cap, rfl, hl1, hb1, hz1⟩
 simp only [World.size_alloc] at hb1 hz1 hl1
 have HB1 : Hid (Below w.heap.size w w1) := HA.out.trans (hb1.mono (by omega))
 have z1 := hb1.size
 simp only [World.size_alloc] at z1
 have hb1d : Below w1.heap.size w1 w1.drew := ⟨rfl, rfl, rfl, Nat.le_refl _, fun _ _ => rfl⟩
 have HP1 := (HDK.out.lay.below HB1.out).below hb1d
 have r0 : w1.cell? ⟨d.pb, 0, none⟩ = some (.pointer (some ⟨d.sb, 0, none⟩)) := RowV.cell HP1.row 0 (by simp)
 have b2 : w1.cell? ⟨w.heap.size, 2, none⟩ = some (.int .i64 ob) := by
  rw [hb1.cell (p := ⟨w.heap.size, 2, none⟩) (by show w.heap.size < _; omega)]; simp [go_sem, k2]
 have b4 : w1.cell? ⟨w.heap.size, 4, none⟩ = some (.string s) := by
  rw [hb1.cell (p := ⟨w.heap.size, 4, none⟩) (by show w.heap.size < _; omega)]; simp [go_sem, k4]
 have HSD : Hid (Calls _ _ _ _ _) := sto_prove d.sb d.N d.en d.tr d.mp d.es d.xs d.its d.tds d.T d.pp ob ⟨a, s.size, cap⟩ s.data.toList w1.drew HP1.sto HP1.tre HDK.out.t40 (hl1.bs.below hb1d) HSM.out
 have HL1 : Hid (LentAt w1 (w.heap.size + 1) s a cap) := hl1
 have HZ1 : Hid (w.heap.size + 1 ≤ w1.heap.size ∧ w1.heap.size ≤ w.heap.size + 1 + 1) := ⟨by omega, by omega⟩
 have hpb1 : d.pb < w1.heap.size := by omega
 have hne1 : d.pb ≠ w.heap.size := by omega
 unfold SlR.val at HSD
 clear HP1 hl1 hb1 hz1 hb1d
 go_wp2
 go_region_held3 (fun W => W.cell? ⟨d.pb, 0, none⟩ = some (.pointer (some ⟨d.sb, 0, none⟩)) ∧ W.cell? ⟨w.heap.size, 2, none⟩ = some (.int .i64 ob)) (go_keep)
  ((go_at_call 46; refine HSD.out.mono ?_; rintro r w2 ⟨v2, rfl, ho2, hb2⟩; have q0 : w2.cell? ⟨d.pb, 0, none⟩ = some (.pointer (some ⟨d.sb, 0, none⟩)) := (by rw [hb2.cell (p := ⟨d.pb, 0, none⟩) (by show d.pb < w1.heap.size; omega)]; exact r0); have q2 : w2.cell? ⟨w.heap.size, 2, none⟩ = some (.int .i64 ob) := (by rw [hb2.cell (p := ⟨w.heap.size, 2, none⟩) (by show w.heap.size < w1.heap.size; have := HZ1.out; omega)]; exact b2)))
 have hb2' : Below w1.heap.size w1 w2 := ⟨hb2.os, hb2.tape, hb2.output, hb2.size, hb2.block⟩
 have hl2 : LentAt w2 (w.heap.size + 1) s a cap := HL1.out.below hb2' (Nat.le_refl _)
 have HB2 : Hid (Below w.heap.size w w2) := HB1.out.trans (hb2'.mono HB1.out.size)
 have b4' : w2.cell? ⟨w.heap.size, 4, none⟩ = some (.string s) := by
  rw [hb2'.cell (p := ⟨w.heap.size, 4, none⟩) (by show w.heap.size < w1.heap.size; have := HZ1.out; omega)]; exact b4
 have HO2 : Hid (OwnB w2 w1.heap.size v2.val (prvB d.pp ob s.data.toList)) := ho2
 have hz2 := hb2'.size
 clear ho2 hb2
 go_wp2_with fail
 refine (back_ok s a cap (w.heap.size + 1) _ hs hl2).mono ?_
 rintro e w3 ⟨rfl, hf3, hz3⟩
 have hltk := fun k (hk : a = some ⟨k, 0, none⟩) => hl2.lt hk
 have hlk : ∀ k, a = some ⟨k, 0, none⟩ → k = w.heap.size + 1 ∧ w.heap.size + 1 < w1.heap.size := fun k hk => ⟨(hltk k hk).1, (HL1.out.lt hk).2⟩
 have HB3 : Hid (Below w.heap.size w w3) := HB2.out.trans (hf3.below HB2.out.size (fun k hk => by have := hlk k hk; omega))
 have HO3 : Hid (OwnB w3 w1.heap.size v2.val (prvB d.pp ob s.data.toList)) := owns_frame HO2.out hf3 (fun k hk e => by have h1 := (HO2.out.lt k hk).1; have h2 := hlk k e; omega)
 have HP3 := HDK.out.lay.below HB3.out
 have b2'' : w3.cell? ⟨w.heap.size, 2, none⟩ = some (.int .i64 ob) := by
  rw [← q2]
  exact World.cell?_of_block (hf3.block _ (by show w.heap.size < _; omega) (fun e => by have := hlk _ e; simp only at this; omega))
 have b4'' : w3.cell? ⟨w.heap.size, 4, none⟩ = some (.string s) := by
  rw [← b4']
  exact World.cell?_of_block (hf3.block _ (by show w.heap.size < _; omega) (fun e => by have := hlk _ e; simp only at this; omega))
 have r1 : w3.cell? ⟨d.pb, 1, none⟩ = some (.pointer (some ⟨d.rb, 0, none⟩)) := RowV.cell HP3.row 1 (by simp)
 have hcv := fun w => run_bytes_of_string (P := Tryz.prog) w 9 38 5 s Tryz.underlying9 Tryz.underlying38 Tryz.underlying5
 have HREF : Hid (∀ (W : World) (a' : Option Addr) (n' cap' : Nat), Below w3.heap.size w3 W → BS W ⟨a', n', cap'⟩ s.data.toList → Calls Tryz.prog 47 #[.pointer (some ⟨d.rb, 0, none⟩), .int .i64 ob, .slice a' n' cap'] W fun r w' => ∃ v' : SlR, r = .returned (.tuple #[.slice v'.a v'.n v'.cap, .int .i64 (prvE d.pp.length ob s.data.toList : Int)]) ∧ OwnB w' W.heap.size v'.val (prvB d.pp ob s.data.toList) ∧ Below W.heap.size W w') := fun W a' n' cap' hb hbs => by
  have hr := ref_prove d.rb d.now d.past d.roots d.nl d.pastL d.rl ob ⟨a', n', cap'⟩ s.data.toList W (HP3.below hb).ref (by rw [HDK.out.pl]; exact HDK.out.t40) (fun q hq => HP3.pastR _ (by rw [← HDK.out.pst]; exact List.mem_map_of_mem hq)) hbs HSM.out
  rw [HDK.out.pst] at hr
  exact hr
 have hz3' : w.heap.size < w3.heap.size := by omega
 have hpb3 : d.pb < w3.heap.size := by omega
 have HZ3 : Hid (w1.heap.size ≤ w3.heap.size) := by unfold Hid; omega
 clear HP3 hf3 hltk hlk hl2 hb2' q0 q2 b4' b2 b4 r0 hz2 hz3
 go_wp2
 go_cut [11, 12] (fun bv fv wx => ∃ v4 : SlR, bv = .slice v4.a v4.n v4.cap ∧ fv = .int .i64 (prvE d.pp.length ob s.data.toList : Int) ∧ Hid (Below w3.heap.size w3 wx) ∧ Hid (OwnB wx w3.heap.size v4.val (prvB d.pp ob s.data.toList)))
 case first =>
  go_region_held_law (fun W => W.cell? ⟨d.pb, 1, none⟩ = some (.pointer (some ⟨d.rb, 0, none⟩)) ∧ W.cell? ⟨w.heap.size, 2, none⟩ = some (.int .i64 ob) ∧ W.cell? ⟨w.heap.size, 4, none⟩ = some (.string s)) (go_keep)
   ((go_at_call 47; refine (HREF.out _ _ _ _ (by repeat' (first | (with_reducible exact Below.refl _ _) | (with_reducible refine Below.drew ?_) | (with_reducible refine Below.alloc ?_ ?_ _) | omega | (simp only [World.size_alloc, World.size_drew]; omega))) (by repeat' (first | (with_reducible exact BS.ofString _ _ _ _ _) | (with_reducible refine BS.drew ?_))) ).mono ?_; rintro r w4 ⟨v4, rfl, ho4, hb4⟩; have HB4 : Hid (Below w3.heap.size w3 w4) := Below.trans (by repeat' (first | (with_reducible exact Below.refl _ _) | (with_reducible refine Below.drew ?_) | (with_reducible refine Below.alloc ?_ ?_ _) | omega | (simp only [World.size_alloc, World.size_drew]; omega))) (Below.mono hb4 (by simp)); have HO4 : Hid (OwnB w4 w3.heap.size v4.val (prvB d.pp ob s.data.toList)) := owns_base ho4 (fun k hk => (by have h1 := (ho4.lt k hk).1; simp at h1; omega)); clear ho4 hb4; have e1 : w4.cell? ⟨d.pb, 1, none⟩ = some (.pointer (some ⟨d.rb, 0, none⟩)) := (by rw [HB4.out.cell (p := ⟨d.pb, 1, none⟩) (by show d.pb < w3.heap.size; omega)]; exact r1); have e2 : w4.cell? ⟨w.heap.size, 2, none⟩ = some (.int .i64 ob) := (by rw [HB4.out.cell (p := ⟨w.heap.size, 2, none⟩) (by show w.heap.size < w3.heap.size; omega)]; exact b2''); have e4 : w4.cell? ⟨w.heap.size, 4, none⟩ = some (.string s) := (by rw [HB4.out.cell (p := ⟨w.heap.size, 4, none⟩) (by show w.heap.size < w3.heap.size; omega)]; exact b4'')))
  all_goals
   go_wp2
   go_meet
   exact ⟨v4, rfl, rfl, HB4, HO4⟩
 case rest =>
  obtain ⟨v4, rfl, rfl, HB4, HO4⟩ := hcut
  have hb4 := HB4.out
  have ho2c : OwnB wc w1.heap.size (.slice v2.a v2.n v2.cap) (prvB d.pp ob s.data.toList) := owns_below HO3.out hb4
  have ho4c : OwnB wc w3.heap.size (.slice v4.a v4.n v4.cap) (prvB d.pp ob s.data.toList) := HO4.out
  obtain ⟨hs2, hn2, hnil2⟩ := OwnB.sl ho2c
  obtain ⟨hs4, hn4, hnil4⟩ := OwnB.sl ho4c
  have hc2 := run_string_SlB (P := Tryz.prog) wc 38 9 5 v2.a v2.n v2.cap _ Tryz.underlying38 Tryz.underlying5 Tryz.underlying9 hn2 hs2 hnil2
  have hc4 := run_string_SlB (P := Tryz.prog) wc 38 9 5 v4.a v4.n v4.cap _ Tryz.underlying38 Tryz.underlying5 Tryz.underlying9 hn4 hs4 hnil4
  have HBC : Hid (Below w.heap.size w wc) := HB3.out.trans (hb4.mono HB3.out.size)
  have hHc := HH.out.below HBC.out
  have hz1 := HZ1.out
  have HV2 : Hid (∀ k, v2.val.ownBlock = some k → w.heap.size ≤ k) := fun k hk => by have := (ho2c.lt k hk).1; omega
  have hlen := prvB_small (HDK.out.lay.pastR) ob s.data.toList
  have HBB : Hid (Calls _ _ _ _ _) := book_byte wb ps B.bs B.dg B.es v2 B.rs (prvB d.pp ob s.data.toList) w1.heap.size wc hHc.row hHc.bk ho2c hlen hn (Nat.le_trans HZ3.out hb4.size)
   (fun k hk => ⟨by have := HV2.out k hk; omega, fun e => by have := HV2.out k hk; have := HH.out.bk.lt k e; omega⟩) (fun k hk => by have := (HH.out.low k (Or.inl hk)).1; omega)
  generalize prvB d.pp ob s.data.toList = pv at *
  generalize prvE d.pp.length ob s.data.toList = pe at *
  clear hs2 hn2 hnil2 hs4 hn4 hnil4 ho2c ho4c hHc hlen hb4 HO3 HO4 HO2 HREF hcv hz1
  unfold SlR.val at HBB
  go_wp2_with (go_at_call 18; refine HBB.out.mono ?_; rintro e w5 ⟨rfl, bs', r, hr5, hk5, hf5, hn5⟩)
  go_ret
  refine ⟨rfl, _, LawK.moreB (v := v2) HH.out HBC.out HV2.out hr5 hk5 hf5 hn5, by simp [BookD.addB], by simp [BookD.addB], by simp [BookD.addB], ?_⟩
  exact (HBC.out.mono (Nat.le_of_lt hwb)).trans (hf5.below (Nat.le_trans (Nat.le_of_lt hwb) HBC.out.size) (fun k hk => by
   rcases hk with e | e | e
   ·omega
   ·have := HV2.out k e; omega
   ·have := (HH.out.low k (Or.inl (Or.inl e))).1; omega))
end Go.Proofs.YtekegfbjbainhaaGreat


namespace Go.Proofs.YtekegfbjbainhaaGreat
open Go.RowKit
attribute [local go_sem ↓] Go.wp_at_zero Go.wp_at_succ
set_option maxRecDepth 100000 in
set_option maxHeartbeats 4000000 in
theorem proved_rangeK (cs : List Value) (ob oc : Int) (s t : ByteArray) (wb : Nat) (ps : SlR) (ds : List PairD) (B : BookD) (d : PairD) (w : World) (h : LawK w wb ps ds B) (hd : d ∈ ds) (k0 : cs[0]? = some (.int .i64 7)) (k2 : cs[2]? = some (.int .i64 ob)) (k3 : cs[3]? = some (.int .i64 oc)) (k4 : cs[4]? = some (.string s)) (k5 : cs[5]? = some (.string t)) (hs : s.size ≤ 140737488351232) (ht : t.size ≤ 140737488351232) (hn : B.rs.length ≤ 1200000000000) :
  Calls Tryz.prog 22 #[.pointer (some ⟨wb, 0, none⟩), .agg cs.toArray, .pointer (some ⟨d.pb, 0, none⟩)] w (StepK 1 0 0 wb ps ds B w) := by
 have hdk := h.law.ok d hd
 have HA : Hid (Below w.heap.size w (w.alloc (.cells cs.toArray 43))) := (Below.refl _ _).alloc (Nat.le_refl _) _
 have hsm : s.data.toList.length ≤ maxLen := by simp; unfold maxLen; omega
 have HSM : Hid (s.data.toList.length ≤ maxLen) := hsm
 have htm : t.data.toList.length ≤ maxLen := by simp; unfold maxLen; omega
 have HTM : Hid (t.data.toList.length ≤ maxLen) := htm
 have hpb : d.pb < w.heap.size := RowV.lt hdk.lay.row
 have hwb : wb < w.heap.size := RowV.lt h.law.row
 have HH : Hid (LawK w wb ps ds B) := h
 have HDK : Hid (PairOk w d) := hdk
 clear hsm htm h hdk
 go_enter Tryz.func22, Tryz.ntmps22
 go_wp2_with fail
 refine (lent_ok s _ _ hs).mono ?_
 rintro e w0 ⟨a, cap, rfl, hl0, hb0, hz0⟩
 simp only [World.size_alloc] at hb0 hz0 hl0
 have z0 := hb0.size
 simp only [World.size_alloc] at z0
 have q3 : w0.cell? ⟨w.heap.size, 3, none⟩ = some (.int .i64 oc) := by
  rw [hb0.cell (p := ⟨w.heap.size, 3, none⟩) (by show w.heap.size < _; omega)]; simp [go_sem, k3]
 have q5 : w0.cell? ⟨w.heap.size, 5, none⟩ = some (.string t) := by
  rw [hb0.cell (p := ⟨w.heap.size, 5, none⟩) (by show w.heap.size < _; omega)]; simp [go_sem, k5]
 go_wp2_with fail
 refine (lent_ok t _ _ ht).mono ?_
 rintro e w1 ⟨ta, tcap, rfl, hm1, hb1, hz1⟩
 have z1 := hb1.size
 have hl1 : LentAt w1 (w.heap.size + 1) s a cap := hl0.below hb1 (Nat.le_refl _)
 have HB1 : Hid (Below w.heap.size w w1) := (HA.out.trans (hb0.mono (by omega))).trans (hb1.mono (by omega))
 have hb1d : Below w1.heap.size w1 w1.drew := ⟨rfl, rfl, rfl, Nat.le_refl _, fun _ _ => rfl⟩
 have HP1 := (HDK.out.lay.below HB1.out).below hb1d
 have r0 : w1.cell? ⟨d.pb, 0, none⟩ = some (.pointer (some ⟨d.sb, 0, none⟩)) := RowV.cell HP1.row 0 (by simp)
 have hop1 : ∀ i v, cs[i]? = some v → w1.cell? ⟨w.heap.size, i, none⟩ = some v := fun i v hv => by
  rw [hb1.cell (p := ⟨w.heap.size, i, none⟩) (by show w.heap.size < _; omega), hb0.cell (p := ⟨w.heap.size, i, none⟩) (by show w.heap.size < _; omega)]
  simp [go_sem, hv]
 have HOP1 : Hid (∀ i v, cs[i]? = some v → w1.cell? ⟨w.heap.size, i, none⟩ = some v) := hop1
 have b2 := hop1 2 _ k2
 have HSD : Hid (Calls _ _ _ _ _) := sto_range d.sb d.N d.en d.tr d.mp d.es d.xs d.its d.tds d.T d.pp ob ⟨a, s.size, cap⟩ ⟨ta, t.size, tcap⟩ s.data.toList t.data.toList w1.drew HP1.sto HP1.tre HDK.out.t40 (hl1.bs.below hb1d) (hm1.bs.below hb1d) HSM.out HTM.out
 have HL1 : Hid (LentAt w1 (w.heap.size + 1) s a cap) := hl1
 have HM1 : Hid (LentAt w1 w0.heap.size t ta tcap) := hm1
 have HZ1 : Hid (w.heap.size + 1 ≤ w0.heap.size ∧ w0.heap.size ≤ w1.heap.size) := ⟨by omega, by omega⟩
 have hpb1 : d.pb < w1.heap.size := by omega
 have hne1 : d.pb ≠ w.heap.size := by omega
 have HLT0 : Hid (∀ k, a = some ⟨k, 0, none⟩ → k = w.heap.size + 1 ∧ k < w0.heap.size) := fun k hk => ⟨(hl0.lt hk).1, by have := hl0.lt hk; omega⟩
 have HLT1 : Hid (∀ k, ta = some ⟨k, 0, none⟩ → k = w0.heap.size ∧ k < w1.heap.size) := fun k hk => ⟨(hm1.lt hk).1, by have := hm1.lt hk; omega⟩
 unfold SlR.val at HSD
 clear HP1 hl1 hm1 hl0 hb0 hz0 hb1 hz1 hb1d hop1 q3 q5 z0 z1
 go_wp2
 go_region_held3 (fun W => W.cell? ⟨d.pb, 0, none⟩ = some (.pointer (some ⟨d.sb, 0, none⟩)) ∧ W.cell? ⟨w.heap.size, 2, none⟩ = some (.int .i64 ob)) (go_keep)
  ((go_at_call 48; refine HSD.out.mono ?_; rintro r w2 ⟨v2, rfl, ho2, hb2⟩; have q0 : w2.cell? ⟨d.pb, 0, none⟩ = some (.pointer (some ⟨d.sb, 0, none⟩)) := (by rw [hb2.cell (p := ⟨d.pb, 0, none⟩) (by show d.pb < w1.heap.size; omega)]; exact r0); have q2 : w2.cell? ⟨w.heap.size, 2, none⟩ = some (.int .i64 ob) := (by rw [hb2.cell (p := ⟨w.heap.size, 2, none⟩) (by show w.heap.size < w1.heap.size; have := HZ1.out; omega)]; exact b2)))
 have hb2' : Below w1.heap.size w1 w2 := ⟨hb2.os, hb2.tape, hb2.output, hb2.size, hb2.block⟩
 have hl2 : LentAt w2 (w.heap.size + 1) s a cap := HL1.out.below hb2' (Nat.le_refl _)
 have hm2 : LentAt w2 w0.heap.size t ta tcap := HM1.out.below hb2' (Nat.le_refl _)
 have HB2 : Hid (Below w.heap.size w w2) := HB1.out.trans (hb2'.mono HB1.out.size)
 have HOP2 : Hid (∀ i v, cs[i]? = some v → w2.cell? ⟨w.heap.size, i, none⟩ = some v) := fun i v hv => by
  rw [hb2'.cell (p := ⟨w.heap.size, i, none⟩) (by show w.heap.size < w1.heap.size; have := HZ1.out; omega)]; exact HOP1.out i v hv
 have c4 := HOP2.out 4 _ k4
 have HO2 : Hid (OwnB w2 w1.heap.size v2.val (rngB d.pp ob s.data.toList t.data.toList)) := ho2
 have hz2 := hb2'.size
 clear ho2 hb2
 go_wp2_with fail
 refine (back_ok s a cap (w.heap.size + 1) _ hs hl2).mono ?_
 rintro e w3 ⟨rfl, hf3, hz3⟩
 have hza := HZ1.out
 have HB3 : Hid (Below w.heap.size w w3) := HB2.out.trans (hf3.below HB2.out.size (fun k hk => by have := HLT0.out k hk; omega))
 have HO3 : Hid (OwnB w3 w1.heap.size v2.val (rngB d.pp ob s.data.toList t.data.toList)) := owns_frame HO2.out hf3 (fun k hk e => by have h1 := (HO2.out.lt k hk).1; have h2 := HLT0.out k e; omega)
 have hm3 : LentAt w3 w0.heap.size t ta tcap := hm2.frame hf3 (fun e => by have := HLT0.out _ e; omega)
 have HOP3 : Hid (∀ i v, cs[i]? = some v → w3.cell? ⟨w.heap.size, i, none⟩ = some v) := fun i v hv => by
  rw [← HOP2.out i v hv]
  exact World.cell?_of_block (hf3.block _ (by show w.heap.size < _; omega) (fun e => by have := HLT0.out _ e; simp only at this; omega))
 have c5 := HOP3.out 5 _ k5
 clear hf3 c4
 go_wp2_with fail
 refine (back_ok t ta tcap w0.heap.size _ ht hm3).mono ?_
 rintro e w4 ⟨rfl, hf4, hz4⟩
 have HB4 : Hid (Below w.heap.size w w4) := HB3.out.trans (hf4.below HB3.out.size (fun k hk => by have := HLT1.out k hk; omega))
 have HO4 : Hid (OwnB w4 w1.heap.size v2.val (rngB d.pp ob s.data.toList t.data.toList)) := owns_frame HO3.out hf4 (fun k hk e => by have h1 := (HO3.out.lt k hk).1; have h2 := HLT1.out k e; omega)
 have HOP4 : Hid (∀ i v, cs[i]? = some v → w4.cell? ⟨w.heap.size, i, none⟩ = some v) := fun i v hv => by
  rw [← HOP3.out i v hv]
  exact World.cell?_of_block (hf4.block _ (by show w.heap.size < _; omega) (fun e => by have := HLT1.out _ e; simp only at this; omega))
 have HP4 := HDK.out.lay.below HB4.out
 have d2 := HOP4.out 2 _ k2
 have d4 := HOP4.out 4 _ k4
 have d5 := HOP4.out 5 _ k5
 have r1 : w4.cell? ⟨d.pb, 1, none⟩ = some (.pointer (some ⟨d.rb, 0, none⟩)) := RowV.cell HP4.row 1 (by simp)
 have hcv := fun w => run_bytes_of_string (P := Tryz.prog) w 9 38 5 s Tryz.underlying9 Tryz.underlying38 Tryz.underlying5
 have hcu := fun w => run_bytes_of_string (P := Tryz.prog) w 9 38 5 t Tryz.underlying9 Tryz.underlying38 Tryz.underlying5
 have HREF : Hid (∀ (W : World) (a' : Option Addr) (n' cap' : Nat) (a'' : Option Addr) (n'' cap'' : Nat), Below w4.heap.size w4 W → BS W ⟨a', n', cap'⟩ s.data.toList → BS W ⟨a'', n'', cap''⟩ t.data.toList → Calls Tryz.prog 49 #[.pointer (some ⟨d.rb, 0, none⟩), .int .i64 ob, .slice a' n' cap', .slice a'' n'' cap''] W fun r w' => ∃ v' : SlR, r = .returned (.tuple #[.slice v'.a v'.n v'.cap, .int .i64 (rngE d.pp.length ob s.data.toList t.data.toList : Int)]) ∧ OwnB w' W.heap.size v'.val (rngB d.pp ob s.data.toList t.data.toList) ∧ Below W.heap.size W w') := fun W a' n' cap' a'' n'' cap'' hb hbs hbt => by
  have hr := ref_range d.rb d.now d.past d.roots d.nl d.pastL d.rl ob ⟨a', n', cap'⟩ ⟨a'', n'', cap''⟩ s.data.toList t.data.toList W (HP4.below hb).ref (by rw [HDK.out.pl]; exact HDK.out.t40) (fun q hq => HP4.pastR _ (by rw [← HDK.out.pst]; exact List.mem_map_of_mem hq)) hbs hbt HSM.out HTM.out
  rw [HDK.out.pst] at hr
  exact hr
 have hz3' : w.heap.size < w4.heap.size := by omega
 have hpb3 : d.pb < w4.heap.size := by omega
 have HZ3 : Hid (w1.heap.size ≤ w4.heap.size) := by unfold Hid; omega
 have HZB : Hid (w.heap.size ≤ w1.heap.size) := by unfold Hid; omega
 clear HP4 hf4 hl2 hm2 hm3 hb2' q0 q2 b2 r0 hz2 hz3 hz4 hza c5 hpb1
 go_wp2
 go_cut [20, 21] (fun bv fv wx => ∃ v4 : SlR, bv = .slice v4.a v4.n v4.cap ∧ fv = .int .i64 (rngE d.pp.length ob s.data.toList t.data.toList : Int) ∧ Hid (Below w4.heap.size w4 wx) ∧ Hid (OwnB wx w4.heap.size v4.val (rngB d.pp ob s.data.toList t.data.toList)))
 case first =>
  go_region_held_law (fun W => W.cell? ⟨d.pb, 1, none⟩ = some (.pointer (some ⟨d.rb, 0, none⟩)) ∧ W.cell? ⟨w.heap.size, 2, none⟩ = some (.int .i64 ob) ∧ W.cell? ⟨w.heap.size, 4, none⟩ = some (.string s) ∧ W.cell? ⟨w.heap.size, 5, none⟩ = some (.string t)) (go_keep)
   ((go_at_call 49; refine (HREF.out _ _ _ _ _ _ _ (by repeat' (first | (with_reducible exact Below.refl _ _) | (with_reducible refine Below.drew ?_) | (with_reducible refine Below.alloc ?_ ?_ _) | omega | (simp only [World.size_alloc, World.size_drew]; omega))) (by repeat' (first | (with_reducible refine bs_ofString _ _ _ _ _ _ ?_; simp) | (with_reducible refine BS.drew ?_) | (with_reducible refine bs_alloc ?_ _))) (by repeat' (first | (with_reducible refine bs_ofString _ _ _ _ _ _ ?_; simp) | (with_reducible refine BS.drew ?_) | (with_reducible refine bs_alloc ?_ _)))).mono ?_; rintro r w5 ⟨v4, rfl, ho5, hb5⟩; have HB5 : Hid (Below w4.heap.size w4 w5) := Below.trans (by repeat' (first | (with_reducible exact Below.refl _ _) | (with_reducible refine Below.drew ?_) | (with_reducible refine Below.alloc ?_ ?_ _) | omega | (simp only [World.size_alloc, World.size_drew]; omega))) (Below.mono hb5 (by simp; omega)); have HO5 : Hid (OwnB w5 w4.heap.size v4.val (rngB d.pp ob s.data.toList t.data.toList)) := owns_base ho5 (fun k hk => (by have h1 := (ho5.lt k hk).1; simp at h1; omega)); clear ho5 hb5; have e1 : w5.cell? ⟨d.pb, 1, none⟩ = some (.pointer (some ⟨d.rb, 0, none⟩)) := (by rw [HB5.out.cell (p := ⟨d.pb, 1, none⟩) (by show d.pb < w4.heap.size; omega)]; exact r1); have e2 : w5.cell? ⟨w.heap.size, 2, none⟩ = some (.int .i64 ob) := (by rw [HB5.out.cell (p := ⟨w.heap.size, 2, none⟩) (by show w.heap.size < w4.heap.size; omega)]; exact d2); have e4 : w5.cell? ⟨w.heap.size, 4, none⟩ = some (.string s) := (by rw [HB5.out.cell (p := ⟨w.heap.size, 4, none⟩) (by show w.heap.size < w4.heap.size; omega)]; exact d4); have e5 : w5.cell? ⟨w.heap.size, 5, none⟩ = some (.string t) := (by rw [HB5.out.cell (p := ⟨w.heap.size, 5, none⟩) (by show w.heap.size < w4.heap.size; omega)]; exact d5)))
  all_goals
   go_wp2
   go_meet
   exact ⟨v4, rfl, rfl, HB5, HO5⟩
 case rest =>
  obtain ⟨v4, rfl, rfl, HB5, HO5⟩ := hcut
  have hb4 := HB5.out
  have ho2c : OwnB wc w1.heap.size (.slice v2.a v2.n v2.cap) (rngB d.pp ob s.data.toList t.data.toList) := owns_below HO4.out hb4
  have ho4c : OwnB wc w4.heap.size (.slice v4.a v4.n v4.cap) (rngB d.pp ob s.data.toList t.data.toList) := HO5.out
  obtain ⟨hs2, hn2, hnil2⟩ := OwnB.sl ho2c
  obtain ⟨hs4, hn4, hnil4⟩ := OwnB.sl ho4c
  have hc2 := run_string_SlB (P := Tryz.prog) wc 38 9 5 v2.a v2.n v2.cap _ Tryz.underlying38 Tryz.underlying5 Tryz.underlying9 hn2 hs2 hnil2
  have hc4 := run_string_SlB (P := Tryz.prog) wc 38 9 5 v4.a v4.n v4.cap _ Tryz.underlying38 Tryz.underlying5 Tryz.underlying9 hn4 hs4 hnil4
  have HBC : Hid (Below w.heap.size w wc) := HB4.out.trans (hb4.mono HB4.out.size)
  have hHc := HH.out.below HBC.out
  have HV2 : Hid (∀ k, v2.val.ownBlock = some k → w.heap.size ≤ k) := fun k hk => by have := (ho2c.lt k hk).1; have := HZB.out; omega
  have hlen := rngB_small (HDK.out.lay.pastR) ob s.data.toList t.data.toList
  have HBB : Hid (Calls _ _ _ _ _) := book_byte wb ps B.bs B.dg B.es v2 B.rs (rngB d.pp ob s.data.toList t.data.toList) w1.heap.size wc hHc.row hHc.bk ho2c hlen hn (Nat.le_trans HZ3.out hb4.size)
   (fun k hk => ⟨by have := HV2.out k hk; omega, fun e => by have := HV2.out k hk; have := HH.out.bk.lt k e; omega⟩) (fun k hk => by have := (HH.out.low k (Or.inl hk)).1; omega)
  generalize rngB d.pp ob s.data.toList t.data.toList = pv at *
  generalize rngE d.pp.length ob s.data.toList t.data.toList = pe at *
  clear hs2 hn2 hnil2 hs4 hn4 hnil4 ho2c ho4c hHc hlen hb4 HO3 HO4 HO2 HO5 HREF hcv hcu
  unfold SlR.val at HBB
  go_wp2_with (go_at_call 18; refine HBB.out.mono ?_; rintro e w6 ⟨rfl, bs', r, hr5, hk5, hf5, hn5⟩)
  go_ret
  refine ⟨rfl, _, LawK.moreB (v := v2) HH.out HBC.out HV2.out hr5 hk5 hf5 hn5, by simp [BookD.addB], by simp [BookD.addB], by simp [BookD.addB], ?_⟩
  exact (HBC.out.mono (Nat.le_of_lt hwb)).trans (hf5.below (Nat.le_trans (Nat.le_of_lt hwb) HBC.out.size) (fun k hk => by
   rcases hk with e | e | e
   ·omega
   ·have := HV2.out k e; omega
   ·have := (HH.out.low k (Or.inl (Or.inl e))).1; omega))
end Go.Proofs.YtekegfbjbainhaaGreat


namespace Go.Proofs.YtekegfbjbainhaaGreat
open Go.RowKit
end Go.Proofs.YtekegfbjbainhaaGreat


namespace Go.Proofs.YtekegfbjbainhaaGreat
open Go.RowKit
theorem kInv_prove (mr mg mh : Nat) (w wr : World) (q : Nat) (o : OpR) (hI : kInv mr mg mh w q wr) (hq : CapQ mr mg mh q) (h1r : 1 ≤ mr) (hk : o.kind = 6 ∨ o.kind = 7) (hs : o.s.size ≤ 140737488351232) (ht : o.t.size ≤ 140737488351232) (ha1 : -9223372036854775808 ≤ o.a) (ha2 : o.a ≤ 9223372036854775807) :
  Calls Tryz.prog 12 #[.pointer (some ⟨w.heap.size, 0, none⟩), .agg o.cells.toArray] wr fun e w' => e = .returned (.bool true) ∧ kInv mr mg mh w (q + 1) w' := by
 obtain ⟨h1, ps, ds, B, h2, h3, h4, h5, h6, h7⟩ := hI
 have e1 : (q + 1) * mr = q * mr + mr := Nat.succ_mul q mr
 have e2 : (q + 1) * mg = q * mg + mg := Nat.succ_mul q mg
 have e3 : (q + 1) * mh = q * mh + mh := Nat.succ_mul q mh
 obtain ⟨q1, q2, q3⟩ := id hq
 have hk' : o.kind = 6 ∨ o.kind = 7 ∨ o.kind = 8 ∨ o.kind = 9 := by omega
 by_cases hn : ds.length = 0
 ·have hnil : ds = [] := List.length_eq_zero_iff.1 hn
  subst hnil
  refine (step_noneQ o.cells o.kind w.heap.size ps wr h2.law rfl hk').mono ?_
  rintro e w' ⟨rfl, hb⟩
  exact ⟨rfl, h1.trans (hb.mono h1.size), ps, [], B, h2.below hb, by omega, by omega, by omega, by omega, h7⟩
 ·refine (step_prv o.cells o.kind o.a 1 0 0 w.heap.size ps ds B wr h2 rfl rfl hk' rfl ha1 ha2 (by omega) (fun d W hW hd hbW => ?_)).mono ?_
  ·rcases hk with hk | hk
   ·exact proved_keyK o.cells o.b o.c o.s w.heap.size ps ds B d W hW hd (by rw [← hk]; rfl) rfl rfl rfl hs (by omega)
   ·exact proved_rangeK o.cells o.b o.c o.s o.t w.heap.size ps ds B d W hW hd (by rw [← hk]; rfl) rfl rfl rfl rfl hs ht (by omega)
  ·intro e w' hs'
   exact kInv.next h1 h3 h4 h5 h6 hs' h1r (Nat.zero_le _) (Nat.zero_le _) hq
def OkA (w : World) (o : OpR) : Prop := (-9223372036854775808 ≤ o.a ∧ o.a ≤ 9223372036854775807) ∧ (-9223372036854775808 ≤ o.b ∧ o.b ≤ 9223372036854775807) ∧ (-9223372036854775808 ≤ o.c ∧ o.c ≤ 9223372036854775807) ∧ o.u.size ≤ 1048576 ∧ PathAt w o.path
theorem capQ_all {q n : Nat} (h : q ≤ n) (hn : n ≤ 524288) : CapQ 2100000 1 1 q := ⟨by omega, by omega, by omega⟩
set_option maxRecDepth 100000 in
set_option maxHeartbeats 800000 in
theorem all_law (hli : LiesOk) (a : Option Addr) (n cap : Nat) (f : Nat → OpR) (w : World) (hn : n ≤ 524288) (hs : ScriptAt w a n f) (ho : ∀ i, i < n → OkA w (f i))
  (hst : ∀ o : OpR, (o.kind = 3 ∨ o.kind = 4 ∨ o.kind = 5) → o.s.size ≤ 140737488351232 → o.t.size ≤ 140737488351232 → StoredOk o.cells) :
  Calls Tryz.prog 8 #[.slice a n cap] w fun e w' => e = .returned (.bool true) ∧ Below w.heap.size w w' := by
 have HN : Hid (n ≤ 524288) := hn
 have HLI : Hid LiesOk := hli
 clear hn hli
 go_enter Tryz.func8, Tryz.ntmps8
 go_wp2_with fail
 obtain ⟨W, hWe⟩ : ∃ W, W = w.alloc (Obj.cells #[Value.int IntKind.i64 2, Value.int IntKind.i64 1, Value.int IntKind.i64 3, Value.int IntKind.i64 4, Value.int IntKind.i64 5, Value.int IntKind.i64 6, Value.int IntKind.i64 7, Value.int IntKind.i64 8, Value.int IntKind.i64 9, Value.int IntKind.i64 10, Value.int IntKind.i64 11, Value.int IntKind.i64 12, Value.int IntKind.i64 13, Value.int IntKind.i64 14, Value.int IntKind.i64 15, Value.int IntKind.i64 16] 3) := ⟨_, rfl⟩
 have hs' : ScriptAt W a n f := fun i hi => by
  obtain ⟨b, o, ha, hb, hr, h1, h2, h3⟩ := hs i hi
  rw [hWe]
  exact ⟨b, o, ha, by simp; omega, fun j v hv => by rw [World.cell?_alloc_lt _ _ _ (by exact hb)]; exact hr j v hv, h1, h2, h3⟩
 have hk' : KindsAt W w.heap.size [2, 1, 3, 4, 5, 6, 7, 8, 9, 10, 11, 12, 13, 14, 15, 16] := fun j hj => by
  rw [hWe]
  have hj4 : j < 16 := by simpa using hj
  match j, hj4 with
  | 0, _ => simp [go_sem]
  | 1, _ => simp [go_sem]
  | 2, _ => simp [go_sem]
  | 3, _ => simp [go_sem]
  | 4, _ => simp [go_sem]
  | 5, _ => simp [go_sem]
  | 6, _ => simp [go_sem]
  | 7, _ => simp [go_sem]
  | 8, _ => simp [go_sem]
  | 9, _ => simp [go_sem]
  | 10, _ => simp [go_sem]
  | 11, _ => simp [go_sem]
  | 12, _ => simp [go_sem]
  | 13, _ => simp [go_sem]
  | 14, _ => simp [go_sem]
  | 15, _ => simp [go_sem]
  | n + 16, h => exact absurd h (by omega)
 have hwW : w.heap.size < W.heap.size := by rw [hWe]; simp
 have HBW : Hid (Below w.heap.size w W) := by rw [hWe]; exact (Below.refl _ _).alloc (Nat.le_refl _) _
 have ho' : ∀ i, i < n → OkA W (f i) := fun i hi => ⟨(ho i hi).1, (ho i hi).2.1, (ho i hi).2.2.1, (ho i hi).2.2.2.1, (ho i hi).2.2.2.2.below HBW.out⟩
 rw [← hWe]
 clear hWe
 refine (plays_n a n cap w.heap.size 2 [1, 3, 4, 5, 6, 7, 8, 9, 10, 11, 12, 13, 14, 15, 16] f W (kInv 2100000 1 1 W) (OkA W) (by have := HN.out; unfold maxLen; omega) hs' ho' hwW (by simp [maxLen]) hk'
  (kInv_start 2100000 1 1 W) (fun q wr h => h.1) (fun q wr m h => h.drew m) (fun q wr h => h.mono) ?_ ?_ ?_).mono ?_
 ·intro wr hI
  exact kInv_new 2100000 1 1 W wr 0 _ hI rfl rfl (by omega)
 ·intro q wr o hq hI hoo hk h1 h2 _
  have hcq : CapQ 2100000 1 1 q := capQ_all hq HN.out
  have hk' : o.kind = 2 ∨ o.kind = 1 ∨ o.kind = 3 ∨ o.kind = 4 ∨ o.kind = 5 ∨ o.kind = 6 ∨ o.kind = 7 ∨ o.kind = 8 ∨ o.kind = 9 ∨ o.kind = 10 ∨ o.kind = 11 ∨ o.kind = 12 ∨ o.kind = 13 ∨ o.kind = 14 ∨ o.kind = 15 ∨ o.kind = 16 := by simpa using hk
  obtain ⟨⟨a1, a2⟩, ⟨b1, b2⟩, ⟨c1, c2⟩, hu, hpt⟩ := hoo
  rcases hk' with hk' | hk' | hk' | hk' | hk' | hk' | hk' | hk' | hk' | hk' | hk' | hk' | hk' | hk' | hk' | hk'
  ·exact kInv_new 2100000 1 1 W wr q o.cells hI rfl (by rw [← hk']; rfl) (by have := HN.out; omega)
  ·exact kInv_digest 2100000 1 1 W wr q o.cells o.a o.s hI rfl (by rw [← hk']; rfl) rfl rfl h1
  ·exact kInv_old 2100000 1 1 W wr q o.cells o.kind o.a hI rfl rfl (Or.inl hk') rfl a1 a2 (hst o (Or.inl hk') h1 h2)
  ·exact kInv_old 2100000 1 1 W wr q o.cells o.kind o.a hI rfl rfl (Or.inr (Or.inl hk')) rfl a1 a2 (hst o (Or.inr (Or.inl hk')) h1 h2)
  ·exact kInv_old 2100000 1 1 W wr q o.cells o.kind o.a hI rfl rfl (Or.inr (Or.inr hk')) rfl a1 a2 (hst o (Or.inr (Or.inr hk')) h1 h2)
  ·exact kInv_prove 2100000 1 1 W wr q o hI hcq (by omega) (Or.inl hk') h1 h2 a1 a2
  ·exact kInv_prove 2100000 1 1 W wr q o hI hcq (by omega) (Or.inr hk') h1 h2 a1 a2
  ·exact kInv_log 2100000 1 1 W wr q o hI hcq (by omega) (Or.inl hk') a1 a2
  ·exact kInv_log 2100000 1 1 W wr q o hI hcq (by omega) (Or.inr hk') a1 a2
  ·exact kInv_check 2100000 1 1 W wr q o hI hcq (by omega) hk' h1 (by omega)
  ·exact kInv_checks 2100000 1 1 W wr q o hI hcq (by omega) (by omega) hk' h1 h2 hu
  ·exact kInv_path 2100000 1 1 W wr q o hI hcq (Or.inl hk') b2 c2 hpt
  ·exact kInv_path 2100000 1 1 W wr q o hI hcq (Or.inr hk') b2 c2 hpt
  ·exact kInv_ask 2100000 1 1 W wr q o hI hcq (by omega) (by omega) (Or.inl hk') h1 h2 a1 a2 b1 b2 c1 c2
  ·exact kInv_ask 2100000 1 1 W wr q o hI hcq (by omega) (by omega) (Or.inr hk') h1 h2 a1 a2 b1 b2 c1 c2
  ·exact kInv_lies HLI.out 2100000 1 1 W wr q o hI hcq hk' ⟨a1, a2⟩ ⟨b1, b2⟩ ⟨c1, c2⟩ hpt
 ·intro q wr hI
  exact kInv_looks 2100000 1 1 W wr q hI
 ·rintro e w1 ⟨rfl, q, hI⟩
  have HB1 : Hid (Below w.heap.size w w1) := HBW.out.trans (hI.1.mono HBW.out.size)
  clear hI hs' hk' hs ho hst ho'
  go_wp2
  go_ret
  exact ⟨rfl, HB1.out⟩
end Go.Proofs.YtekegfbjbainhaaGreat
