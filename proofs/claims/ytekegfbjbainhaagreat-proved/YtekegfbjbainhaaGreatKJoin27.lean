import Derived.Test.YtekegfbjbainhaaGreatKJoin26
/- A step of ProveRange, walked. -/
namespace Go.Proofs.YtekegfbjbainhaaGreat
set_option linter.unusedVariables false
set_option linter.unusedSimpArgs false
open Go.RowKit
attribute [local go_sem ↓] Go.wp_at_zero Go.wp_at_succ

theorem bs_ofString (b : Nat) (w : World) (s : ByteArray) (cap : Nat) (t : TypeId) (fr : Nat × Nat) (hb : b = w.heap.size) : BS (w.alloc (.cells (bytesRow s cap) t fr)) ⟨some ⟨b, 0, none⟩, s.size, cap⟩ s.data.toList := by
  subst hb; exact BS.ofString _ _ _ _ _
theorem bs_alloc {w : World} {s : SlR} {l : List UInt8} (h : BS w s l) (X : Obj) : BS (w.alloc X) s l := h.below ((Below.refl _ _).alloc (Nat.le_refl _) _)

set_option maxRecDepth 100000 in
set_option maxHeartbeats 4000000 in
theorem proved_range (cs : List Value) (ob oc : Int) (s t : ByteArray) (wb : Nat) (ps bs : SlR) (ds : List PairD) (rs : List BkR) (d : PairD) (w : World) (h : LawB w wb ps ds bs rs) (hd : d ∈ ds) (k0 : cs[0]? = some (.int .i64 7)) (k2 : cs[2]? = some (.int .i64 ob)) (k3 : cs[3]? = some (.int .i64 oc)) (k4 : cs[4]? = some (.string s)) (k5 : cs[5]? = some (.string t)) (hs : s.size ≤ 140737488351232) (ht : t.size ≤ 140737488351232) (hn : rs.length ≤ 1200000000000) :
    Calls Tryz.prog 22 #[.pointer (some ⟨wb, 0, none⟩), .agg cs.toArray, .pointer (some ⟨d.pb, 0, none⟩)] w fun e w' => e = .returned (.bool true) ∧ ∃ bs' r, LawB w' wb ps ds bs' (rs ++ [r]) ∧ Frame (fun k => k = wb ∨ bs.val.ownBlock = some k) w w' := by
  have hdk := h.law.ok d hd
  have HA : Hid (Below w.heap.size w (w.alloc (.cells cs.toArray 43))) := (Below.refl _ _).alloc (Nat.le_refl _) _
  have hsm : s.data.toList.length ≤ maxLen := by simp; unfold maxLen; omega
  have HSM : Hid (s.data.toList.length ≤ maxLen) := hsm
  have htm : t.data.toList.length ≤ maxLen := by simp; unfold maxLen; omega
  have HTM : Hid (t.data.toList.length ≤ maxLen) := htm
  have hpb : d.pb < w.heap.size := RowV.lt hdk.lay.row
  have hwb : wb < w.heap.size := RowV.lt h.law.row
  have HH : Hid (LawB w wb ps ds bs rs) := h
  have HDK : Hid (PairOk w d) := hdk
  clear hsm htm h hdk
  go_enter Tryz.func22, Tryz.ntmps22
  go_wp2_with fail
  refine (lent_ok s _ _ hs).mono ?_
  rintro e w0 ⟨a, cap, rfl, hl0, hb0, hz0⟩
  simp only [World.size_alloc] at hb0 hz0 hl0
  have z0 := hb0.size
  simp only [World.size_alloc] at z0
  have q3 : w0.cell? ⟨w.heap.size, 3, none⟩ = some (.int .i64 oc) := by
    rw [hb0.cell (p := ⟨w.heap.size, 3, none⟩) (by show w.heap.size < _; omega)]; simp [go_sem, k3]
  have q5 : w0.cell? ⟨w.heap.size, 5, none⟩ = some (.string t) := by
    rw [hb0.cell (p := ⟨w.heap.size, 5, none⟩) (by show w.heap.size < _; omega)]; simp [go_sem, k5]
  go_wp2_with fail
  refine (lent_ok t _ _ ht).mono ?_
  rintro e w1 ⟨ta, tcap, rfl, hm1, hb1, hz1⟩
  have z1 := hb1.size
  have hl1 : LentAt w1 (w.heap.size + 1) s a cap := hl0.below hb1 (Nat.le_refl _)
  have HB1 : Hid (Below w.heap.size w w1) := (HA.out.trans (hb0.mono (by omega))).trans (hb1.mono (by omega))
  have hb1d : Below w1.heap.size w1 w1.drew := ⟨rfl, rfl, rfl, Nat.le_refl _, fun _ _ => rfl⟩
  have HP1 := (HDK.out.lay.below HB1.out).below hb1d
  have r0 : w1.cell? ⟨d.pb, 0, none⟩ = some (.pointer (some ⟨d.sb, 0, none⟩)) := RowV.cell HP1.row 0 (by simp)
  have hop1 : ∀ i v, cs[i]? = some v → w1.cell? ⟨w.heap.size, i, none⟩ = some v := fun i v hv => by
    rw [hb1.cell (p := ⟨w.heap.size, i, none⟩) (by show w.heap.size < _; omega), hb0.cell (p := ⟨w.heap.size, i, none⟩) (by show w.heap.size < _; omega)]
    simp [go_sem, hv]
  have HOP1 : Hid (∀ i v, cs[i]? = some v → w1.cell? ⟨w.heap.size, i, none⟩ = some v) := hop1
  have b2 := hop1 2 _ k2
  have HSD : Hid (Calls _ _ _ _ _) := sto_range d.sb d.N d.en d.tr d.mp d.es d.xs d.its d.tds d.T d.pp ob ⟨a, s.size, cap⟩ ⟨ta, t.size, tcap⟩ s.data.toList t.data.toList w1.drew HP1.sto HP1.tre HDK.out.t40 (hl1.bs.below hb1d) (hm1.bs.below hb1d) HSM.out HTM.out
  have HL1 : Hid (LentAt w1 (w.heap.size + 1) s a cap) := hl1
  have HM1 : Hid (LentAt w1 w0.heap.size t ta tcap) := hm1
  have HZ1 : Hid (w.heap.size + 1 ≤ w0.heap.size ∧ w0.heap.size ≤ w1.heap.size) := ⟨by omega, by omega⟩
  have hpb1 : d.pb < w1.heap.size := by omega
  have hne1 : d.pb ≠ w.heap.size := by omega
  have HLT0 : Hid (∀ k, a = some ⟨k, 0, none⟩ → k = w.heap.size + 1 ∧ k < w0.heap.size) := fun k hk => ⟨(hl0.lt hk).1, by have := hl0.lt hk; omega⟩
  have HLT1 : Hid (∀ k, ta = some ⟨k, 0, none⟩ → k = w0.heap.size ∧ k < w1.heap.size) := fun k hk => ⟨(hm1.lt hk).1, by have := hm1.lt hk; omega⟩
  unfold SlR.val at HSD
  clear HP1 hl1 hm1 hl0 hb0 hz0 hb1 hz1 hb1d hop1 q3 q5 z0 z1
  go_wp2
  go_region_held3 (fun W => W.cell? ⟨d.pb, 0, none⟩ = some (.pointer (some ⟨d.sb, 0, none⟩)) ∧ W.cell? ⟨w.heap.size, 2, none⟩ = some (.int .i64 ob)) (go_keep)
    ((go_at_call 48; refine HSD.out.mono ?_; rintro r w2 ⟨v2, rfl, ho2, hb2⟩; have q0 : w2.cell? ⟨d.pb, 0, none⟩ = some (.pointer (some ⟨d.sb, 0, none⟩)) := (by rw [hb2.cell (p := ⟨d.pb, 0, none⟩) (by show d.pb < w1.heap.size; omega)]; exact r0); have q2 : w2.cell? ⟨w.heap.size, 2, none⟩ = some (.int .i64 ob) := (by rw [hb2.cell (p := ⟨w.heap.size, 2, none⟩) (by show w.heap.size < w1.heap.size; have := HZ1.out; omega)]; exact b2)))
  have hb2' : Below w1.heap.size w1 w2 := ⟨hb2.os, hb2.tape, hb2.output, hb2.size, hb2.block⟩
  have hl2 : LentAt w2 (w.heap.size + 1) s a cap := HL1.out.below hb2' (Nat.le_refl _)
  have hm2 : LentAt w2 w0.heap.size t ta tcap := HM1.out.below hb2' (Nat.le_refl _)
  have HB2 : Hid (Below w.heap.size w w2) := HB1.out.trans (hb2'.mono HB1.out.size)
  have HOP2 : Hid (∀ i v, cs[i]? = some v → w2.cell? ⟨w.heap.size, i, none⟩ = some v) := fun i v hv => by
    rw [hb2'.cell (p := ⟨w.heap.size, i, none⟩) (by show w.heap.size < w1.heap.size; have := HZ1.out; omega)]; exact HOP1.out i v hv
  have c4 := HOP2.out 4 _ k4
  have HO2 : Hid (OwnB w2 w1.heap.size v2.val (rngB d.pp ob s.data.toList t.data.toList)) := ho2
  have hz2 := hb2'.size
  clear ho2 hb2
  go_wp2_with fail
  refine (back_ok s a cap (w.heap.size + 1) _ hs hl2).mono ?_
  rintro e w3 ⟨rfl, hf3, hz3⟩
  have hza := HZ1.out
  have HB3 : Hid (Below w.heap.size w w3) := HB2.out.trans (hf3.below HB2.out.size (fun k hk => by have := HLT0.out k hk; omega))
  have HO3 : Hid (OwnB w3 w1.heap.size v2.val (rngB d.pp ob s.data.toList t.data.toList)) := owns_frame HO2.out hf3 (fun k hk e => by have h1 := (HO2.out.lt k hk).1; have h2 := HLT0.out k e; omega)
  have hm3 : LentAt w3 w0.heap.size t ta tcap := hm2.frame hf3 (fun e => by have := HLT0.out _ e; omega)
  have HOP3 : Hid (∀ i v, cs[i]? = some v → w3.cell? ⟨w.heap.size, i, none⟩ = some v) := fun i v hv => by
    rw [← HOP2.out i v hv]
    exact World.cell?_of_block (hf3.block _ (by show w.heap.size < _; omega) (fun e => by have := HLT0.out _ e; simp only at this; omega))
  have c5 := HOP3.out 5 _ k5
  clear hf3 c4
  go_wp2_with fail
  refine (back_ok t ta tcap w0.heap.size _ ht hm3).mono ?_
  rintro e w4 ⟨rfl, hf4, hz4⟩
  have HB4 : Hid (Below w.heap.size w w4) := HB3.out.trans (hf4.below HB3.out.size (fun k hk => by have := HLT1.out k hk; omega))
  have HO4 : Hid (OwnB w4 w1.heap.size v2.val (rngB d.pp ob s.data.toList t.data.toList)) := owns_frame HO3.out hf4 (fun k hk e => by have h1 := (HO3.out.lt k hk).1; have h2 := HLT1.out k e; omega)
  have HOP4 : Hid (∀ i v, cs[i]? = some v → w4.cell? ⟨w.heap.size, i, none⟩ = some v) := fun i v hv => by
    rw [← HOP3.out i v hv]
    exact World.cell?_of_block (hf4.block _ (by show w.heap.size < _; omega) (fun e => by have := HLT1.out _ e; simp only at this; omega))
  have HP4 := HDK.out.lay.below HB4.out
  have d2 := HOP4.out 2 _ k2
  have d4 := HOP4.out 4 _ k4
  have d5 := HOP4.out 5 _ k5
  have r1 : w4.cell? ⟨d.pb, 1, none⟩ = some (.pointer (some ⟨d.rb, 0, none⟩)) := RowV.cell HP4.row 1 (by simp)
  have hcv := fun w => run_bytes_of_string (P := Tryz.prog) w 9 38 5 s Tryz.underlying9 Tryz.underlying38 Tryz.underlying5
  have hcu := fun w => run_bytes_of_string (P := Tryz.prog) w 9 38 5 t Tryz.underlying9 Tryz.underlying38 Tryz.underlying5
  have HREF : Hid (∀ (W : World) (a' : Option Addr) (n' cap' : Nat) (a'' : Option Addr) (n'' cap'' : Nat), Below w4.heap.size w4 W → BS W ⟨a', n', cap'⟩ s.data.toList → BS W ⟨a'', n'', cap''⟩ t.data.toList → Calls Tryz.prog 49 #[.pointer (some ⟨d.rb, 0, none⟩), .int .i64 ob, .slice a' n' cap', .slice a'' n'' cap''] W fun r w' => ∃ v' : SlR, r = .returned (.tuple #[.slice v'.a v'.n v'.cap, .int .i64 (rngE d.pp.length ob s.data.toList t.data.toList : Int)]) ∧ OwnB w' W.heap.size v'.val (rngB d.pp ob s.data.toList t.data.toList) ∧ Below W.heap.size W w') := fun W a' n' cap' a'' n'' cap'' hb hbs hbt => by
    have hr := ref_range d.rb d.now d.past d.roots d.nl d.pastL d.rl ob ⟨a', n', cap'⟩ ⟨a'', n'', cap''⟩ s.data.toList t.data.toList W (HP4.below hb).ref (by rw [HDK.out.pl]; exact HDK.out.t40) (fun q hq => HP4.pastR _ (by rw [← HDK.out.pst]; exact List.mem_map_of_mem hq)) hbs hbt HSM.out HTM.out
    rw [HDK.out.pst] at hr
    exact hr
  have hz3' : w.heap.size < w4.heap.size := by omega
  have hpb3 : d.pb < w4.heap.size := by omega
  have HZ3 : Hid (w1.heap.size ≤ w4.heap.size) := by unfold Hid; omega
  have HZB : Hid (w.heap.size ≤ w1.heap.size) := by unfold Hid; omega
  clear HP4 hf4 hl2 hm2 hm3 hb2' q0 q2 b2 r0 hz2 hz3 hz4 hza c5 hpb1
  go_wp2
  go_cut [20, 21] (fun bv fv wx => ∃ v4 : SlR, bv = .slice v4.a v4.n v4.cap ∧ fv = .int .i64 (rngE d.pp.length ob s.data.toList t.data.toList : Int) ∧ Hid (Below w4.heap.size w4 wx) ∧ Hid (OwnB wx w4.heap.size v4.val (rngB d.pp ob s.data.toList t.data.toList)))
  case first =>
    go_region_held_law (fun W => W.cell? ⟨d.pb, 1, none⟩ = some (.pointer (some ⟨d.rb, 0, none⟩)) ∧ W.cell? ⟨w.heap.size, 2, none⟩ = some (.int .i64 ob) ∧ W.cell? ⟨w.heap.size, 4, none⟩ = some (.string s) ∧ W.cell? ⟨w.heap.size, 5, none⟩ = some (.string t)) (go_keep)
      ((go_at_call 49; refine (HREF.out _ _ _ _ _ _ _ (by repeat' (first | (with_reducible exact Below.refl _ _) | (with_reducible refine Below.drew ?_) | (with_reducible refine Below.alloc ?_ ?_ _) | omega | (simp only [World.size_alloc, World.size_drew]; omega))) (by repeat' (first | (with_reducible refine bs_ofString _ _ _ _ _ _ ?_; simp) | (with_reducible refine BS.drew ?_) | (with_reducible refine bs_alloc ?_ _))) (by repeat' (first | (with_reducible refine bs_ofString _ _ _ _ _ _ ?_; simp) | (with_reducible refine BS.drew ?_) | (with_reducible refine bs_alloc ?_ _)))).mono ?_; rintro r w5 ⟨v4, rfl, ho5, hb5⟩; have HB5 : Hid (Below w4.heap.size w4 w5) := Below.trans (by repeat' (first | (with_reducible exact Below.refl _ _) | (with_reducible refine Below.drew ?_) | (with_reducible refine Below.alloc ?_ ?_ _) | omega | (simp only [World.size_alloc, World.size_drew]; omega))) (Below.mono hb5 (by simp; omega)); have HO5 : Hid (OwnB w5 w4.heap.size v4.val (rngB d.pp ob s.data.toList t.data.toList)) := owns_base ho5 (fun k hk => (by have h1 := (ho5.lt k hk).1; simp at h1; omega)); clear ho5 hb5; have e1 : w5.cell? ⟨d.pb, 1, none⟩ = some (.pointer (some ⟨d.rb, 0, none⟩)) := (by rw [HB5.out.cell (p := ⟨d.pb, 1, none⟩) (by show d.pb < w4.heap.size; omega)]; exact r1); have e2 : w5.cell? ⟨w.heap.size, 2, none⟩ = some (.int .i64 ob) := (by rw [HB5.out.cell (p := ⟨w.heap.size, 2, none⟩) (by show w.heap.size < w4.heap.size; omega)]; exact d2); have e4 : w5.cell? ⟨w.heap.size, 4, none⟩ = some (.string s) := (by rw [HB5.out.cell (p := ⟨w.heap.size, 4, none⟩) (by show w.heap.size < w4.heap.size; omega)]; exact d4); have e5 : w5.cell? ⟨w.heap.size, 5, none⟩ = some (.string t) := (by rw [HB5.out.cell (p := ⟨w.heap.size, 5, none⟩) (by show w.heap.size < w4.heap.size; omega)]; exact d5)))
    all_goals
      go_wp2
      go_meet
      exact ⟨v4, rfl, rfl, HB5, HO5⟩
  case rest =>
    obtain ⟨v4, rfl, rfl, HB5, HO5⟩ := hcut
    have hb4 := HB5.out
    have ho2c : OwnB wc w1.heap.size (.slice v2.a v2.n v2.cap) (rngB d.pp ob s.data.toList t.data.toList) := owns_below HO4.out hb4
    have ho4c : OwnB wc w4.heap.size (.slice v4.a v4.n v4.cap) (rngB d.pp ob s.data.toList t.data.toList) := HO5.out
    obtain ⟨hs2, hn2, hnil2⟩ := OwnB.sl ho2c
    obtain ⟨hs4, hn4, hnil4⟩ := OwnB.sl ho4c
    have hc2 := run_string_SlB (P := Tryz.prog) wc 38 9 5 v2.a v2.n v2.cap _ Tryz.underlying38 Tryz.underlying5 Tryz.underlying9 hn2 hs2 hnil2
    have hc4 := run_string_SlB (P := Tryz.prog) wc 38 9 5 v4.a v4.n v4.cap _ Tryz.underlying38 Tryz.underlying5 Tryz.underlying9 hn4 hs4 hnil4
    have HBC : Hid (Below w.heap.size w wc) := HB4.out.trans (hb4.mono HB4.out.size)
    have hHc := HH.out.below HBC.out
    have HV2 : Hid (∀ k, v2.val.ownBlock = some k → w.heap.size ≤ k) := fun k hk => by have := (ho2c.lt k hk).1; have := HZB.out; omega
    have hlen := rngB_small (HDK.out.lay.pastR) ob s.data.toList t.data.toList
    have HBB : Hid (Calls _ _ _ _ _) := book_byte wb ps bs ⟨none, 0, 0⟩ ⟨none, 0, 0⟩ v2 rs (rngB d.pp ob s.data.toList t.data.toList) w1.heap.size wc hHc.law.row hHc.bk ho2c hlen hn (Nat.le_trans HZ3.out hb4.size)
      (fun k hk => ⟨by have := HV2.out k hk; omega, fun e => by have := HV2.out k hk; have := HH.out.bk.lt k e; omega⟩) (fun k hk => by have := (HH.out.low k hk).1; omega)
    generalize rngB d.pp ob s.data.toList t.data.toList = pv at *
    generalize rngE d.pp.length ob s.data.toList t.data.toList = pe at *
    clear hs2 hn2 hnil2 hs4 hn4 hnil4 ho2c ho4c hHc hlen hb4 HO3 HO4 HO2 HO5 HREF hcv hcu
    unfold SlR.val at HBB
    go_wp2_with (go_at_call 18; refine HBB.out.mono ?_; rintro e w6 ⟨rfl, bs', r, hr5, hk5, hf5, hn5⟩)
    go_ret
    refine ⟨rfl, bs', r, LawB.more (v := v2) HH.out HBC.out HV2.out hr5 hk5 hf5 hn5, ?_⟩
    exact Frame.inside (Frame.of_below_all HBC.out) hf5 (fun k hlt hk => by
      rcases hk with e | e | e
      · exact Or.inl e
      · have := HV2.out k e; omega
      · exact Or.inr e)
end Go.Proofs.YtekegfbjbainhaaGreat

/- A step of Prove or ProveRange: which store it is of; the steps of a store's, with the book beside them. -/
namespace Go.Proofs.YtekegfbjbainhaaGreat
set_option linter.unusedVariables false
set_option linter.unusedSimpArgs false
open Go.RowKit

set_option maxRecDepth 100000 in
set_option maxHeartbeats 1000000 in
theorem step_noneP {B : BkV} (cs : List Value) (kk : Int) (wb : Nat) (ps : SlR) (w : World) (h : LawAt B w wb ps []) (k0 : cs[0]? = some (.int .i64 kk)) (hk : kk = 6 ∨ kk = 7) :
    Calls Tryz.prog 12 #[.pointer (some ⟨wb, 0, none⟩), .agg cs.toArray] w fun e w' => e = .returned (.bool true) ∧ Below w.heap.size w w' := by
  have hwb : wb < w.heap.size := RowV.lt h.row
  have hpn : ps.n = 0 := (owns_cap (a := ps.a) (n' := ps.n) (cap := ps.cap) h.own).1
  have r0 : w.cell? ⟨wb, 0, none⟩ = some (.slice ps.a 0 ps.cap) := by
    have : w.cell? ⟨wb, 0, none⟩ = some (.slice ps.a ps.n ps.cap) := RowV.cell h.row 0 (by simp)
    rw [hpn] at this; exact this
  clear hpn h
  have HB : Hid (Below w.heap.size w (w.alloc (.cells cs.toArray 43))) := (Below.refl _ _).alloc (Nat.le_refl _) _
  rcases hk with rfl | rfl
  all_goals
    go_enter Tryz.func12, Tryz.ntmps12
    go_wp2
    go_ret
    exact ⟨rfl, HB.out⟩

/-- What the steps that give a proof promise. -/
def ProvedOk (cs : List Value) : Prop := ∀ (wb : Nat) (ps bs : SlR) (ds : List PairD) (rs : List BkR) (d : PairD) (W : World), LawB W wb ps ds bs rs → d ∈ ds → rs.length ≤ 1200000000000 →
  Calls Tryz.prog 22 #[.pointer (some ⟨wb, 0, none⟩), .agg cs.toArray, .pointer (some ⟨d.pb, 0, none⟩)] W fun e w' => e = .returned (.bool true) ∧ ∃ bs' r, LawB w' wb ps ds bs' (rs ++ [r]) ∧ Frame (fun k => k = wb ∨ bs.val.ownBlock = some k) W w'

set_option maxRecDepth 100000 in
set_option maxHeartbeats 1000000 in
theorem step_proof (cs : List Value) (kk oa : Int) (wb : Nat) (ps bs : SlR) (ds : List PairD) (rs : List BkR) (w : World) (hh : LawB w wb ps ds bs rs) (hlen : cs.length = 24) (k0 : cs[0]? = some (.int .i64 kk)) (hk : kk = 6 ∨ kk = 7) (k1 : cs[1]? = some (.int .i64 oa)) (ha1 : -9223372036854775808 ≤ oa) (ha2 : oa ≤ 9223372036854775807) (hn : 1 ≤ ds.length) (hr : rs.length ≤ 1200000000000)
    (hst : ProvedOk cs) :
    Calls Tryz.prog 12 #[.pointer (some ⟨wb, 0, none⟩), .agg cs.toArray] w fun e w' => e = .returned (.bool true) ∧ ∃ bs' r, LawB w' wb ps ds bs' (rs ++ [r]) ∧ Frame (fun k => k = wb ∨ bs.val.ownBlock = some k) w w' := by
  have h := hh.law
  obtain ⟨d, hd1, hd2⟩ := Tryz.rowOp
  have hsz : Hid ((Tryz.prog.info? 43).map (·.size) = some cs.length) := by rw [hlen]; exact Tryz.sizeOp
  have HD : Hid (Tryz.prog.underlying 43 = some d) := hd1
  have HD2 : Hid (d.isRow = true) := hd2
  have HL : Hid (cs.length = 24) := hlen
  have HR : Hid (rs.length ≤ 1200000000000) := hr
  have HB : Hid (Below w.heap.size w (w.alloc (.cells cs.toArray 43))) := (Below.refl _ _).alloc (Nat.le_refl _) _
  have hwb : wb < w.heap.size := RowV.lt h.row
  have r0 : w.cell? ⟨wb, 0, none⟩ = some (.slice ps.a ps.n ps.cap) := RowV.cell h.row 0 (by simp)
  obtain ⟨hpn, hpc, hpm, hpa⟩ := owns_cap (a := ps.a) (n' := ps.n) (cap := ps.cap) h.own
  obtain ⟨g, hg, hglt⟩ : ∃ g, ps.a = some ⟨g, 0, none⟩ ∧ g < w.heap.size := by
    rcases hpa with ⟨_, h0, _⟩ | ⟨g, hg, _, hlt⟩
    · omega
    · exact ⟨g, hg, hlt⟩
  rw [hg] at r0
  have hpm' : ps.n ≤ maxLen := by omega
  obtain ⟨dd, hdd, hcd⟩ : ∃ d, ds[pickN oa ps.n]? = some d ∧ w.cell? ⟨g, pickN oa ps.n, none⟩ = some (.pointer (some ⟨d.pb, 0, none⟩)) := by
    have hi' : pickN oa ps.n < ds.length := by have := pickN_lt oa ps.n (by omega); omega
    refine ⟨ds[pickN oa ps.n], List.getElem?_eq_getElem hi', ?_⟩
    have hsl : SlV w ps.a (ds.map (fun d => ptrV d.pb)) := (SlV.ofOwn h.own).1
    obtain ⟨b, o, e, _, hc⟩ := hsl (pickN oa ps.n) (by simpa using hi')
    rw [hg] at e; cases e
    rw [Nat.zero_add] at hc
    rw [hc]; simp [ptrV]
  have HDD : Hid (dd ∈ ds) := List.mem_of_getElem? hdd
  have hiI : (pickN oa ps.n : Int) < ps.n := by have := pickN_lt oa ps.n (by omega); omega
  have HPK : Hid (∀ W, Calls Tryz.prog 20 #[.int .i64 oa, .int .i64 (ps.n : Int)] W fun e w' => e = .returned (.int .i64 (pickN oa ps.n : Int)) ∧ w' = W) := fun W => pick_any oa ps.n W ha1 ha2 (by omega) hpm'
  generalize pickN oa ps.n = i at *
  have hn1 : 1 ≤ ps.n := by omega
  have hpmI : (ps.n : Int) ≤ 9223372036854775807 := by unfold maxLen at hpm; omega
  have hn0 : ((ps.n : Int) == 0) = false := by simp; omega
  have HH : Hid (LawB w wb ps ds bs rs) := hh
  have HST : Hid (ProvedOk cs) := hst
  clear hd1 hd2 hlen hpn hpc hpm hpa hst hn hdd hpm' hh h hr
  rcases hk with rfl | rfl
  all_goals
    go_enter Tryz.func12, Tryz.ntmps12
    go_wp2
    go_quiet (first | (go_at_call 20; exact Calls.quiet_of_same (HPK.out _)))
    have HBq : Hid (Below w.heap.size w ((w.alloc (.cells cs.toArray 43)).drewN nq)) := by
      have hb := HB.out
      exact ⟨hb.os, hb.tape, hb.output, hb.size, hb.block⟩
    go_wp2_with (refine wpList_load_mid (by rfl) 43 (.tmp 3) (by rfl) w.heap.size 0 (by rfl) cs d (by exact rangeAt_new w cs 43) HD.out HD2.out hsz.out ?_)
    refine (HST.out wb ps bs ds rs dd _ (HH.out.below HBq.out) HDD.out HR.out).mono ?_
    rintro e w1 ⟨rfl, bs', r, hs1, hf1⟩
    have HS1 : Hid (LawB w1 wb ps ds bs' (rs ++ [r])) := hs1
    clear hs1
    go_wp2
    go_ret
    exact ⟨rfl, bs', r, HS1.out, Frame.into (Frame.of_below_all HBq.out) hf1 (fun k _ e => e)⟩

/-- A store more, with the book beside it. -/
theorem LawB.new {w w' : World} {wb : Nat} {ps ps' bs : SlR} {ds : List PairD} {rs : List BkR} {d : PairD} (h : LawB w wb ps ds bs rs) (h' : LawAt (bs.val, .slice none 0 0, .slice none 0 0) w' wb ps' (ds ++ [d])) (hd : ∀ k, d.F k → w.heap.size ≤ k) (hp : ∀ k, ps'.val.ownBlock = some k → ps.val.ownBlock = some k ∨ w.heap.size ≤ k)
    (hf : Frame (fun k => k = wb ∨ ps.val.ownBlock = some k) w w') : LawB w' wb ps' (ds ++ [d]) bs rs := by
  refine ⟨h', h.bk.frame hf (fun k hk e => ?_), fun k hk => ?_⟩
  · have hl := h.low k hk
    rcases e with e | e
    · omega
    · exact hl.2.1 e
  · have hl := h.low k hk
    have hlt := h.bk.lt k hk
    refine ⟨hl.1, fun e => ?_, fun x hx hF => ?_⟩
    · rcases hp k e with e | e
      · exact hl.2.1 e
      · omega
    · rcases List.mem_append.1 hx with hx | hx
      · exact hl.2.2 x hx hF
      · simp only [List.mem_singleton] at hx
        subst hx
        have := hd k hF
        omega
/-- A step of one of the stores, with the book beside it. -/
theorem LawB.step {w w' : World} {wb : Nat} {ps bs : SlR} {ds : List PairD} {rs : List BkR} (h : LawB w wb ps ds bs rs) {i : Nat} {d : PairD} (hi : ds[i]? = some d) (hs : Stepped d w w') : ∃ ds', LawB w' wb ps ds' bs rs ∧ ds'.length = ds.length := by
  obtain ⟨ds', h1, h2, h3⟩ := h.law.step hi hs
  obtain ⟨_, _, _, hf, _⟩ := hs
  have hd : d ∈ ds := List.mem_of_getElem? hi
  refine ⟨ds', ⟨h1, h.bk.frame hf (fun k hk e => (h.low k hk).2.2 d hd e), fun k hk => ?_⟩, h2⟩
  have hl := h.low k hk
  have hlt := h.bk.lt k hk
  refine ⟨hl.1, hl.2.1, fun x hx hF => ?_⟩
  rcases h3 x hx k hF with ⟨y, hy, hF'⟩ | hge
  · exact hl.2.2 y hy hF'
  · omega

/-- What stands behind at most q steps, of a script in which there are proofs. -/
def provInv (w : World) (q : Nat) (wr : World) : Prop := Below w.heap.size w wr ∧ ∃ ps ds bs rs, LawB wr w.heap.size ps ds bs rs ∧ ds.length ≤ q ∧ rs.length ≤ q ∧ rs.length ≤ 1200000000000
theorem provInv.mono {w wr : World} {q : Nat} (h : provInv w q wr) : provInv w (q + 1) wr := by
  obtain ⟨h1, ps, ds, bs, rs, h2, h3, h4, h5⟩ := h
  exact ⟨h1, ps, ds, bs, rs, h2, by omega, by omega, h5⟩
theorem provInv.drew {w wr : World} {q : Nat} (m : Nat) (h : provInv w q wr) : provInv w q (wr.drewN m) := by
  obtain ⟨h1, ps, ds, bs, rs, h2, h3⟩ := h
  have hb := Below.refl wr.heap.size wr
  exact ⟨⟨h1.os, h1.tape, h1.output, h1.size, h1.block⟩, ps, ds, bs, rs, h2.below ⟨hb.os, hb.tape, hb.output, hb.size, hb.block⟩, h3⟩
theorem provInv_start (w : World) : provInv w 0 (w.alloc (.cells #[.slice none 0 0, .slice none 0 0, .slice none 0 0, .slice none 0 0] 34)) := by
  obtain ⟨h1, ps, ds, h2, h3⟩ := lawInv_start w
  refine ⟨h1, ps, ds, ⟨none, 0, 0⟩, [], ⟨h2, ?_, fun k hk => ?_⟩, h3, Nat.le_refl _, by simp⟩
  · exact BkAt.nil _
  · rcases hk with hk | ⟨r, hr, hk⟩
    · cases hk
    · cases hr
end Go.Proofs.YtekegfbjbainhaaGreat

/- The script of New, Put, Delete, Commit, Prove and ProveRange, whole. -/
namespace Go.Proofs.YtekegfbjbainhaaGreat
set_option linter.unusedVariables false
set_option linter.unusedSimpArgs false
open Go.RowKit

theorem provInv_new (w wr : World) (q : Nat) (cs : List Value) (hI : provInv w q wr) (hlen : cs.length = 24) (k0 : cs[0]? = some (.int .i64 2)) (hq : q + 1 ≤ 17592186044416) :
    Calls Tryz.prog 12 #[.pointer (some ⟨w.heap.size, 0, none⟩), .agg cs.toArray] wr fun e w' => e = .returned (.bool true) ∧ provInv w (q + 1) w' := by
  obtain ⟨h1, ps, ds, bs, rs, h2, h3, h4, h5⟩ := hI
  refine (step_store cs w.heap.size ps ds wr h2.law hlen k0 (by omega)).mono ?_
  rintro e w' ⟨rfl, ⟨ps', d, g1, g2, g3⟩, hf⟩
  refine ⟨rfl, h1.trans (hf.below h1.size (fun k hk => ?_)), ps', _, bs, rs, h2.new g1 g2 g3 hf, by simp; omega, by omega, h5⟩
  rcases hk with rfl | hk
  · exact Nat.le_refl _
  · exact Nat.le_of_lt (h2.law.psb k hk)
theorem provInv_old (w wr : World) (q : Nat) (cs : List Value) (kk oa : Int) (hI : provInv w q wr) (hlen : cs.length = 24) (k0 : cs[0]? = some (.int .i64 kk)) (hk : kk = 3 ∨ kk = 4 ∨ kk = 5) (k1 : cs[1]? = some (.int .i64 oa)) (ha1 : -9223372036854775808 ≤ oa) (ha2 : oa ≤ 9223372036854775807) (hst : StoredOk cs) :
    Calls Tryz.prog 12 #[.pointer (some ⟨w.heap.size, 0, none⟩), .agg cs.toArray] wr fun e w' => e = .returned (.bool true) ∧ provInv w (q + 1) w' := by
  obtain ⟨h1, ps, ds, bs, rs, h2, h3, h4, h5⟩ := hI
  by_cases hn : ds.length = 0
  · have hnil : ds = [] := List.length_eq_zero_iff.1 hn
    subst hnil
    refine (step_none cs kk w.heap.size ps wr h2.law k0 hk).mono ?_
    rintro e w' ⟨rfl, hb⟩
    exact ⟨rfl, h1.trans (hb.mono h1.size), ps, [], bs, rs, h2.below hb, by omega, by omega, h5⟩
  · refine (step_pair cs kk oa w.heap.size ps ds wr h2.law hlen k0 hk k1 ha1 ha2 (by omega) (fun W d => hst _ W d)).mono ?_
    rintro e w' ⟨rfl, W, d, hd, hb, hs, i, hi⟩
    obtain ⟨ds', g1, g2⟩ := (h2.below hb).step hi hs
    obtain ⟨_, _, _, hf, _⟩ := hs
    refine ⟨rfl, (h1.trans (hb.mono h1.size)).trans (hf.below (Nat.le_trans h1.size hb.size) (fun k hk => Nat.le_of_lt (h2.law.low d hd k hk).1)), ps, ds', bs, rs, g1, by omega, by omega, h5⟩
theorem provInv_proof (w wr : World) (q : Nat) (cs : List Value) (kk oa : Int) (hI : provInv w q wr) (hq : q ≤ 1172812402926) (hlen : cs.length = 24) (k0 : cs[0]? = some (.int .i64 kk)) (hk : kk = 6 ∨ kk = 7) (k1 : cs[1]? = some (.int .i64 oa)) (ha1 : -9223372036854775808 ≤ oa) (ha2 : oa ≤ 9223372036854775807) (hst : ProvedOk cs) :
    Calls Tryz.prog 12 #[.pointer (some ⟨w.heap.size, 0, none⟩), .agg cs.toArray] wr fun e w' => e = .returned (.bool true) ∧ provInv w (q + 1) w' := by
  obtain ⟨h1, ps, ds, bs, rs, h2, h3, h4, h5⟩ := hI
  by_cases hn : ds.length = 0
  · have hnil : ds = [] := List.length_eq_zero_iff.1 hn
    subst hnil
    refine (step_noneP cs kk w.heap.size ps wr h2.law k0 hk).mono ?_
    rintro e w' ⟨rfl, hb⟩
    exact ⟨rfl, h1.trans (hb.mono h1.size), ps, [], bs, rs, h2.below hb, by omega, by omega, h5⟩
  · refine (step_proof cs kk oa w.heap.size ps bs ds rs wr h2 hlen k0 hk k1 ha1 ha2 (by omega) h5 hst).mono ?_
    rintro e w' ⟨rfl, bs', r, g1, hf⟩
    refine ⟨rfl, h1.trans (hf.below h1.size (fun k hk => ?_)), ps, ds, bs', _, g1, by omega, by simp; omega, by simp; omega⟩
    rcases hk with rfl | hk
    · exact Nat.le_refl _
    · exact Nat.le_of_lt (h2.low k (Or.inl hk)).1

set_option maxRecDepth 100000 in
set_option maxHeartbeats 800000 in
theorem proved_law (a : Option Addr) (n cap : Nat) (f : Nat → OpR) (w : World) (hn : n ≤ 1172812402926) (hs : ScriptAt w a n f) (ho : ∀ i, i < n → -9223372036854775808 ≤ (f i).a ∧ (f i).a ≤ 9223372036854775807)
    (hst : ∀ o : OpR, (o.kind = 3 ∨ o.kind = 4 ∨ o.kind = 5) → o.s.size ≤ 140737488351232 → o.t.size ≤ 140737488351232 → StoredOk o.cells)
    (hpr : ∀ o : OpR, (o.kind = 6 ∨ o.kind = 7) → o.s.size ≤ 140737488351232 → o.t.size ≤ 140737488351232 → ProvedOk o.cells) :
    Calls Tryz.prog 5 #[.slice a n cap] w fun e w' => e = .returned (.bool true) ∧ Below w.heap.size w w' := by
  have HN : Hid (n ≤ 1172812402926) := hn
  clear hn
  go_enter Tryz.func5, Tryz.ntmps5
  go_wp2_with fail
  have hs' : ScriptAt (w.alloc (Obj.cells #[Value.int IntKind.i64 2, Value.int IntKind.i64 3, Value.int IntKind.i64 4, Value.int IntKind.i64 5, Value.int IntKind.i64 6, Value.int IntKind.i64 7] 3)) a n f := fun i hi => by
    obtain ⟨b, o, ha, hb, hr, h1, h2, h3⟩ := hs i hi
    exact ⟨b, o, ha, by simp; omega, fun j v hv => by rw [World.cell?_alloc_lt _ _ _ (by exact hb)]; exact hr j v hv, h1, h2, h3⟩
  refine (plays_n a n cap w.heap.size 2 [3, 4, 5, 6, 7] f (w.alloc (Obj.cells #[Value.int IntKind.i64 2, Value.int IntKind.i64 3, Value.int IntKind.i64 4, Value.int IntKind.i64 5, Value.int IntKind.i64 6, Value.int IntKind.i64 7] 3)) (provInv (w.alloc (Obj.cells #[Value.int IntKind.i64 2, Value.int IntKind.i64 3, Value.int IntKind.i64 4, Value.int IntKind.i64 5, Value.int IntKind.i64 6, Value.int IntKind.i64 7] 3)))
    (fun o => -9223372036854775808 ≤ o.a ∧ o.a ≤ 9223372036854775807) (by have := HN.out; unfold maxLen; omega) hs' ho (by simp) (by simp [maxLen])
    (fun j hj => by
      have hj4 : j < 6 := by simpa using hj
      match j, hj4 with
      | 0, _ => simp [go_sem]
      | 1, _ => simp [go_sem]
      | 2, _ => simp [go_sem]
      | 3, _ => simp [go_sem]
      | 4, _ => simp [go_sem]
      | 5, _ => simp [go_sem]) (provInv_start _) (fun q wr h => h.1) (fun q wr m h => h.drew m) (fun q wr h => h.mono) ?_ ?_ ?_).mono ?_
  · intro wr hI
    exact provInv_new _ wr 0 _ hI rfl rfl (by omega)
  · intro q wr o hq hI hoo hk h1 h2 _
    have hk' : o.kind = 2 ∨ o.kind = 3 ∨ o.kind = 4 ∨ o.kind = 5 ∨ o.kind = 6 ∨ o.kind = 7 := by simpa using hk
    rcases hk' with hk' | hk' | hk' | hk' | hk'
    · exact provInv_new _ wr q o.cells hI rfl (by rw [← hk']; rfl) (by have := HN.out; omega)
    · exact provInv_old _ wr q o.cells o.kind o.a hI rfl rfl (Or.inl hk') rfl hoo.1 hoo.2 (hst o (Or.inl hk') h1 h2)
    · exact provInv_old _ wr q o.cells o.kind o.a hI rfl rfl (Or.inr (Or.inl hk')) rfl hoo.1 hoo.2 (hst o (Or.inr (Or.inl hk')) h1 h2)
    · exact provInv_old _ wr q o.cells o.kind o.a hI rfl rfl (Or.inr (Or.inr hk')) rfl hoo.1 hoo.2 (hst o (Or.inr (Or.inr hk')) h1 h2)
    · exact provInv_proof _ wr q o.cells o.kind o.a hI (by have := HN.out; omega) rfl rfl hk' rfl hoo.1 hoo.2 (hpr o hk' h1 h2)
  · intro q wr hI
    obtain ⟨h1, ps, ds, bs, rs, h2, h3, h4, h5⟩ := hI
    refine (looks_bytes _ ps bs rs wr h2.law.row h2.bk h5).mono ?_
    rintro e w1 ⟨rfl, hb⟩
    exact ⟨rfl, h1.trans (hb.mono h1.size), ps, ds, bs, rs, h2.below hb, h3, h4, h5⟩
  · rintro e w1 ⟨rfl, q, hI⟩
    go_wp2
    go_ret
    exact ⟨rfl, ((Below.refl _ _).alloc (Nat.le_refl _) _).trans (hI.1.mono (by simp))⟩

theorem proved_kinds (o : OpR) (hk : o.kind = 6 ∨ o.kind = 7) (h1 : o.s.size ≤ 140737488351232) (h2 : o.t.size ≤ 140737488351232) : ProvedOk o.cells := by
  intro wb ps bs ds rs d W h hd hn
  rcases hk with hk | hk
  · exact proved_key o.cells o.b o.c o.s wb ps bs ds rs d W h hd (by rw [← hk]; rfl) rfl rfl rfl h1 hn
  · exact proved_range o.cells o.b o.c o.s o.t wb ps bs ds rs d W h hd (by rw [← hk]; rfl) rfl rfl rfl rfl h1 h2 hn
end Go.Proofs.YtekegfbjbainhaaGreat
