/- A step of Commit, walked. -/
import Derived.Test.YtekegfbjbainhaaGreatKPush
namespace Go.Proofs.YtekegfbjbainhaaGreat
set_option linter.unusedVariables false
set_option linter.unusedSimpArgs false
open Go.RowKit

/-- What stands when the commits are held side by side. -/
structure ComEnd (d : PairD) (w W : World) (b b' : Nat) (C : List Value) : Prop where
  st : Stepped d w W
  one : RowV W b 103 C
  two : RowV W b' 103 C

set_option maxRecDepth 100000 in
set_option maxHeartbeats 4000000 in
theorem stored_com_ok (d : PairD) (cs : List Value) (p : Value) (w : World) (h : PairOk w d) (k0 : cs[0]? = some (.int .i64 5)) (h40 : d.tds.length < 40) :
    Calls Tryz.prog 21 #[p, .agg cs.toArray, .pointer (some ⟨d.pb, 0, none⟩)] w fun e w' => e = .returned (.bool true) ∧ Stepped d w w' := by
  have HA : Hid (Below w.heap.size w (w.alloc (.cells cs.toArray 43))) := (Below.refl _ _).alloc (Nat.le_refl _) _
  have hpb : d.pb < w.heap.size := RowV.lt h.lay.row
  have r0 : w.cell? ⟨d.pb, 0, none⟩ = some (.pointer (some ⟨d.sb, 0, none⟩)) := RowV.cell h.lay.row 0 (by simp)
  have HP0 := h.lay.below HA.out
  have HCM : Hid (Calls _ _ _ _ _) := commit_ok d.sb d.N d.en d.tr d.mp d.es d.xs d.its d.tds _ HP0.sto h40 (by have := h.cnt; omega)
  have HRC : Hid (∀ (W : World) (d1 : PairD), PairAt W d1 → d1.rb = d.rb → d1.now = d.now → d1.past = d.past → d1.roots = d.roots → d1.nl = d.nl → d1.pastL = d.pastL → d1.rl = d.rl → Calls Tryz.prog 45 #[.pointer (some ⟨d.rb, 0, none⟩)] W fun e w' => e = .returned (.tuple #[.agg (commitC d.tds.length (rootB d.its) (d.tds.length + 1) (sumF 42 (d.tds.map rootOf ++ [rootB d.its]))).toArray, .int .i64 0]) ∧
      ∃ d2 : PairD, d2 = { d1 with now := d2.now, past := d2.past, roots := d2.roots, nl := d.its, pastL := d.pastL ++ [(d.now, d.its)], rl := d.tds.map rootOf ++ [rootB d.its] } ∧ PairAt w' d2 ∧ Frame d1.F W w' ∧ (∀ k, d2.F k → k < W.heap.size → d1.F k)) := by
    intro W d1 hp e1 e2 e3 e4 e5 e6 e7
    have hr := hp.ref
    rw [e1, e2, e3, e4, e5, e6, e7, h.nl, h.rl] at hr
    refine (refCommit_ok d.rb 0 d.now d.past d.roots d.its d.pastL (d.tds.map rootOf) W hr (by simpa using h40) (by rw [h.pl]; exact h40) h.lay.sto.len h.lay.sto.ok (Nat.zero_le _)).mono ?_
    rintro e w' ⟨rfl, past', roots', q1, q2, q3, q4⟩
    have q1' : RefAt w' d1.rb 0 d.now past' roots' d.its (d.pastL ++ [(d.now, d.its)]) (d.tds.map rootOf ++ [rootB d.its]) := by rw [e1]; exact q1
    obtain ⟨g1, g2⟩ := hp.setRef q1' q2 (fun k hk => by
      unfold PairD.rF refF
      rw [e1, e3, e4]
      rcases hk with hk | hk | hk
      · exact Or.inl hk
      · exact Or.inr (Or.inr (Or.inl hk))
      · exact Or.inr (Or.inr (Or.inr (Or.inl hk)))) (fun k hk hlt => by
      unfold PairD.rF refF
      rw [e2, e3, e4, e6]
      rcases hk with hk | hk | hk | hk | ⟨q, hq, hk⟩
      · exact Or.inl hk
      · exact Or.inr (Or.inl hk)
      · exact Or.inr (Or.inr (Or.inl (q3 k hk hlt)))
      · exact Or.inr (Or.inr (Or.inr (Or.inl (q4 k hk hlt))))
      · rcases List.mem_append.1 hq with hq | hq
        · exact Or.inr (Or.inr (Or.inr (Or.inr ⟨q, hq, hk⟩)))
        · simp only [List.mem_singleton] at hq
          subst hq; exact Or.inr (Or.inl hk))
    refine ⟨by simp, _, ?_, g1, ?_, g2⟩
    · rfl
    · exact q2.mono (fun k _ hk => Or.inr (Or.inr (by
        unfold PairD.rF refF
        rw [e1, e3, e4]
        rcases hk with hk | hk | hk
        · exact Or.inl hk
        · exact Or.inr (Or.inr (Or.inl hk))
        · exact Or.inr (Or.inr (Or.inr (Or.inl hk))))))
  obtain ⟨s0, s1, s2, s3, s4, s5, s6, s7, hss⟩ := list8 (sumF 42 (d.tds.map rootOf ++ [rootB d.its])) (sumF_length 41 _)
  obtain ⟨x0, x1, x2, x3, x4, x5, x6, x7, hxx⟩ := list8 (rootB d.its) rfl
  obtain ⟨ci, cj, HC⟩ : ∃ ci cj : Int, Hid (commitC d.tds.length (rootB d.its) (d.tds.length + 1) (sumF 42 (d.tds.map rootOf ++ [rootB d.its])) = comG ci cj x0 x1 x2 x3 x4 x5 x6 x7 s0 s1 s2 s3 s4 s5 s6 s7) := ⟨d.tds.length, (d.tds.length + 1 : Nat), by unfold Hid; rw [hss, hxx]; rfl⟩
  clear hss hxx
  rw [HC.out] at HCM HRC
  have hdF : ∀ k, d.F k → k < w.heap.size := h.lay.lt
  go_enter Tryz.func21, Tryz.ntmps21
  go_wp2_with fail
  refine HCM.out.mono ?_
  rintro e w1 ⟨tr', mp', es', nd, N', rfl, hs1, hr1, hN1, hf1, hn1, hmu1, L, ℓ, hL1, hL2, hL3, hL4⟩
  obtain ⟨HP1, hF1⟩ := HP0.setSto hs1 hf1 (fun k e => Or.inl e) hn1 ((HP0.tre.next hf1 (fun k e => e) hmu1).push hL4.good hL1 hL2 hL3 ⟨HP0.sto.rise, HP0.sto.ok, HP0.sto.norm, HP0.sto.len⟩) (fun k hk hlt => by
    obtain ⟨M, hM, nds, hn, x, hx, hk⟩ := hk
    rcases List.mem_append.1 hM with hM | hM
    · exact Or.inr ⟨M, hM, nds, hn, x, hx, hk⟩
    · simp only [List.mem_singleton] at hM
      subst hM
      rcases hL4.foot nds hn x hx k hk hlt with g | ⟨y, hy, z, hz, e⟩
      · exact Or.inl (Or.inr (Or.inr (Or.inl g)))
      · exact Or.inl (Or.inr (Or.inl (Or.inr ⟨y, hy, Or.inl ⟨z, hz, e⟩⟩))))
  obtain ⟨d1, hd1⟩ : ∃ x, x = ({ d with N := N', tr := tr', mp := mp', es := es', tds := d.tds ++ [nd], T := d.T ++ [L], pp := d.pp ++ [d.its] } : PairD) := ⟨_, rfl⟩
  rw [← hd1] at HP1 hF1
  have z1 := hf1.size
  simp only [World.size_alloc] at z1 hF1
  have HD1 : Hid (d1 = ({ d with N := N', tr := tr', mp := mp', es := es', tds := d.tds ++ [nd], T := d.T ++ [L], pp := d.pp ++ [d.its] } : PairD)) := hd1
  have HFR1 : Hid (Frame d.F w w1) := (Frame.of_below_all (S := d.F) HA.out).into hf1 (fun k _ hk => Or.inr (Or.inl (Or.inl (Or.inl hk))))
  clear hL1 hL2 hL3 hL4 hmu1
  have HZ1 : Hid (RowV (w1.alloc (.cells #[.int .i64 0, .int .u8 0, .int .u8 0, .int .u8 0, .int .u8 0, .int .u8 0, .int .u8 0, .int .u8 0, .int .u8 0, .int .i64 0, .int .u8 0, .int .u8 0, .int .u8 0, .int .u8 0, .int .u8 0, .int .u8 0, .int .u8 0, .int .u8 0] 103)) w1.heap.size 103 zero18) := RowV.new w1 _ _
  have HP2f : Hid (∀ w2, Frame (fun k => k = w1.heap.size) (w1.alloc (.cells #[.int .i64 0, .int .u8 0, .int .u8 0, .int .u8 0, .int .u8 0, .int .u8 0, .int .u8 0, .int .u8 0, .int .u8 0, .int .i64 0, .int .u8 0, .int .u8 0, .int .u8 0, .int .u8 0, .int .u8 0, .int .u8 0, .int .u8 0, .int .u8 0] 103)) w2 → PairAt w2 d1) := fun w2 hf =>
    (HP1.below ((Below.refl _ _).alloc (Nat.le_refl _) _)).frame hf (fun k hk e => by have := HP1.lt k hk; omega)
  have HR1 : Hid (∀ W, PairAt W d1 → W.cell? ⟨d.pb, 1, none⟩ = some (.pointer (some ⟨d.rb, 0, none⟩))) := fun W hp => by
    have := RowV.cellK hp.row 1 _ rfl
    rw [hd1] at this; exact this
  clear hs1 hf1 hn1 HP0 hd1 r0 HCM
  go_wp2_with (refine wp_storeR (by rfl) 103 (.tmp 17) (.tmp 113) (by rfl) w1.heap.size (by rfl) (comG ci cj x0 x1 x2 x3 x4 x5 x6 x7 s0 s1 s2 s3 s4 s5 s6 s7) (by rfl) HZ1.out rfl Tryz.sizeCommit comG_one ?_; intro w2 hr2 hf2 hz2; have hp2 := HP2f.out _ hf2; have r1 : w2.cell? ⟨d.pb, 1, none⟩ = some (.pointer (some ⟨d.rb, 0, none⟩)) := HR1.out _ hp2)
  have hd1 := HD1.out
  refine (HRC.out w2 d1 hp2 (by rw [hd1]) (by rw [hd1]) (by rw [hd1]) (by rw [hd1]) (by rw [hd1]) (by rw [hd1]) (by rw [hd1])).mono ?_
  rintro e w3 ⟨rfl, d2, hd2, HP3, hf3, hF3⟩
  simp only [World.size_alloc] at hz2
  have z3 := hf3.size
  have hr3 : RowV w3 w1.heap.size 103 (comG ci cj x0 x1 x2 x3 x4 x5 x6 x7 s0 s1 s2 s3 s4 s5 s6 s7) := hr2.of_block (hf3.block _ hr2.lt (fun e => by have := HP1.lt _ e; omega))
  have HFR3 : Hid (Frame d.F w w3) := by
    have g2 : Frame d.F w w2 := (HFR1.out.alloc _).into hf2 (fun k hk e => by omega)
    exact g2.into hf3 (fun k hk e => hF1 k e (by omega))
  have HF3 : Hid (∀ k, d2.F k → k < w.heap.size → d.F k) := fun k hk hlt => hF1 k (hF3 k hk (by omega)) (by omega)
  have HH3 : Hid (d2.pb = d.pb ∧ d2.done = d.done ∧ d2.dn = d.dn ∧ d2.doneC = d.doneC ∧ d2.nl = d2.its ∧ d2.rl = d2.tds.map rootOf ∧ d2.pastL.length = d2.tds.length ∧ d2.dn + 1 = d2.tds.length ∧ d2.tds.length ≤ 40 ∧ d2.N ≤ 500 * d2.tds.length ∧ d2.pastL.map (·.2) = d2.pp ∧ d2.doneC ++ comG ci cj x0 x1 x2 x3 x4 x5 x6 x7 s0 s1 s2 s3 s4 s5 s6 s7 = comsC (d2.tds.map rootOf)) := by
    rw [hd2, hd1]
    refine ⟨rfl, rfl, rfl, rfl, rfl, ?_, ?_, ?_, ?_, ?_, ?_, ?_⟩
    · show d.tds.map rootOf ++ [rootB d.its] = (d.tds ++ [nd]).map rootOf
      rw [List.map_append, ← hr1]; rfl
    · show (d.pastL ++ [(d.now, d.its)]).length = (d.tds ++ [nd]).length
      simp [h.pl]
    · show d.dn + 1 = (d.tds ++ [nd]).length
      simp [h.dl]
    · show (d.tds ++ [nd]).length ≤ 40
      simp; omega
    · show N' ≤ 500 * (d.tds ++ [nd]).length
      have := h.cnt
      simp; omega
    · show (d.pastL ++ [(d.now, d.its)]).map (·.2) = d.pp ++ [d.its]
      rw [List.map_append, h.pst]; rfl
    · show d.doneC ++ _ = comsC ((d.tds ++ [nd]).map rootOf)
      rw [List.map_append, List.map_singleton, comsC_snoc, h.dc, ← HC.out, hr1, List.length_map]
  have HZ3 : Hid (RowV (w3.alloc (.cells #[.int .i64 0, .int .u8 0, .int .u8 0, .int .u8 0, .int .u8 0, .int .u8 0, .int .u8 0, .int .u8 0, .int .u8 0, .int .i64 0, .int .u8 0, .int .u8 0, .int .u8 0, .int .u8 0, .int .u8 0, .int .u8 0, .int .u8 0, .int .u8 0] 103)) w3.heap.size 103 zero18) := RowV.new w3 _ _
  have HP4f : Hid (∀ w4, Frame (fun k => k = w3.heap.size) (w3.alloc (.cells #[.int .i64 0, .int .u8 0, .int .u8 0, .int .u8 0, .int .u8 0, .int .u8 0, .int .u8 0, .int .u8 0, .int .u8 0, .int .i64 0, .int .u8 0, .int .u8 0, .int .u8 0, .int .u8 0, .int .u8 0, .int .u8 0, .int .u8 0, .int .u8 0] 103)) w4 → PairAt w4 d2) := fun w4 hf =>
    (HP3.below ((Below.refl _ _).alloc (Nat.le_refl _) _)).frame hf (fun k hk e => by have := HP3.lt k hk; omega)
  have HP3' : Hid (PairAt w3 d2) := HP3
  have HR3 : Hid (RowV w3 w1.heap.size 103 (comG ci cj x0 x1 x2 x3 x4 x5 x6 x7 s0 s1 s2 s3 s4 s5 s6 s7)) := hr3
  have HNB : Hid (¬ d2.F w1.heap.size) := fun e => by have := HP1.lt _ (hF3 _ e (by omega)); omega
  clear hd1 hd2 HP3 hf3 hF3 hf2 hr2 HP1 hF1 hp2 r1 HRC HP2f HR1 HZ1 hr3
  go_upto_region 19 with (refine wp_storeR (by rfl) 103 (.tmp 19) (.tmp 121) (by rfl) w3.heap.size (by rfl) (comG ci cj x0 x1 x2 x3 x4 x5 x6 x7 s0 s1 s2 s3 s4 s5 s6 s7) (by rfl) HZ3.out rfl Tryz.sizeCommit comG_one ?_; intro w4 hr4 hf4 hz4)
  have hp4 := HP4f.out _ hf4
  simp only [World.size_alloc] at hz4
  obtain ⟨hpb2, hdn2, hdd2, hdc2, HHr⟩ := HH3.out
  have hlt13 : w1.heap.size < w3.heap.size := HR3.out.lt
  have hr4a : RowV w4 w1.heap.size 103 (comG ci cj x0 x1 x2 x3 x4 x5 x6 x7 s0 s1 s2 s3 s4 s5 s6 s7) := (RowV.alloc (w := w3) HR3.out _).of_block (hf4.block _ (by simp; omega) (by omega))
  have HFR4 : Hid (Frame d.F w w4) := (HFR3.out.alloc _).into hf4 (fun k hk e => by omega)
  have q2 : w4.cell? ⟨d.pb, 2, none⟩ = some (.slice d2.done.a d2.done.n d2.done.cap) := by
    have := RowV.cellK hp4.row 2 _ rfl
    rw [hpb2] at this; exact this
  have g1 : w3.heap.size < w4.heap.size := by omega
  have g2 : d.pb < w4.heap.size := by omega
  have hne3 : w3.heap.size ≠ d.pb := by omega
  have hne4 : d.pb ≠ w3.heap.size := by omega
  have hBA : Below w4.heap.size w4 (w4.drew.alloc (.cells (comG ci cj x0 x1 x2 x3 x4 x5 x6 x7 s0 s1 s2 s3 s4 s5 s6 s7).toArray 103)) := by
    have hb : Below w4.drew.heap.size w4.drew (w4.drew.alloc (.cells (comG ci cj x0 x1 x2 x3 x4 x5 x6 x7 s0 s1 s2 s3 s4 s5 s6 s7).toArray 103)) := (Below.refl _ _).alloc (Nat.le_refl _) _
    exact ⟨hb.os, hb.tape, hb.output, hb.size, hb.block⟩
  have hp4a : PairAt (w4.drew.alloc (.cells (comG ci cj x0 x1 x2 x3 x4 x5 x6 x7 s0 s1 s2 s3 s4 s5 s6 s7).toArray 103)) d2 := hp4.below hBA
  have HO : Hid ((w4.drew.alloc (.cells (comG ci cj x0 x1 x2 x3 x4 x5 x6 x7 s0 s1 s2 s3 s4 s5 s6 s7).toArray 103)).ownsRow 0 103 18 (.slice d2.done.a d2.done.n d2.done.cap) d2.dn d2.doneC) := hp4a.hdone
  have HS : Hid (SlV (w4.drew.alloc (.cells (comG ci cj x0 x1 x2 x3 x4 x5 x6 x7 s0 s1 s2 s3 s4 s5 s6 s7).toArray 103)) (some ⟨w4.heap.size, 0, none⟩) (comG ci cj x0 x1 x2 x3 x4 x5 x6 x7 s0 s1 s2 s3 s4 s5 s6 s7)) := SlV.alloc_new w4.drew _ _
  have HL1 : Hid (∀ u ∈ comG ci cj x0 x1 x2 x3 x4 x5 x6 x7 s0 s1 s2 s3 s4 s5 s6 s7, u.oneCell' = true) := comG_one
  have H63 : Hid (d2.dn + 1 ≤ maxLen) := by unfold Hid maxLen; omega
  have HBY : Hid ((d2.dn + 1) * 32 ≤ 140737488355328) := by unfold Hid; omega
  have HR6 : Hid (∀ w6, Frame (fun k => (Value.slice d2.done.a d2.done.n d2.done.cap).ownBlock = some k) (w4.drew.alloc (.cells (comG ci cj x0 x1 x2 x3 x4 x5 x6 x7 s0 s1 s2 s3 s4 s5 s6 s7).toArray 103)) w6 → RowV w6 d.pb 94 [ptrV d2.sb, ptrV d2.rb, d2.done.val]) := fun w6 hf => by
    rw [← hpb2]
    exact RowV.of_block hp4a.row (hf.block _ (RowV.lt hp4a.row) (fun e => owns_ne hp4a.hdone hp4a.row (by decide) e))
  have HRG : Hid (w4.drew.rangeAt w3.heap.size 0 (comG ci cj x0 x1 x2 x3 x4 x5 x6 x7 s0 s1 s2 s3 s4 s5 s6 s7)) := hr4.range
  have HQA : Hid ((w4.drew.alloc (.cells (comG ci cj x0 x1 x2 x3 x4 x5 x6 x7 s0 s1 s2 s3 s4 s5 s6 s7).toArray 103)).cell? ⟨d.pb, 2, none⟩ = some (.slice d2.done.a d2.done.n d2.done.cap)) := by
    have := hBA.cell (p := ⟨d.pb, 2, none⟩) g2
    unfold Hid; rw [this]; exact q2
  have HQ4 : Hid (w4.drew.cell? ⟨d.pb, 2, none⟩ = some (.slice d2.done.a d2.done.n d2.done.cap)) := q2
  have HP4b : Hid (Below w4.heap.size w4 (w4.drew.alloc (.cells (comG ci cj x0 x1 x2 x3 x4 x5 x6 x7 s0 s1 s2 s3 s4 s5 s6 s7).toArray 103))) := hBA
  have HP4a : Hid (PairAt (w4.drew.alloc (.cells (comG ci cj x0 x1 x2 x3 x4 x5 x6 x7 s0 s1 s2 s3 s4 s5 s6 s7).toArray 103)) d2) := hp4a
  have HP4 : Hid (PairAt w4 d2) := hp4
  have HHR : Hid (d2.nl = d2.its ∧ d2.rl = d2.tds.map rootOf ∧ d2.pastL.length = d2.tds.length ∧ d2.dn + 1 = d2.tds.length ∧ d2.tds.length ≤ 40 ∧ d2.N ≤ 500 * d2.tds.length ∧ d2.pastL.map (·.2) = d2.pp ∧ d2.doneC ++ comG ci cj x0 x1 x2 x3 x4 x5 x6 x7 s0 s1 s2 s3 s4 s5 s6 s7 = comsC (d2.tds.map rootOf)) := HHr
  have HPB : Hid (d2.pb = d.pb) := hpb2
  have HR4a : Hid (RowV w4 w1.heap.size 103 (comG ci cj x0 x1 x2 x3 x4 x5 x6 x7 s0 s1 s2 s3 s4 s5 s6 s7)) := hr4a
  have HR4 : Hid (RowV w4 w3.heap.size 103 (comG ci cj x0 x1 x2 x3 x4 x5 x6 x7 s0 s1 s2 s3 s4 s5 s6 s7)) := hr4
  have HZZ : Hid (w.heap.size + 1 ≤ w1.heap.size ∧ w1.heap.size < w3.heap.size ∧ w3.heap.size < w4.heap.size) := ⟨by omega, by omega, by omega⟩
  clear hz4 hz2 z1 z3 hlt13
  clear hBA hp4a hp4 hf4 HHr HH3 hpb2 hdn2 hdd2 hdc2 HP4f HZ3 hr4a hr4 HD1 HR3
  have HEf : Hid (∀ (a6 : Option Addr) (n6 c6 : Nat) (w6 : World), w6.ownsRow 0 103 18 (.slice a6 n6 c6) (d2.dn + 1) (d2.doneC ++ comG ci cj x0 x1 x2 x3 x4 x5 x6 x7 s0 s1 s2 s3 s4 s5 s6 s7) → Frame (fun k => (Value.slice d2.done.a d2.done.n d2.done.cap).ownBlock = some k) (w4.drew.alloc (.cells (comG ci cj x0 x1 x2 x3 x4 x5 x6 x7 s0 s1 s2 s3 s4 s5 s6 s7).toArray 103)) w6 → ((Value.slice a6 n6 c6).ownBlock = (Value.slice d2.done.a d2.done.n d2.done.cap).ownBlock ∨ (Value.slice a6 n6 c6).ownBlock = some (w4.drew.alloc (.cells (comG ci cj x0 x1 x2 x3 x4 x5 x6 x7 s0 s1 s2 s3 s4 s5 s6 s7).toArray 103)).heap.size) → Hid (ComEnd d w (w6.setCell ⟨d.pb, 2, none⟩ (.slice a6 n6 c6)) w1.heap.size w3.heap.size (comG ci cj x0 x1 x2 x3 x4 x5 x6 x7 s0 s1 s2 s3 s4 s5 s6 s7))) := by
    intro a6 n6 c6 w6 ho6 hf6 hat6
    obtain ⟨y1, y2, y3⟩ := PairAt.pushDone (done' := ⟨a6, n6, c6⟩) (C := comG ci cj x0 x1 x2 x3 x4 x5 x6 x7 s0 s1 s2 s3 s4 s5 s6 s7) HP4a.out ho6 hf6 hat6
    rw [HPB.out] at y1 y2 y3
    obtain ⟨u1, u2, u3, u4, u5, u6, u7, u8⟩ := HHR.out
    obtain ⟨v1, v2, v3⟩ := HZZ.out
    have hfa : Frame d.F w (w4.drew.alloc (.cells (comG ci cj x0 x1 x2 x3 x4 x5 x6 x7 s0 s1 s2 s3 s4 s5 s6 s7).toArray 103)) := (HFR4.out.drew).alloc _
    have hnd : ∀ k, d2.F k → k < w3.heap.size := HP3'.out.lt
    refine ⟨Stepped.mk ⟨y1, u1, u2, u3, u4, u5, u6, u7, u8⟩ ?_ ?_ ?_, ?_, ?_⟩
    · rfl
    · exact hfa.into y3 (fun k hk e => HF3.out k e hk)
    · intro k hk hlt
      exact HF3.out k (y2 k hk (by have := (HP4b.out).size; omega)) hlt
    · exact (RowV.of_block (RowV.alloc (w := w4.drew) HR4a.out _) (hf6.block _ (RowV.alloc (w := w4.drew) HR4a.out _).lt (fun e => HNB.out (Or.inl (Or.inr e))))).other (by show w1.heap.size ≠ d.pb; omega) _
    · exact (RowV.of_block (RowV.alloc (w := w4.drew) HR4.out _) (hf6.block _ (RowV.alloc (w := w4.drew) HR4.out _).lt (fun e => by have := hnd _ (Or.inl (Or.inr e)); omega))).other (by show w3.heap.size ≠ d.pb; omega) _
  have hC18 : (comG ci cj x0 x1 x2 x3 x4 x5 x6 x7 s0 s1 s2 s3 s4 s5 s6 s7).length = 18 := rfl
  generalize hCG : comG ci cj x0 x1 x2 x3 x4 x5 x6 x7 s0 s1 s2 s3 s4 s5 s6 s7 = C at *
  have HCG : Hid (comG ci cj x0 x1 x2 x3 x4 x5 x6 x7 s0 s1 s2 s3 s4 s5 s6 s7 = C) := hCG
  clear hCG
  have HSZ : Hid ((Tryz.prog.info? 103).map (·.size) = some C.length) := by unfold Hid; rw [hC18]; exact Tryz.sizeCommit
  have HC18 : Hid (C.length = 18) := hC18
  clear hC18
  have HOW : Hid (w4.ownsRow 0 103 18 d2.done.val d2.dn d2.doneC) := HP4.out.hdone
  have HDN : Hid (d2.dn ≤ 1000) := by have := HHR.out.2.2.2; unfold Hid; omega
  go_cut [] (fun wx => Hid (ComEnd d w wx w1.heap.size w3.heap.size C))
  case first =>
    refine wp_region_any (by kernel_rfl) ?_
    refine push_any (D := 125) (p := 2) (q := 19) ⟨rfl, rfl, rfl, rfl, rfl, rfl, rfl, rfl, rfl, rfl, rfl, by kernel_rfl, by kernel_rfl, by kernel_rfl, by kernel_rfl, by kernel_rfl, by kernel_rfl, by kernel_rfl, by kernel_rfl, by kernel_rfl, by kernel_rfl, by kernel_rfl, by kernel_rfl, by kernel_rfl, by kernel_rfl, by kernel_rfl, by kernel_rfl, by kernel_rfl, by kernel_rfl, by kernel_rfl, by kernel_rfl, by kernel_rfl, by kernel_rfl⟩ ⟨by kernel_rfl, by kernel_rfl, by kernel_rfl, by kernel_rfl, by kernel_rfl, by kernel_rfl, by kernel_rfl, by kernel_rfl, by kernel_rfl, by kernel_rfl, by kernel_rfl, ⟨by kernel_rfl, by kernel_rfl, by kernel_rfl, by kernel_rfl, by kernel_rfl, by kernel_rfl, by kernel_rfl⟩, by kernel_rfl, by kernel_rfl, ⟨by kernel_rfl, by kernel_rfl, by kernel_rfl, by kernel_rfl, by kernel_rfl, by kernel_rfl, by kernel_rfl⟩, by kernel_rfl, ⟨by kernel_rfl, by kernel_rfl, by kernel_rfl, by kernel_rfl, by kernel_rfl, by kernel_rfl, by kernel_rfl⟩⟩ (fun d _ _ _ _ h => by cases d <;> exact h) d.pb 2 d2.done w3.heap.size C HC18.out HL1.out d2.dn d2.doneC HDN.out
      (fun a h => by have h' := h; simp only [Act.eval, Array.getD_eq_getD_getElem?, Nat.reduceAdd] at h'; exact Or.inl ⟨by rfl, fun w => by go_simp⟩) (fun a h => by have h' := h; simp only [Act.eval, Array.getD_eq_getD_getElem?, Nat.reduceAdd] at h'; exact Or.inl ⟨by rfl, fun w => by go_simp⟩) (fun a h => by have h' := h; simp only [Act.eval, Array.getD_eq_getD_getElem?, Nat.reduceAdd] at h'; exact Or.inl ⟨by rfl, fun w => by go_simp⟩) (fun a h => by have h' := h; simp only [Act.eval, Array.getD_eq_getD_getElem?, Nat.reduceAdd] at h'; exact Or.inl ⟨by rfl, fun w => by go_simp⟩) (fun a h => by have h' := h; simp only [Act.eval, Array.getD_eq_getD_getElem?, Nat.reduceAdd] at h'; exact Or.inl ⟨by rfl, fun w => by go_simp⟩) (fun a h => by have h' := h; simp only [Act.eval, Array.getD_eq_getD_getElem?, Nat.reduceAdd] at h'; exact Or.inl ⟨by rfl, fun w => by go_simp⟩)
      _ w4.drew (Nat.le_of_ble_eq_true (by kernel_rfl)) (by decide) (by decide) (by kernel_rfl) (by kernel_rfl) HR4.out HQ4.out g2 HOW.out (fun w6 hf => ⟨_, RowV.cellK (HR6.out _ hf) 2 _ rfl, RowV.frozen (HR6.out _ hf) 2⟩) ?_
    intro a6 n6 c6 w6 ho6 hf6 hat6
    have HE6 := HEf.out _ _ _ _ ho6 hf6 hat6
    clear ho6 hf6 hat6
    unfold finA
    simp only [Act.put, List.setIfInBounds_toArray, List.set_cons_succ, List.set_cons_zero, Nat.reduceAdd]
    go_wp2_with fail
    go_meet
    exact HE6
  case rest =>
    have hCG := HCG.out
    subst hCG
    have hE := hcut.out
    have HST : Hid (Stepped d w wc) := hE.st
    have a0 : wc.cell? ⟨w1.heap.size, 0, none⟩ = some (.int .i64 ci) := RowV.cellK hE.one 0 _ rfl
    have a1 : wc.cell? ⟨w1.heap.size, 1, none⟩ = some (.int .u8 (x0.toNat : Int)) := RowV.cellK hE.one 1 _ rfl
    have a2 : wc.cell? ⟨w1.heap.size, 2, none⟩ = some (.int .u8 (x1.toNat : Int)) := RowV.cellK hE.one 2 _ rfl
    have a3 : wc.cell? ⟨w1.heap.size, 3, none⟩ = some (.int .u8 (x2.toNat : Int)) := RowV.cellK hE.one 3 _ rfl
    have a4 : wc.cell? ⟨w1.heap.size, 4, none⟩ = some (.int .u8 (x3.toNat : Int)) := RowV.cellK hE.one 4 _ rfl
    have a5 : wc.cell? ⟨w1.heap.size, 5, none⟩ = some (.int .u8 (x4.toNat : Int)) := RowV.cellK hE.one 5 _ rfl
    have a6 : wc.cell? ⟨w1.heap.size, 6, none⟩ = some (.int .u8 (x5.toNat : Int)) := RowV.cellK hE.one 6 _ rfl
    have a7 : wc.cell? ⟨w1.heap.size, 7, none⟩ = some (.int .u8 (x6.toNat : Int)) := RowV.cellK hE.one 7 _ rfl
    have a8 : wc.cell? ⟨w1.heap.size, 8, none⟩ = some (.int .u8 (x7.toNat : Int)) := RowV.cellK hE.one 8 _ rfl
    have a9 : wc.cell? ⟨w1.heap.size, 9, none⟩ = some (.int .i64 cj) := RowV.cellK hE.one 9 _ rfl
    have a10 : wc.cell? ⟨w1.heap.size, 10, none⟩ = some (.int .u8 (s0.toNat : Int)) := RowV.cellK hE.one 10 _ rfl
    have a11 : wc.cell? ⟨w1.heap.size, 11, none⟩ = some (.int .u8 (s1.toNat : Int)) := RowV.cellK hE.one 11 _ rfl
    have a12 : wc.cell? ⟨w1.heap.size, 12, none⟩ = some (.int .u8 (s2.toNat : Int)) := RowV.cellK hE.one 12 _ rfl
    have a13 : wc.cell? ⟨w1.heap.size, 13, none⟩ = some (.int .u8 (s3.toNat : Int)) := RowV.cellK hE.one 13 _ rfl
    have a14 : wc.cell? ⟨w1.heap.size, 14, none⟩ = some (.int .u8 (s4.toNat : Int)) := RowV.cellK hE.one 14 _ rfl
    have a15 : wc.cell? ⟨w1.heap.size, 15, none⟩ = some (.int .u8 (s5.toNat : Int)) := RowV.cellK hE.one 15 _ rfl
    have a16 : wc.cell? ⟨w1.heap.size, 16, none⟩ = some (.int .u8 (s6.toNat : Int)) := RowV.cellK hE.one 16 _ rfl
    have a17 : wc.cell? ⟨w1.heap.size, 17, none⟩ = some (.int .u8 (s7.toNat : Int)) := RowV.cellK hE.one 17 _ rfl
    have b0 : wc.cell? ⟨w3.heap.size, 0, none⟩ = some (.int .i64 ci) := RowV.cellK hE.two 0 _ rfl
    have b1 : wc.cell? ⟨w3.heap.size, 1, none⟩ = some (.int .u8 (x0.toNat : Int)) := RowV.cellK hE.two 1 _ rfl
    have b2 : wc.cell? ⟨w3.heap.size, 2, none⟩ = some (.int .u8 (x1.toNat : Int)) := RowV.cellK hE.two 2 _ rfl
    have b3 : wc.cell? ⟨w3.heap.size, 3, none⟩ = some (.int .u8 (x2.toNat : Int)) := RowV.cellK hE.two 3 _ rfl
    have b4 : wc.cell? ⟨w3.heap.size, 4, none⟩ = some (.int .u8 (x3.toNat : Int)) := RowV.cellK hE.two 4 _ rfl
    have b5 : wc.cell? ⟨w3.heap.size, 5, none⟩ = some (.int .u8 (x4.toNat : Int)) := RowV.cellK hE.two 5 _ rfl
    have b6 : wc.cell? ⟨w3.heap.size, 6, none⟩ = some (.int .u8 (x5.toNat : Int)) := RowV.cellK hE.two 6 _ rfl
    have b7 : wc.cell? ⟨w3.heap.size, 7, none⟩ = some (.int .u8 (x6.toNat : Int)) := RowV.cellK hE.two 7 _ rfl
    have b8 : wc.cell? ⟨w3.heap.size, 8, none⟩ = some (.int .u8 (x7.toNat : Int)) := RowV.cellK hE.two 8 _ rfl
    have b9 : wc.cell? ⟨w3.heap.size, 9, none⟩ = some (.int .i64 cj) := RowV.cellK hE.two 9 _ rfl
    have b10 : wc.cell? ⟨w3.heap.size, 10, none⟩ = some (.int .u8 (s0.toNat : Int)) := RowV.cellK hE.two 10 _ rfl
    have b11 : wc.cell? ⟨w3.heap.size, 11, none⟩ = some (.int .u8 (s1.toNat : Int)) := RowV.cellK hE.two 11 _ rfl
    have b12 : wc.cell? ⟨w3.heap.size, 12, none⟩ = some (.int .u8 (s2.toNat : Int)) := RowV.cellK hE.two 12 _ rfl
    have b13 : wc.cell? ⟨w3.heap.size, 13, none⟩ = some (.int .u8 (s3.toNat : Int)) := RowV.cellK hE.two 13 _ rfl
    have b14 : wc.cell? ⟨w3.heap.size, 14, none⟩ = some (.int .u8 (s4.toNat : Int)) := RowV.cellK hE.two 14 _ rfl
    have b15 : wc.cell? ⟨w3.heap.size, 15, none⟩ = some (.int .u8 (s5.toNat : Int)) := RowV.cellK hE.two 15 _ rfl
    have b16 : wc.cell? ⟨w3.heap.size, 16, none⟩ = some (.int .u8 (s6.toNat : Int)) := RowV.cellK hE.two 16 _ rfl
    have b17 : wc.cell? ⟨w3.heap.size, 17, none⟩ = some (.int .u8 (s7.toNat : Int)) := RowV.cellK hE.two 17 _ rfl
    have hex : ∀ w, (Op.equalIn 10000 36 (Value.agg #[.int .u8 (x0.toNat : Int), .int .u8 (x1.toNat : Int), .int .u8 (x2.toNat : Int), .int .u8 (x3.toNat : Int), .int .u8 (x4.toNat : Int), .int .u8 (x5.toNat : Int), .int .u8 (x6.toNat : Int), .int .u8 (x7.toNat : Int)]) (Value.agg #[.int .u8 (x0.toNat : Int), .int .u8 (x1.toNat : Int), .int .u8 (x2.toNat : Int), .int .u8 (x3.toNat : Int), .int .u8 (x4.toNat : Int), .int .u8 (x5.toNat : Int), .int .u8 (x6.toNat : Int), .int .u8 (x7.toNat : Int)])).run Tryz.prog w = .ok true w := fun w => by
      have h := run_equalIn_bytes (P := Tryz.prog) w 9998 36 5 8 Tryz.underlying36 Tryz.underlying5 Tryz.sizeU8 [x0, x1, x2, x3, x4, x5, x6, x7] [x0, x1, x2, x3, x4, x5, x6, x7] rfl rfl
      rw [beq_self_eq_true] at h
      exact h
    have hes : ∀ w, (Op.equalIn 10000 36 (Value.agg #[.int .u8 (s0.toNat : Int), .int .u8 (s1.toNat : Int), .int .u8 (s2.toNat : Int), .int .u8 (s3.toNat : Int), .int .u8 (s4.toNat : Int), .int .u8 (s5.toNat : Int), .int .u8 (s6.toNat : Int), .int .u8 (s7.toNat : Int)]) (Value.agg #[.int .u8 (s0.toNat : Int), .int .u8 (s1.toNat : Int), .int .u8 (s2.toNat : Int), .int .u8 (s3.toNat : Int), .int .u8 (s4.toNat : Int), .int .u8 (s5.toNat : Int), .int .u8 (s6.toNat : Int), .int .u8 (s7.toNat : Int)])).run Tryz.prog w = .ok true w := fun w => by
      have h := run_equalIn_bytes (P := Tryz.prog) w 9998 36 5 8 Tryz.underlying36 Tryz.underlying5 Tryz.sizeU8 [s0, s1, s2, s3, s4, s5, s6, s7] [s0, s1, s2, s3, s4, s5, s6, s7] rfl rfl
      rw [beq_self_eq_true] at h
      exact h
    have z13 : w1.heap.size < wc.heap.size := hE.one.lt
    have z33 : w3.heap.size < wc.heap.size := hE.two.lt
    clear hE hcut HO HS HP4a HP4 HR6 HHR HR4a HR4 q2 HRG HQA HQ4 HP4b
    go_wp2
    go_ret
    exact ⟨rfl, HST.out⟩
end Go.Proofs.YtekegfbjbainhaaGreat
