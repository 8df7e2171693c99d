import Derived.Test.YtekegfbjbainhaaGreatKJoin13
import Derived.ProofKit
import Derived.SizedLaws
import Derived.OpenShut
import Derived.Deep.Slices
set_option linter.unusedVariables false
set_option linter.unusedSimpArgs false

namespace Go.Proofs.YtekegfbjbainhaaGreat
open Go.RowKit
structure ComEnd (d : PairD) (w W : World) (b b' : Nat) (C : List Value) : Prop where
 st : Stepped d w W
 one : RowV W b 103 C
 two : RowV W b' 103 C
set_option maxRecDepth 100000 in
set_option maxHeartbeats 4000000 in
theorem stored_com_ok (d : PairD) (cs : List Value) (p : Value) (w : World) (h : PairOk w d) (k0 : cs[0]? = some (.int .i64 5)) (h40 : d.tds.length < 40) :
  Calls Tryz.prog 21 #[p, .agg cs.toArray, .pointer (some ⟨d.pb, 0, none⟩)] w fun e w' => e = .returned (.bool true) ∧ Stepped d w w' := by
 have HA : Hid (Below w.heap.size w (w.alloc (.cells cs.toArray 43))) := (Below.refl _ _).alloc (Nat.le_refl _) _
 have hpb : d.pb < w.heap.size := RowV.lt h.lay.row
 have r0 : w.cell? ⟨d.pb, 0, none⟩ = some (.pointer (some ⟨d.sb, 0, none⟩)) := RowV.cell h.lay.row 0 (by simp)
 have HP0 := h.lay.below HA.out
 have HCM : Hid (Calls _ _ _ _ _) := commit_ok d.sb d.N d.en d.tr d.mp d.es d.xs d.its d.tds _ HP0.sto h40 (by have := h.cnt; omega)
 have HRC : Hid (∀ (W : World) (d1 : PairD), PairAt W d1 → d1.rb = d.rb → d1.now = d.now → d1.past = d.past → d1.roots = d.roots → d1.nl = d.nl → d1.pastL = d.pastL → d1.rl = d.rl → Calls Tryz.prog 45 #[.pointer (some ⟨d.rb, 0, none⟩)] W fun e w' => e = .returned (.tuple #[.agg (commitC d.tds.length (rootB d.its) (d.tds.length + 1) (sumF 42 (d.tds.map rootOf ++ [rootB d.its]))).toArray, .int .i64 0]) ∧
   ∃ d2 : PairD, d2 = { d1 with now := d2.now, past := d2.past, roots := d2.roots, nl := d.its, pastL := d.pastL ++ [(d.now, d.its)], rl := d.tds.map rootOf ++ [rootB d.its] } ∧ PairAt w' d2 ∧ Frame d1.F W w' ∧ (∀ k, d2.F k → k < W.heap.size → d1.F k)) := by
  intro W d1 hp e1 e2 e3 e4 e5 e6 e7
  have hr := hp.ref
  rw [e1, e2, e3, e4, e5, e6, e7, h.nl, h.rl] at hr
  refine (refCommit_ok d.rb 0 d.now d.past d.roots d.its d.pastL (d.tds.map rootOf) W hr (by simpa using h40) (by rw [h.pl]; exact h40) h.lay.sto.len h.lay.sto.ok (Nat.zero_le _)).mono ?_
  rintro e w' ⟨rfl, past', roots', q1, q2, q3, q4⟩
  have q1' : RefAt w' d1.rb 0 d.now past' roots' d.its (d.pastL ++ [(d.now, d.its)]) (d.tds.map rootOf ++ [rootB d.its]) := by rw [e1]; exact q1
  obtain ⟨g1, g2⟩ := hp.setRef q1' q2 (fun k hk => by
   unfold PairD.rF refF
   rw [e1, e3, e4]
   rcases hk with hk | hk | hk
   ·exact Or.inl hk
   ·exact Or.inr (Or.inr (Or.inl hk))
   ·exact Or.inr (Or.inr (Or.inr (Or.inl hk)))) (fun k hk hlt => by
   unfold PairD.rF refF
   rw [e2, e3, e4, e6]
   rcases hk with hk | hk | hk | hk | ⟨q, hq, hk⟩
   ·exact Or.inl hk
   ·exact Or.inr (Or.inl hk)
   ·exact Or.inr (Or.inr (Or.inl (q3 k hk hlt)))
   ·exact Or.inr (Or.inr (Or.inr (Or.inl (q4 k hk hlt))))
   ·rcases List.mem_append.1 hq with hq | hq
    ·exact Or.inr (Or.inr (Or.inr (Or.inr ⟨q, hq, hk⟩)))
    ·simp only [List.mem_singleton] at hq
     subst hq; exact Or.inr (Or.inl hk))
  refine ⟨by simp, _, ?_, g1, ?_, g2⟩
  ·rfl
  ·exact q2.mono (fun k _ hk => Or.inr (Or.inr (by
    unfold PairD.rF refF
    rw [e1, e3, e4]
    rcases hk with hk | hk | hk
    ·exact Or.inl hk
    ·exact Or.inr (Or.inr (Or.inl hk))
    ·exact Or.inr (Or.inr (Or.inr (Or.inl hk))))))
 obtain ⟨s0, s1, s2, s3, s4, s5, s6, s7, hss⟩ := list8 (sumF 42 (d.tds.map rootOf ++ [rootB d.its])) (sumF_length 41 _)
 obtain ⟨x0, x1, x2, x3, x4, x5, x6, x7, hxx⟩ := list8 (rootB d.its) rfl
 obtain ⟨ci, cj, HC⟩ : ∃ ci cj : Int, Hid (commitC d.tds.length (rootB d.its) (d.tds.length + 1) (sumF 42 (d.tds.map rootOf ++ [rootB d.its])) = comG ci cj x0 x1 x2 x3 x4 x5 x6 x7 s0 s1 s2 s3 s4 s5 s6 s7) := ⟨d.tds.length, (d.tds.length + 1 : Nat), by unfold Hid; rw [hss, hxx]; rfl⟩
 clear hss hxx
 rw [HC.out] at HCM HRC
 have hdF : ∀ k, d.F k → k < w.heap.size := h.lay.lt
 go_enter Tryz.func21, Tryz.ntmps21
 go_wp2_with fail
 refine HCM.out.mono ?_
 rintro e w1 ⟨tr', mp', es', nd, N', rfl, hs1, hr1, hN1, hf1, hn1, hmu1, L, ℓ, hL1, hL2, hL3, hL4⟩
 obtain ⟨HP1, hF1⟩ := HP0.setSto hs1 hf1 (fun k e => Or.inl e) hn1 ((HP0.tre.next hf1 (fun k e => e) hmu1).push hL4.good hL1 hL2 hL3 ⟨HP0.sto.rise, HP0.sto.ok, HP0.sto.norm, HP0.sto.len⟩) (fun k hk hlt => by
  obtain ⟨M, hM, nds, hn, x, hx, hk⟩ := hk
  rcases List.mem_append.1 hM with hM | hM
  ·exact Or.inr ⟨M, hM, nds, hn, x, hx, hk⟩
  ·simp only [List.mem_singleton] at hM
   subst hM
   rcases hL4.foot nds hn x hx k hk hlt with g | ⟨y, hy, z, hz, e⟩
   ·exact Or.inl (Or.inr (Or.inr (Or.inl g)))
   ·exact Or.inl (Or.inr (Or.inl (Or.inr ⟨y, hy, Or.inl ⟨z, hz, e⟩⟩))))
 obtain ⟨d1, hd1⟩ : ∃ x, x = ({ d with N := N', tr := tr', mp := mp', es := es', tds := d.tds ++ [nd], T := d.T ++ [L], pp := d.pp ++ [d.its] } : PairD) := ⟨_, rfl⟩
 rw [← hd1] at HP1 hF1
 have z1 := hf1.size
 simp only [World.size_alloc] at z1 hF1
 have HD1 : Hid (d1 = ({ d with N := N', tr := tr', mp := mp', es := es', tds := d.tds ++ [nd], T := d.T ++ [L], pp := d.pp ++ [d.its] } : PairD)) := hd1
 have HFR1 : Hid (Frame d.F w w1) := (Frame.of_below_all (S := d.F) HA.out).into hf1 (fun k _ hk => Or.inr (Or.inl (Or.inl (Or.inl hk))))
 clear hL1 hL2 hL3 hL4 hmu1
 have HZ1 : Hid (RowV (w1.alloc (.cells #[.int .i64 0, .int .u8 0, .int .u8 0, .int .u8 0, .int .u8 0, .int .u8 0, .int .u8 0, .int .u8 0, .int .u8 0, .int .i64 0, .int .u8 0, .int .u8 0, .int .u8 0, .int .u8 0, .int .u8 0, .int .u8 0, .int .u8 0, .int .u8 0] 103)) w1.heap.size 103 zero18) := RowV.new w1 _ _
 have HP2f : Hid (∀ w2, Frame (fun k => k = w1.heap.size) (w1.alloc (.cells #[.int .i64 0, .int .u8 0, .int .u8 0, .int .u8 0, .int .u8 0, .int .u8 0, .int .u8 0, .int .u8 0, .int .u8 0, .int .i64 0, .int .u8 0, .int .u8 0, .int .u8 0, .int .u8 0, .int .u8 0, .int .u8 0, .int .u8 0, .int .u8 0] 103)) w2 → PairAt w2 d1) := fun w2 hf =>
  (HP1.below ((Below.refl _ _).alloc (Nat.le_refl _) _)).frame hf (fun k hk e => by have := HP1.lt k hk; omega)
 have HR1 : Hid (∀ W, PairAt W d1 → W.cell? ⟨d.pb, 1, none⟩ = some (.pointer (some ⟨d.rb, 0, none⟩))) := fun W hp => by
  have := RowV.cellK hp.row 1 _ rfl
  rw [hd1] at this; exact this
 clear hs1 hf1 hn1 HP0 hd1 r0 HCM
 go_wp2_with (refine wp_storeR (by rfl) 103 (.tmp 17) (.tmp 113) (by rfl) w1.heap.size (by rfl) (comG ci cj x0 x1 x2 x3 x4 x5 x6 x7 s0 s1 s2 s3 s4 s5 s6 s7) (by rfl) HZ1.out rfl Tryz.sizeCommit comG_one ?_; intro w2 hr2 hf2 hz2; have hp2 := HP2f.out _ hf2; have r1 : w2.cell? ⟨d.pb, 1, none⟩ = some (.pointer (some ⟨d.rb, 0, none⟩)) := HR1.out _ hp2)
 have hd1 := HD1.out
 refine (HRC.out w2 d1 hp2 (by rw [hd1]) (by rw [hd1]) (by rw [hd1]) (by rw [hd1]) (by rw [hd1]) (by rw [hd1]) (by rw [hd1])).mono ?_
 rintro e w3 ⟨rfl, d2, hd2, HP3, hf3, hF3⟩
 simp only [World.size_alloc] at hz2
 have z3 := hf3.size
 have hr3 : RowV w3 w1.heap.size 103 (comG ci cj x0 x1 x2 x3 x4 x5 x6 x7 s0 s1 s2 s3 s4 s5 s6 s7) := hr2.of_block (hf3.block _ hr2.lt (fun e => by have := HP1.lt _ e; omega))
 have HFR3 : Hid (Frame d.F w w3) := by
  have g2 : Frame d.F w w2 := (HFR1.out.alloc _).into hf2 (fun k hk e => by omega)
  exact g2.into hf3 (fun k hk e => hF1 k e (by omega))
 have HF3 : Hid (∀ k, d2.F k → k < w.heap.size → d.F k) := fun k hk hlt => hF1 k (hF3 k hk (by omega)) (by omega)
 have HH3 : Hid (d2.pb = d.pb ∧ d2.done = d.done ∧ d2.dn = d.dn ∧ d2.doneC = d.doneC ∧ d2.nl = d2.its ∧ d2.rl = d2.tds.map rootOf ∧ d2.pastL.length = d2.tds.length ∧ d2.dn + 1 = d2.tds.length ∧ d2.tds.length ≤ 40 ∧ d2.N ≤ 500 * d2.tds.length ∧ d2.pastL.map (·.2) = d2.pp ∧ d2.doneC ++ comG ci cj x0 x1 x2 x3 x4 x5 x6 x7 s0 s1 s2 s3 s4 s5 s6 s7 = comsC (d2.tds.map rootOf)) := by
  rw [hd2, hd1]
  refine ⟨rfl, rfl, rfl, rfl, rfl, ?_, ?_, ?_, ?_, ?_, ?_, ?_⟩
  ·show d.tds.map rootOf ++ [rootB d.its] = (d.tds ++ [nd]).map rootOf
   rw [List.map_append, ← hr1]; rfl
  ·show (d.pastL ++ [(d.now, d.its)]).length = (d.tds ++ [nd]).length
   simp [h.pl]
  ·show d.dn + 1 = (d.tds ++ [nd]).length
   simp [h.dl]
  ·show (d.tds ++ [nd]).length ≤ 40
   simp; omega
  ·show N' ≤ 500 * (d.tds ++ [nd]).length
   have := h.cnt
   simp; omega
  ·show (d.pastL ++ [(d.now, d.its)]).map (·.2) = d.pp ++ [d.its]
   rw [List.map_append, h.pst]; rfl
  ·show d.doneC ++ _ = comsC ((d.tds ++ [nd]).map rootOf)
   rw [List.map_append, List.map_singleton, comsC_snoc, h.dc, ← HC.out, hr1, List.length_map]
 have HZ3 : Hid (RowV (w3.alloc (.cells #[.int .i64 0, .int .u8 0, .int .u8 0, .int .u8 0, .int .u8 0, .int .u8 0, .int .u8 0, .int .u8 0, .int .u8 0, .int .i64 0, .int .u8 0, .int .u8 0, .int .u8 0, .int .u8 0, .int .u8 0, .int .u8 0, .int .u8 0, .int .u8 0] 103)) w3.heap.size 103 zero18) := RowV.new w3 _ _
 have HP4f : Hid (∀ w4, Frame (fun k => k = w3.heap.size) (w3.alloc (.cells #[.int .i64 0, .int .u8 0, .int .u8 0, .int .u8 0, .int .u8 0, .int .u8 0, .int .u8 0, .int .u8 0, .int .u8 0, .int .i64 0, .int .u8 0, .int .u8 0, .int .u8 0, .int .u8 0, .int .u8 0, .int .u8 0, .int .u8 0, .int .u8 0] 103)) w4 → PairAt w4 d2) := fun w4 hf =>
  (HP3.below ((Below.refl _ _).alloc (Nat.le_refl _) _)).frame hf (fun k hk e => by have := HP3.lt k hk; omega)
 have HP3' : Hid (PairAt w3 d2) := HP3
 have HR3 : Hid (RowV w3 w1.heap.size 103 (comG ci cj x0 x1 x2 x3 x4 x5 x6 x7 s0 s1 s2 s3 s4 s5 s6 s7)) := hr3
 have HNB : Hid (¬ d2.F w1.heap.size) := fun e => by have := HP1.lt _ (hF3 _ e (by omega)); omega
 clear hd1 hd2 HP3 hf3 hF3 hf2 hr2 HP1 hF1 hp2 r1 HRC HP2f HR1 HZ1 hr3
 go_upto_region 19 with (refine wp_storeR (by rfl) 103 (.tmp 19) (.tmp 121) (by rfl) w3.heap.size (by rfl) (comG ci cj x0 x1 x2 x3 x4 x5 x6 x7 s0 s1 s2 s3 s4 s5 s6 s7) (by rfl) HZ3.out rfl Tryz.sizeCommit comG_one ?_; intro w4 hr4 hf4 hz4)
 have hp4 := HP4f.out _ hf4
 simp only [World.size_alloc] at hz4
 obtain ⟨hpb2, hdn2, hdd2, hdc2, HHr⟩ := HH3.out
 have hlt13 : w1.heap.size < w3.heap.size := HR3.out.lt
 have hr4a : RowV w4 w1.heap.size 103 (comG ci cj x0 x1 x2 x3 x4 x5 x6 x7 s0 s1 s2 s3 s4 s5 s6 s7) := (RowV.alloc (w := w3) HR3.out _).of_block (hf4.block _ (by simp; omega) (by omega))
 have HFR4 : Hid (Frame d.F w w4) := (HFR3.out.alloc _).into hf4 (fun k hk e => by omega)
 have q2 : w4.cell? ⟨d.pb, 2, none⟩ = some (.slice d2.done.a d2.done.n d2.done.cap) := by
  have := RowV.cellK hp4.row 2 _ rfl
  rw [hpb2] at this; exact this
 have g1 : w3.heap.size < w4.heap.size := by omega
 have g2 : d.pb < w4.heap.size := by omega
 have hne3 : w3.heap.size ≠ d.pb := by omega
 have hne4 : d.pb ≠ w3.heap.size := by omega
 have hBA : Below w4.heap.size w4 (w4.drew.alloc (.cells (comG ci cj x0 x1 x2 x3 x4 x5 x6 x7 s0 s1 s2 s3 s4 s5 s6 s7).toArray 103)) := by
  have hb : Below w4.drew.heap.size w4.drew (w4.drew.alloc (.cells (comG ci cj x0 x1 x2 x3 x4 x5 x6 x7 s0 s1 s2 s3 s4 s5 s6 s7).toArray 103)) := (Below.refl _ _).alloc (Nat.le_refl _) _
  exact ⟨hb.os, hb.tape, hb.output, hb.size, hb.block⟩
 have hp4a : PairAt (w4.drew.alloc (.cells (comG ci cj x0 x1 x2 x3 x4 x5 x6 x7 s0 s1 s2 s3 s4 s5 s6 s7).toArray 103)) d2 := hp4.below hBA
 have HO : Hid ((w4.drew.alloc (.cells (comG ci cj x0 x1 x2 x3 x4 x5 x6 x7 s0 s1 s2 s3 s4 s5 s6 s7).toArray 103)).ownsRow 0 103 18 (.slice d2.done.a d2.done.n d2.done.cap) d2.dn d2.doneC) := hp4a.hdone
 have HS : Hid (SlV (w4.drew.alloc (.cells (comG ci cj x0 x1 x2 x3 x4 x5 x6 x7 s0 s1 s2 s3 s4 s5 s6 s7).toArray 103)) (some ⟨w4.heap.size, 0, none⟩) (comG ci cj x0 x1 x2 x3 x4 x5 x6 x7 s0 s1 s2 s3 s4 s5 s6 s7)) := SlV.alloc_new w4.drew _ _
 have HL1 : Hid (∀ u ∈ comG ci cj x0 x1 x2 x3 x4 x5 x6 x7 s0 s1 s2 s3 s4 s5 s6 s7, u.oneCell' = true) := comG_one
 have H63 : Hid (d2.dn + 1 ≤ maxLen) := by unfold Hid maxLen; omega
 have HBY : Hid ((d2.dn + 1) * 32 ≤ 140737488355328) := by unfold Hid; omega
 have HR6 : Hid (∀ w6, Frame (fun k => (Value.slice d2.done.a d2.done.n d2.done.cap).ownBlock = some k) (w4.drew.alloc (.cells (comG ci cj x0 x1 x2 x3 x4 x5 x6 x7 s0 s1 s2 s3 s4 s5 s6 s7).toArray 103)) w6 → RowV w6 d.pb 94 [ptrV d2.sb, ptrV d2.rb, d2.done.val]) := fun w6 hf => by
  rw [← hpb2]
  exact RowV.of_block hp4a.row (hf.block _ (RowV.lt hp4a.row) (fun e => owns_ne hp4a.hdone hp4a.row (by decide) e))
 have HRG : Hid (w4.drew.rangeAt w3.heap.size 0 (comG ci cj x0 x1 x2 x3 x4 x5 x6 x7 s0 s1 s2 s3 s4 s5 s6 s7)) := hr4.range
 have HQA : Hid ((w4.drew.alloc (.cells (comG ci cj x0 x1 x2 x3 x4 x5 x6 x7 s0 s1 s2 s3 s4 s5 s6 s7).toArray 103)).cell? ⟨d.pb, 2, none⟩ = some (.slice d2.done.a d2.done.n d2.done.cap)) := by
  have := hBA.cell (p := ⟨d.pb, 2, none⟩) g2
  unfold Hid; rw [this]; exact q2
 have HQ4 : Hid (w4.drew.cell? ⟨d.pb, 2, none⟩ = some (.slice d2.done.a d2.done.n d2.done.cap)) := q2
 have HP4b : Hid (Below w4.heap.size w4 (w4.drew.alloc (.cells (comG ci cj x0 x1 x2 x3 x4 x5 x6 x7 s0 s1 s2 s3 s4 s5 s6 s7).toArray 103))) := hBA
 have HP4a : Hid (PairAt (w4.drew.alloc (.cells (comG ci cj x0 x1 x2 x3 x4 x5 x6 x7 s0 s1 s2 s3 s4 s5 s6 s7).toArray 103)) d2) := hp4a
 have HP4 : Hid (PairAt w4 d2) := hp4
 have HHR : Hid (d2.nl = d2.its ∧ d2.rl = d2.tds.map rootOf ∧ d2.pastL.length = d2.tds.length ∧ d2.dn + 1 = d2.tds.length ∧ d2.tds.length ≤ 40 ∧ d2.N ≤ 500 * d2.tds.length ∧ d2.pastL.map (·.2) = d2.pp ∧ d2.doneC ++ comG ci cj x0 x1 x2 x3 x4 x5 x6 x7 s0 s1 s2 s3 s4 s5 s6 s7 = comsC (d2.tds.map rootOf)) := HHr
 have HPB : Hid (d2.pb = d.pb) := hpb2
 have HR4a : Hid (RowV w4 w1.heap.size 103 (comG ci cj x0 x1 x2 x3 x4 x5 x6 x7 s0 s1 s2 s3 s4 s5 s6 s7)) := hr4a
 have HR4 : Hid (RowV w4 w3.heap.size 103 (comG ci cj x0 x1 x2 x3 x4 x5 x6 x7 s0 s1 s2 s3 s4 s5 s6 s7)) := hr4
 have HZZ : Hid (w.heap.size + 1 ≤ w1.heap.size ∧ w1.heap.size < w3.heap.size ∧ w3.heap.size < w4.heap.size) := ⟨by omega, by omega, by omega⟩
 clear hz4 hz2 z1 z3 hlt13
 clear hBA hp4a hp4 hf4 HHr HH3 hpb2 hdn2 hdd2 hdc2 HP4f HZ3 hr4a hr4 HD1 HR3
 have HEf : Hid (∀ (a6 : Option Addr) (n6 c6 : Nat) (w6 : World), w6.ownsRow 0 103 18 (.slice a6 n6 c6) (d2.dn + 1) (d2.doneC ++ comG ci cj x0 x1 x2 x3 x4 x5 x6 x7 s0 s1 s2 s3 s4 s5 s6 s7) → Frame (fun k => (Value.slice d2.done.a d2.done.n d2.done.cap).ownBlock = some k) (w4.drew.alloc (.cells (comG ci cj x0 x1 x2 x3 x4 x5 x6 x7 s0 s1 s2 s3 s4 s5 s6 s7).toArray 103)) w6 → ((Value.slice a6 n6 c6).ownBlock = (Value.slice d2.done.a d2.done.n d2.done.cap).ownBlock ∨ (Value.slice a6 n6 c6).ownBlock = some (w4.drew.alloc (.cells (comG ci cj x0 x1 x2 x3 x4 x5 x6 x7 s0 s1 s2 s3 s4 s5 s6 s7).toArray 103)).heap.size) → Hid (ComEnd d w (w6.setCell ⟨d.pb, 2, none⟩ (.slice a6 n6 c6)) w1.heap.size w3.heap.size (comG ci cj x0 x1 x2 x3 x4 x5 x6 x7 s0 s1 s2 s3 s4 s5 s6 s7))) := by
  intro a6 n6 c6 w6 ho6 hf6 hat6
  obtain ⟨y1, y2, y3⟩ := PairAt.pushDone (done' := ⟨a6, n6, c6⟩) (C := comG ci cj x0 x1 x2 x3 x4 x5 x6 x7 s0 s1 s2 s3 s4 s5 s6 s7) HP4a.out ho6 hf6 hat6
  rw [HPB.out] at y1 y2 y3
  obtain ⟨u1, u2, u3, u4, u5, u6, u7, u8⟩ := HHR.out
  obtain ⟨v1, v2, v3⟩ := HZZ.out
  have hfa : Frame d.F w (w4.drew.alloc (.cells (comG ci cj x0 x1 x2 x3 x4 x5 x6 x7 s0 s1 s2 s3 s4 s5 s6 s7).toArray 103)) := (HFR4.out.drew).alloc _
  have hnd : ∀ k, d2.F k → k < w3.heap.size := HP3'.out.lt
  refine ⟨Stepped.mk ⟨y1, u1, u2, u3, u4, u5, u6, u7, u8⟩ ?_ ?_ ?_, ?_, ?_⟩
  ·rfl
  ·exact hfa.into y3 (fun k hk e => HF3.out k e hk)
  ·intro k hk hlt
   exact HF3.out k (y2 k hk (by have := (HP4b.out).size; omega)) hlt
  ·exact (RowV.of_block (RowV.alloc (w := w4.drew) HR4a.out _) (hf6.block _ (RowV.alloc (w := w4.drew) HR4a.out _).lt (fun e => HNB.out (Or.inl (Or.inr e))))).other (by show w1.heap.size ≠ d.pb; omega) _
  ·exact (RowV.of_block (RowV.alloc (w := w4.drew) HR4.out _) (hf6.block _ (RowV.alloc (w := w4.drew) HR4.out _).lt (fun e => by have := hnd _ (Or.inl (Or.inr e)); omega))).other (by show w3.heap.size ≠ d.pb; omega) _
 have hC18 : (comG ci cj x0 x1 x2 x3 x4 x5 x6 x7 s0 s1 s2 s3 s4 s5 s6 s7).length = 18 := rfl
 generalize hCG : comG ci cj x0 x1 x2 x3 x4 x5 x6 x7 s0 s1 s2 s3 s4 s5 s6 s7 = C at *
 have HCG : Hid (comG ci cj x0 x1 x2 x3 x4 x5 x6 x7 s0 s1 s2 s3 s4 s5 s6 s7 = C) := hCG
 clear hCG
 have HSZ : Hid ((Tryz.prog.info? 103).map (·.size) = some C.length) := by unfold Hid; rw [hC18]; exact Tryz.sizeCommit
 have HC18 : Hid (C.length = 18) := hC18
 clear hC18
 have HOW : Hid (w4.ownsRow 0 103 18 d2.done.val d2.dn d2.doneC) := HP4.out.hdone
 have HDN : Hid (d2.dn ≤ 1000) := by have := HHR.out.2.2.2; unfold Hid; omega
 go_cut [] (fun wx => Hid (ComEnd d w wx w1.heap.size w3.heap.size C))
 case first =>
  refine wp_region_any (by kernel_rfl) ?_
  refine push_any (D := 125) (p := 2) (q := 19) ⟨rfl, rfl, rfl, rfl, rfl, rfl, rfl, rfl, rfl, rfl, rfl, by kernel_rfl, by kernel_rfl, by kernel_rfl, by kernel_rfl, by kernel_rfl, by kernel_rfl, by kernel_rfl, by kernel_rfl, by kernel_rfl, by kernel_rfl, by kernel_rfl, by kernel_rfl, by kernel_rfl, by kernel_rfl, by kernel_rfl, by kernel_rfl, by kernel_rfl, by kernel_rfl, by kernel_rfl, by kernel_rfl, by kernel_rfl, by kernel_rfl⟩ ⟨by kernel_rfl, by kernel_rfl, by kernel_rfl, by kernel_rfl, by kernel_rfl, by kernel_rfl, by kernel_rfl, by kernel_rfl, by kernel_rfl, by kernel_rfl, by kernel_rfl, ⟨by kernel_rfl, by kernel_rfl, by kernel_rfl, by kernel_rfl, by kernel_rfl, by kernel_rfl, by kernel_rfl⟩, by kernel_rfl, by kernel_rfl, ⟨by kernel_rfl, by kernel_rfl, by kernel_rfl, by kernel_rfl, by kernel_rfl, by kernel_rfl, by kernel_rfl⟩, by kernel_rfl, ⟨by kernel_rfl, by kernel_rfl, by kernel_rfl, by kernel_rfl, by kernel_rfl, by kernel_rfl, by kernel_rfl⟩⟩ (fun d _ _ _ _ h => by cases d <;> exact h) d.pb 2 d2.done w3.heap.size C HC18.out HL1.out d2.dn d2.doneC HDN.out
   (fun a h => by have h' := h; simp only [Act.eval, Array.getD_eq_getD_getElem?, Nat.reduceAdd] at h'; exact Or.inl ⟨by rfl, fun w => by go_simp⟩) (fun a h => by have h' := h; simp only [Act.eval, Array.getD_eq_getD_getElem?, Nat.reduceAdd] at h'; exact Or.inl ⟨by rfl, fun w => by go_simp⟩) (fun a h => by have h' := h; simp only [Act.eval, Array.getD_eq_getD_getElem?, Nat.reduceAdd] at h'; exact Or.inl ⟨by rfl, fun w => by go_simp⟩) (fun a h => by have h' := h; simp only [Act.eval, Array.getD_eq_getD_getElem?, Nat.reduceAdd] at h'; exact Or.inl ⟨by rfl, fun w => by go_simp⟩) (fun a h => by have h' := h; simp only [Act.eval, Array.getD_eq_getD_getElem?, Nat.reduceAdd] at h'; exact Or.inl ⟨by rfl, fun w => by go_simp⟩) (fun a h => by have h' := h; simp only [Act.eval, Array.getD_eq_getD_getElem?, Nat.reduceAdd] at h'; exact Or.inl ⟨by rfl, fun w => by go_simp⟩)
   _ w4.drew (Nat.le_of_ble_eq_true (by kernel_rfl)) (by decide) (by decide) (by kernel_rfl) (by kernel_rfl) HR4.out HQ4.out g2 HOW.out (fun w6 hf => ⟨_, RowV.cellK (HR6.out _ hf) 2 _ rfl, RowV.frozen (HR6.out _ hf) 2⟩) ?_
  intro a6 n6 c6 w6 ho6 hf6 hat6
  have HE6 := HEf.out _ _ _ _ ho6 hf6 hat6
  clear ho6 hf6 hat6
  unfold finA
  simp only [Act.put, List.setIfInBounds_toArray, List.set_cons_succ, List.set_cons_zero, Nat.reduceAdd]
  go_wp2_with fail
  go_meet
  exact HE6
 case rest =>
  have hCG := HCG.out
  subst hCG
  have hE := hcut.out
  have HST : Hid (Stepped d w wc) := hE.st
  have a0 : wc.cell? ⟨w1.heap.size, 0, none⟩ = some (.int .i64 ci) := RowV.cellK hE.one 0 _ rfl
  have a1 : wc.cell? ⟨w1.heap.size, 1, none⟩ = some (.int .u8 (x0.toNat : Int)) := RowV.cellK hE.one 1 _ rfl
  have a2 : wc.cell? ⟨w1.heap.size, 2, none⟩ = some (.int .u8 (x1.toNat : Int)) := RowV.cellK hE.one 2 _ rfl
  have a3 : wc.cell? ⟨w1.heap.size, 3, none⟩ = some (.int .u8 (x2.toNat : Int)) := RowV.cellK hE.one 3 _ rfl
  have a4 : wc.cell? ⟨w1.heap.size, 4, none⟩ = some (.int .u8 (x3.toNat : Int)) := RowV.cellK hE.one 4 _ rfl
  have a5 : wc.cell? ⟨w1.heap.size, 5, none⟩ = some (.int .u8 (x4.toNat : Int)) := RowV.cellK hE.one 5 _ rfl
  have a6 : wc.cell? ⟨w1.heap.size, 6, none⟩ = some (.int .u8 (x5.toNat : Int)) := RowV.cellK hE.one 6 _ rfl
  have a7 : wc.cell? ⟨w1.heap.size, 7, none⟩ = some (.int .u8 (x6.toNat : Int)) := RowV.cellK hE.one 7 _ rfl
  have a8 : wc.cell? ⟨w1.heap.size, 8, none⟩ = some (.int .u8 (x7.toNat : Int)) := RowV.cellK hE.one 8 _ rfl
  have a9 : wc.cell? ⟨w1.heap.size, 9, none⟩ = some (.int .i64 cj) := RowV.cellK hE.one 9 _ rfl
  have a10 : wc.cell? ⟨w1.heap.size, 10, none⟩ = some (.int .u8 (s0.toNat : Int)) := RowV.cellK hE.one 10 _ rfl
  have a11 : wc.cell? ⟨w1.heap.size, 11, none⟩ = some (.int .u8 (s1.toNat : Int)) := RowV.cellK hE.one 11 _ rfl
  have a12 : wc.cell? ⟨w1.heap.size, 12, none⟩ = some (.int .u8 (s2.toNat : Int)) := RowV.cellK hE.one 12 _ rfl
  have a13 : wc.cell? ⟨w1.heap.size, 13, none⟩ = some (.int .u8 (s3.toNat : Int)) := RowV.cellK hE.one 13 _ rfl
  have a14 : wc.cell? ⟨w1.heap.size, 14, none⟩ = some (.int .u8 (s4.toNat : Int)) := RowV.cellK hE.one 14 _ rfl
  have a15 : wc.cell? ⟨w1.heap.size, 15, none⟩ = some (.int .u8 (s5.toNat : Int)) := RowV.cellK hE.one 15 _ rfl
  have a16 : wc.cell? ⟨w1.heap.size, 16, none⟩ = some (.int .u8 (s6.toNat : Int)) := RowV.cellK hE.one 16 _ rfl
  have a17 : wc.cell? ⟨w1.heap.size, 17, none⟩ = some (.int .u8 (s7.toNat : Int)) := RowV.cellK hE.one 17 _ rfl
  have b0 : wc.cell? ⟨w3.heap.size, 0, none⟩ = some (.int .i64 ci) := RowV.cellK hE.two 0 _ rfl
  have b1 : wc.cell? ⟨w3.heap.size, 1, none⟩ = some (.int .u8 (x0.toNat : Int)) := RowV.cellK hE.two 1 _ rfl
  have b2 : wc.cell? ⟨w3.heap.size, 2, none⟩ = some (.int .u8 (x1.toNat : Int)) := RowV.cellK hE.two 2 _ rfl
  have b3 : wc.cell? ⟨w3.heap.size, 3, none⟩ = some (.int .u8 (x2.toNat : Int)) := RowV.cellK hE.two 3 _ rfl
  have b4 : wc.cell? ⟨w3.heap.size, 4, none⟩ = some (.int .u8 (x3.toNat : Int)) := RowV.cellK hE.two 4 _ rfl
  have b5 : wc.cell? ⟨w3.heap.size, 5, none⟩ = some (.int .u8 (x4.toNat : Int)) := RowV.cellK hE.two 5 _ rfl
  have b6 : wc.cell? ⟨w3.heap.size, 6, none⟩ = some (.int .u8 (x5.toNat : Int)) := RowV.cellK hE.two 6 _ rfl
  have b7 : wc.cell? ⟨w3.heap.size, 7, none⟩ = some (.int .u8 (x6.toNat : Int)) := RowV.cellK hE.two 7 _ rfl
  have b8 : wc.cell? ⟨w3.heap.size, 8, none⟩ = some (.int .u8 (x7.toNat : Int)) := RowV.cellK hE.two 8 _ rfl
  have b9 : wc.cell? ⟨w3.heap.size, 9, none⟩ = some (.int .i64 cj) := RowV.cellK hE.two 9 _ rfl
  have b10 : wc.cell? ⟨w3.heap.size, 10, none⟩ = some (.int .u8 (s0.toNat : Int)) := RowV.cellK hE.two 10 _ rfl
  have b11 : wc.cell? ⟨w3.heap.size, 11, none⟩ = some (.int .u8 (s1.toNat : Int)) := RowV.cellK hE.two 11 _ rfl
  have b12 : wc.cell? ⟨w3.heap.size, 12, none⟩ = some (.int .u8 (s2.toNat : Int)) := RowV.cellK hE.two 12 _ rfl
  have b13 : wc.cell? ⟨w3.heap.size, 13, none⟩ = some (.int .u8 (s3.toNat : Int)) := RowV.cellK hE.two 13 _ rfl
  have b14 : wc.cell? ⟨w3.heap.size, 14, none⟩ = some (.int .u8 (s4.toNat : Int)) := RowV.cellK hE.two 14 _ rfl
  have b15 : wc.cell? ⟨w3.heap.size, 15, none⟩ = some (.int .u8 (s5.toNat : Int)) := RowV.cellK hE.two 15 _ rfl
  have b16 : wc.cell? ⟨w3.heap.size, 16, none⟩ = some (.int .u8 (s6.toNat : Int)) := RowV.cellK hE.two 16 _ rfl
  have b17 : wc.cell? ⟨w3.heap.size, 17, none⟩ = some (.int .u8 (s7.toNat : Int)) := RowV.cellK hE.two 17 _ rfl
  have hex : ∀ w, (Op.equalIn 10000 36 (Value.agg #[.int .u8 (x0.toNat : Int), .int .u8 (x1.toNat : Int), .int .u8 (x2.toNat : Int), .int .u8 (x3.toNat : Int), .int .u8 (x4.toNat : Int), .int .u8 (x5.toNat : Int), .int .u8 (x6.toNat : Int), .int .u8 (x7.toNat : Int)]) (Value.agg #[.int .u8 (x0.toNat : Int), .int .u8 (x1.toNat : Int), .int .u8 (x2.toNat : Int), .int .u8 (x3.toNat : Int), .int .u8 (x4.toNat : Int), .int .u8 (x5.toNat : Int), .int .u8 (x6.toNat : Int), .int .u8 (x7.toNat : Int)])).run Tryz.prog w = .ok true w := fun w => by
   have h := run_equalIn_bytes (P := Tryz.prog) w 9998 36 5 8 Tryz.underlying36 Tryz.underlying5 Tryz.sizeU8 [x0, x1, x2, x3, x4, x5, x6, x7] [x0, x1, x2, x3, x4, x5, x6, x7] rfl rfl
   rw [beq_self_eq_true] at h
   exact h
  have hes : ∀ w, (Op.equalIn 10000 36 (Value.agg #[.int .u8 (s0.toNat : Int), .int .u8 (s1.toNat : Int), .int .u8 (s2.toNat : Int), .int .u8 (s3.toNat : Int), .int .u8 (s4.toNat : Int), .int .u8 (s5.toNat : Int), .int .u8 (s6.toNat : Int), .int .u8 (s7.toNat : Int)]) (Value.agg #[.int .u8 (s0.toNat : Int), .int .u8 (s1.toNat : Int), .int .u8 (s2.toNat : Int), .int .u8 (s3.toNat : Int), .int .u8 (s4.toNat : Int), .int .u8 (s5.toNat : Int), .int .u8 (s6.toNat : Int), .int .u8 (s7.toNat : Int)])).run Tryz.prog w = .ok true w := fun w => by
   have h := run_equalIn_bytes (P := Tryz.prog) w 9998 36 5 8 Tryz.underlying36 Tryz.underlying5 Tryz.sizeU8 [s0, s1, s2, s3, s4, s5, s6, s7] [s0, s1, s2, s3, s4, s5, s6, s7] rfl rfl
   rw [beq_self_eq_true] at h
   exact h
  have z13 : w1.heap.size < wc.heap.size := hE.one.lt
  have z33 : w3.heap.size < wc.heap.size := hE.two.lt
  clear hE hcut HO HS HP4a HP4 HR6 HHR HR4a HR4 q2 HRG HQA HQ4 HP4b
  go_wp2
  go_ret
  exact ⟨rfl, HST.out⟩
end Go.Proofs.YtekegfbjbainhaaGreat


namespace Go.Proofs.YtekegfbjbainhaaGreat
open Go.RowKit
set_option maxRecDepth 100000 in
set_option maxHeartbeats 4000000 in
theorem stored_com_full (d : PairD) (cs : List Value) (p : Value) (w : World) (h : PairOk w d) (k0 : cs[0]? = some (.int .i64 5)) (h40 : d.tds.length = 40) :
  Calls Tryz.prog 21 #[p, .agg cs.toArray, .pointer (some ⟨d.pb, 0, none⟩)] w fun e w' => e = .returned (.bool true) ∧ Stepped d w w' := by
 have HA : Hid (Below w.heap.size w (w.alloc (.cells cs.toArray 43))) := (Below.refl _ _).alloc (Nat.le_refl _) _
 have hpb : d.pb < w.heap.size := RowV.lt h.lay.row
 have r0 : w.cell? ⟨d.pb, 0, none⟩ = some (.pointer (some ⟨d.sb, 0, none⟩)) := RowV.cell h.lay.row 0 (by simp)
 have HP0 := h.lay.below HA.out
 have HCM : Hid (Calls _ _ _ _ _) := commit_full d.sb d.N d.en d.tr d.mp d.es d.xs d.its d.tds _ HP0.sto h40
 go_enter Tryz.func21, Tryz.ntmps21
 go_wp2_with fail
 refine HCM.out.mono ?_
 rintro e w1 ⟨rfl, hb1⟩
 have HB1 : Hid (Below w.heap.size w w1) := HA.out.trans (hb1.mono (by simp))
 have z1 := hb1.size
 simp only [World.size_alloc] at z1
 have HZ1 : Hid (RowV (w1.alloc (.cells #[.int .i64 0, .int .u8 0, .int .u8 0, .int .u8 0, .int .u8 0, .int .u8 0, .int .u8 0, .int .u8 0, .int .u8 0, .int .i64 0, .int .u8 0, .int .u8 0, .int .u8 0, .int .u8 0, .int .u8 0, .int .u8 0, .int .u8 0, .int .u8 0] 103)) w1.heap.size 103 zero18) := RowV.new w1 _ _
 have HB2f : Hid (∀ w2, Frame (fun k => k = w1.heap.size) (w1.alloc (.cells #[.int .i64 0, .int .u8 0, .int .u8 0, .int .u8 0, .int .u8 0, .int .u8 0, .int .u8 0, .int .u8 0, .int .u8 0, .int .i64 0, .int .u8 0, .int .u8 0, .int .u8 0, .int .u8 0, .int .u8 0, .int .u8 0, .int .u8 0, .int .u8 0] 103)) w2 → Below w.heap.size w w2) := fun w2 hf =>
  (HB1.out.alloc (by omega) _).trans (hf.below (by simp; omega) (fun k hk => by omega))
 have HR1 : Hid (∀ W, Below w.heap.size w W → W.cell? ⟨d.pb, 1, none⟩ = some (.pointer (some ⟨d.rb, 0, none⟩))) := fun W hb => RowV.cellK (h.lay.below hb).row 1 _ rfl
 clear hb1 HP0 r0 HCM
 go_wp2_with (refine wp_storeR (by rfl) 103 (.tmp 17) (.tmp 113) (by rfl) w1.heap.size (by rfl) zero18 (by rfl) HZ1.out rfl Tryz.sizeCommit zero18_one ?_; intro w2 hr2 hf2 hz2; have hb2 := HB2f.out _ hf2; have r1 : w2.cell? ⟨d.pb, 1, none⟩ = some (.pointer (some ⟨d.rb, 0, none⟩)) := HR1.out _ hb2)
 simp only [World.size_alloc] at hz2
 refine (refCommit_full d.rb 0 d.now d.past d.roots d.nl d.pastL d.rl w2 (h.lay.below hb2).ref (by rw [h.rl]; simpa using h40)).mono ?_
 rintro e w3 ⟨rfl, hb3⟩
 have z3 := hb3.size
 have hr3 := hr2.below hr2.lt hb3
 have HB3 : Hid (Below w.heap.size w w3) := hb2.trans (hb3.mono (by omega))
 have HZ3 : Hid (RowV (w3.alloc (.cells #[.int .i64 0, .int .u8 0, .int .u8 0, .int .u8 0, .int .u8 0, .int .u8 0, .int .u8 0, .int .u8 0, .int .u8 0, .int .i64 0, .int .u8 0, .int .u8 0, .int .u8 0, .int .u8 0, .int .u8 0, .int .u8 0, .int .u8 0, .int .u8 0] 103)) w3.heap.size 103 zero18) := RowV.new w3 _ _
 have HR3 : Hid (RowV w3 w1.heap.size 103 zero18) := hr3
 have HZZ : Hid (w.heap.size + 1 ≤ w1.heap.size ∧ w1.heap.size < w3.heap.size) := ⟨by omega, by omega⟩
 clear hb3 hr2 hf2 hz2 hb2 r1 HB2f HR1 HZ1 hr3 z1 z3
 go_upto_region 20 with (refine wp_storeR (by rfl) 103 (.tmp 19) (.tmp 121) (by rfl) w3.heap.size (by rfl) zero18 (by rfl) HZ3.out rfl Tryz.sizeCommit zero18_one ?_; intro w4 hr4 hf4 hz4)
 simp only [World.size_alloc] at hz4
 obtain ⟨v1, v2⟩ := HZZ.out
 have hr4a : RowV w4 w1.heap.size 103 zero18 := (RowV.alloc (w := w3) HR3.out _).of_block (hf4.block _ (by simp; omega) (by omega))
 have HB4 : Hid (Below w.heap.size w w4) := (HB3.out.alloc (by omega) _).trans (hf4.below (by simp; omega) (fun k hk => by omega))
 have HST : Hid (Stepped d w w4) := Stepped.mk ⟨h.lay.below HB4.out, h.nl, h.rl, h.pl, h.dl, h.t40, h.cnt, h.pst, h.dc⟩ rfl (Frame.of_below_all HB4.out) (fun k hk _ => hk)
 have a0 : w4.cell? ⟨w1.heap.size, 0, none⟩ = some (.int .i64 0) := RowV.cellK hr4a 0 _ rfl
 have a1 : w4.cell? ⟨w1.heap.size, 1, none⟩ = some (.int .u8 0) := RowV.cellK hr4a 1 _ rfl
 have a2 : w4.cell? ⟨w1.heap.size, 2, none⟩ = some (.int .u8 0) := RowV.cellK hr4a 2 _ rfl
 have a3 : w4.cell? ⟨w1.heap.size, 3, none⟩ = some (.int .u8 0) := RowV.cellK hr4a 3 _ rfl
 have a4 : w4.cell? ⟨w1.heap.size, 4, none⟩ = some (.int .u8 0) := RowV.cellK hr4a 4 _ rfl
 have a5 : w4.cell? ⟨w1.heap.size, 5, none⟩ = some (.int .u8 0) := RowV.cellK hr4a 5 _ rfl
 have a6 : w4.cell? ⟨w1.heap.size, 6, none⟩ = some (.int .u8 0) := RowV.cellK hr4a 6 _ rfl
 have a7 : w4.cell? ⟨w1.heap.size, 7, none⟩ = some (.int .u8 0) := RowV.cellK hr4a 7 _ rfl
 have a8 : w4.cell? ⟨w1.heap.size, 8, none⟩ = some (.int .u8 0) := RowV.cellK hr4a 8 _ rfl
 have a9 : w4.cell? ⟨w1.heap.size, 9, none⟩ = some (.int .i64 0) := RowV.cellK hr4a 9 _ rfl
 have a10 : w4.cell? ⟨w1.heap.size, 10, none⟩ = some (.int .u8 0) := RowV.cellK hr4a 10 _ rfl
 have a11 : w4.cell? ⟨w1.heap.size, 11, none⟩ = some (.int .u8 0) := RowV.cellK hr4a 11 _ rfl
 have a12 : w4.cell? ⟨w1.heap.size, 12, none⟩ = some (.int .u8 0) := RowV.cellK hr4a 12 _ rfl
 have a13 : w4.cell? ⟨w1.heap.size, 13, none⟩ = some (.int .u8 0) := RowV.cellK hr4a 13 _ rfl
 have a14 : w4.cell? ⟨w1.heap.size, 14, none⟩ = some (.int .u8 0) := RowV.cellK hr4a 14 _ rfl
 have a15 : w4.cell? ⟨w1.heap.size, 15, none⟩ = some (.int .u8 0) := RowV.cellK hr4a 15 _ rfl
 have a16 : w4.cell? ⟨w1.heap.size, 16, none⟩ = some (.int .u8 0) := RowV.cellK hr4a 16 _ rfl
 have a17 : w4.cell? ⟨w1.heap.size, 17, none⟩ = some (.int .u8 0) := RowV.cellK hr4a 17 _ rfl
 have b0 : w4.cell? ⟨w3.heap.size, 0, none⟩ = some (.int .i64 0) := RowV.cellK hr4 0 _ rfl
 have b1 : w4.cell? ⟨w3.heap.size, 1, none⟩ = some (.int .u8 0) := RowV.cellK hr4 1 _ rfl
 have b2 : w4.cell? ⟨w3.heap.size, 2, none⟩ = some (.int .u8 0) := RowV.cellK hr4 2 _ rfl
 have b3 : w4.cell? ⟨w3.heap.size, 3, none⟩ = some (.int .u8 0) := RowV.cellK hr4 3 _ rfl
 have b4 : w4.cell? ⟨w3.heap.size, 4, none⟩ = some (.int .u8 0) := RowV.cellK hr4 4 _ rfl
 have b5 : w4.cell? ⟨w3.heap.size, 5, none⟩ = some (.int .u8 0) := RowV.cellK hr4 5 _ rfl
 have b6 : w4.cell? ⟨w3.heap.size, 6, none⟩ = some (.int .u8 0) := RowV.cellK hr4 6 _ rfl
 have b7 : w4.cell? ⟨w3.heap.size, 7, none⟩ = some (.int .u8 0) := RowV.cellK hr4 7 _ rfl
 have b8 : w4.cell? ⟨w3.heap.size, 8, none⟩ = some (.int .u8 0) := RowV.cellK hr4 8 _ rfl
 have b9 : w4.cell? ⟨w3.heap.size, 9, none⟩ = some (.int .i64 0) := RowV.cellK hr4 9 _ rfl
 have b10 : w4.cell? ⟨w3.heap.size, 10, none⟩ = some (.int .u8 0) := RowV.cellK hr4 10 _ rfl
 have b11 : w4.cell? ⟨w3.heap.size, 11, none⟩ = some (.int .u8 0) := RowV.cellK hr4 11 _ rfl
 have b12 : w4.cell? ⟨w3.heap.size, 12, none⟩ = some (.int .u8 0) := RowV.cellK hr4 12 _ rfl
 have b13 : w4.cell? ⟨w3.heap.size, 13, none⟩ = some (.int .u8 0) := RowV.cellK hr4 13 _ rfl
 have b14 : w4.cell? ⟨w3.heap.size, 14, none⟩ = some (.int .u8 0) := RowV.cellK hr4 14 _ rfl
 have b15 : w4.cell? ⟨w3.heap.size, 15, none⟩ = some (.int .u8 0) := RowV.cellK hr4 15 _ rfl
 have b16 : w4.cell? ⟨w3.heap.size, 16, none⟩ = some (.int .u8 0) := RowV.cellK hr4 16 _ rfl
 have b17 : w4.cell? ⟨w3.heap.size, 17, none⟩ = some (.int .u8 0) := RowV.cellK hr4 17 _ rfl
 have hez : ∀ w, (Op.equalIn 10000 36 (Value.agg #[.int .u8 0, .int .u8 0, .int .u8 0, .int .u8 0, .int .u8 0, .int .u8 0, .int .u8 0, .int .u8 0]) (Value.agg #[.int .u8 0, .int .u8 0, .int .u8 0, .int .u8 0, .int .u8 0, .int .u8 0, .int .u8 0, .int .u8 0])).run Tryz.prog w = .ok true w := fun w => by
  have h := run_equalIn_bytes (P := Tryz.prog) w 9998 36 5 8 Tryz.underlying36 Tryz.underlying5 Tryz.sizeU8 [0, 0, 0, 0, 0, 0, 0, 0] [0, 0, 0, 0, 0, 0, 0, 0] rfl rfl
  rw [beq_self_eq_true] at h
  exact h
 have z13 : w1.heap.size < w4.heap.size := by omega
 have z33 : w3.heap.size < w4.heap.size := by omega
 clear hr4 hr4a hf4 hz4 v1 v2
 go_wp2
 go_ret
 exact ⟨rfl, HST.out⟩
end Go.Proofs.YtekegfbjbainhaaGreat


namespace Go.Proofs.YtekegfbjbainhaaGreat
open Go.ChangeShapes Go.WideShapes Go.ChangeAt Go.RowKit Go.Deep
theorem Tryz.cells40 : Tryz.prog.cellsOf 43 = 24 := by kernel_rfl
theorem Tryz.cellsInt : Tryz.prog.cellsOf 3 = 1 := by kernel_rfl
theorem Tryz.cellsStr : Tryz.prog.cellsOf 9 = 1 := by kernel_rfl
theorem Tryz.cellsU8R : Tryz.prog.cellsOf 5 = 1 := by kernel_rfl
theorem Tryz.cellsDigR : Tryz.prog.cellsOf 36 = 8 := by kernel_rfl
theorem Tryz.cellsPath : Tryz.prog.cellsOf 41 = 1 := by kernel_rfl
theorem list24 {α : Type} (l : List α) (h : l.length = 24) : ∃ c0 c1 c2 c3 c4 c5 c6 c7 c8 c9 c10 c11 c12 c13 c14 c15 c16 c17 c18 c19 c20 c21 c22 c23, l = [c0, c1, c2, c3, c4, c5, c6, c7, c8, c9, c10, c11, c12, c13, c14, c15, c16, c17, c18, c19, c20, c21, c22, c23] := by
 match l, h with
 | [c0, c1, c2, c3, c4, c5, c6, c7, c8, c9, c10, c11, c12, c13, c14, c15, c16, c17, c18, c19, c20, c21, c22, c23], _ => exact ⟨c0, c1, c2, c3, c4, c5, c6, c7, c8, c9, c10, c11, c12, c13, c14, c15, c16, c17, c18, c19, c20, c21, c22, c23, rfl⟩
theorem list10 {α : Type} (l : List α) (h : l.length = 10) : ∃ y0 y1 y2 y3 y4 y5 y6 y7 y8 y9, l = [y0, y1, y2, y3, y4, y5, y6, y7, y8, y9] := by
 match l, h with
 | [y0, y1, y2, y3, y4, y5, y6, y7, y8, y9], _ => exact ⟨y0, y1, y2, y3, y4, y5, y6, y7, y8, y9, rfl⟩
section
variable {H : Type} {enc : TypeId × Value → H} {w : World} {base : Nat} {sp : Nat → Bool} {held : Bool} {fuel : Nat}
theorem u8_of {n : Int} (h : (Lit.int .u8 n).wf = true) : Value.int .u8 n = .int .u8 ((UInt8.ofNat n.toNat).toNat : Int) := by
 have hb := bounds_u8 h
 rw [UInt8.toNat_ofNat_of_lt' (by show n.toNat < 256; omega)]
 congr 1; omega
theorem open_dig {cs : List Value} {x : DataW H × List MemPlace} (h : DataW.trod enc Tryz.prog w base sp held fuel 36 cs = some x) :
  ∃ d : List UInt8, d.length = 8 ∧ cs = d.map u8c := by
 obtain ⟨xs, m, rfl, rfl, hl, hx, hf⟩ := DataW.trod_array Tryz.underlying36 h
 rw [Tryz.cellsDigR] at hl
 rw [Tryz.cellsU8R] at hf
 refine ⟨cs.map (fun v => UInt8.ofNat (intOf v).toNat), by simp [hl], ?_⟩
 rw [List.map_map]
 conv => lhs; rw [← List.map_id cs]
 apply List.map_congr_left
 intro v hv
 obtain ⟨i, hi, rfl⟩ := List.getElem_of_mem hv
 have h1 := hf i (by omega)
 rw [List.getElem?_eq_getElem (by omega)] at h1
 rw [Nat.mul_one] at h1
 have e1 : (cs.drop i).take 1 = [cs[i]] := by
  rw [List.drop_eq_getElem_cons hi]; rfl
 rw [e1] at h1
 obtain ⟨n, hn, _, hwf⟩ := DataW.trod_int Tryz.underlying5 h1
 have hn' : cs[i] = .int .u8 n := by simpa using hn
 rw [hn']
 exact u8_of hwf
theorem u8at_map (d : List UInt8) (hd : d.length = 8) : d.map u8c = [u8at d 0, u8at d 1, u8at d 2, u8at d 3, u8at d 4, u8at d 5, u8at d 6, u8at d 7] := by
 obtain ⟨z0, z1, z2, z3, z4, z5, z6, z7, rfl⟩ := list8 d hd
 rfl
theorem open_op {cs : List Value} {x : DataW H × List MemPlace} (h : DataW.trod enc Tryz.prog w base sp held fuel 43 cs = some x) :
  ∃ (o : OpR) (dD dE dP : DataW H) (m : Nat) (pP : List MemPlace), cs = o.cells ∧
   x.1 = .agg [.lit (.int .i64 o.kind), .lit (.int .i64 o.a), .lit (.int .i64 o.b), .lit (.int .i64 o.c), .lit (.string o.s.data.toList), .lit (.string o.t.data.toList), .lit (.string o.u.data.toList), dD, dE, dP] ∧
   (Lit.int .i64 o.kind).wf = true ∧ (Lit.int .i64 o.a).wf = true ∧ (Lit.int .i64 o.b).wf = true ∧ (Lit.int .i64 o.c).wf = true ∧ o.d.length = 8 ∧ o.e.length = 8 ∧
   DataW.trod enc Tryz.prog w base sp held m 41 [o.path] = some (dP, pP) := by
 obtain ⟨xs, m, rfl, rfl, hl, hx, hf⟩ := DataW.trod_struct Tryz.underlying43 h
 rw [Tryz.cells40] at hl
 obtain ⟨c0, c1, c2, c3, c4, c5, c6, c7, c8, c9, c10, c11, c12, c13, c14, c15, c16, c17, c18, c19, c20, c21, c22, c23, rfl⟩ := list24 cs hl
 obtain ⟨y0, y1, y2, y3, y4, y5, y6, y7, y8, y9, rfl⟩ := list10 xs hx
 have f0 : DataW.trod enc Tryz.prog w base sp held m 3 (List.take (Tryz.prog.cellsOf 3) (List.drop 0 [c0, c1, c2, c3, c4, c5, c6, c7, c8, c9, c10, c11, c12, c13, c14, c15, c16, c17, c18, c19, c20, c21, c22, c23])) = some y0 := hf 0 _ rfl
 have f1 : DataW.trod enc Tryz.prog w base sp held m 3 (List.take (Tryz.prog.cellsOf 3) (List.drop 1 [c0, c1, c2, c3, c4, c5, c6, c7, c8, c9, c10, c11, c12, c13, c14, c15, c16, c17, c18, c19, c20, c21, c22, c23])) = some y1 := hf 1 _ rfl
 have f2 : DataW.trod enc Tryz.prog w base sp held m 3 (List.take (Tryz.prog.cellsOf 3) (List.drop 2 [c0, c1, c2, c3, c4, c5, c6, c7, c8, c9, c10, c11, c12, c13, c14, c15, c16, c17, c18, c19, c20, c21, c22, c23])) = some y2 := hf 2 _ rfl
 have f3 : DataW.trod enc Tryz.prog w base sp held m 3 (List.take (Tryz.prog.cellsOf 3) (List.drop 3 [c0, c1, c2, c3, c4, c5, c6, c7, c8, c9, c10, c11, c12, c13, c14, c15, c16, c17, c18, c19, c20, c21, c22, c23])) = some y3 := hf 3 _ rfl
 have f4 : DataW.trod enc Tryz.prog w base sp held m 9 (List.take (Tryz.prog.cellsOf 9) (List.drop 4 [c0, c1, c2, c3, c4, c5, c6, c7, c8, c9, c10, c11, c12, c13, c14, c15, c16, c17, c18, c19, c20, c21, c22, c23])) = some y4 := hf 4 _ rfl
 have f5 : DataW.trod enc Tryz.prog w base sp held m 9 (List.take (Tryz.prog.cellsOf 9) (List.drop 5 [c0, c1, c2, c3, c4, c5, c6, c7, c8, c9, c10, c11, c12, c13, c14, c15, c16, c17, c18, c19, c20, c21, c22, c23])) = some y5 := hf 5 _ rfl
 have f6 : DataW.trod enc Tryz.prog w base sp held m 9 (List.take (Tryz.prog.cellsOf 9) (List.drop 6 [c0, c1, c2, c3, c4, c5, c6, c7, c8, c9, c10, c11, c12, c13, c14, c15, c16, c17, c18, c19, c20, c21, c22, c23])) = some y6 := hf 6 _ rfl
 have f7 : DataW.trod enc Tryz.prog w base sp held m 36 (List.take (Tryz.prog.cellsOf 36) (List.drop 7 [c0, c1, c2, c3, c4, c5, c6, c7, c8, c9, c10, c11, c12, c13, c14, c15, c16, c17, c18, c19, c20, c21, c22, c23])) = some y7 := hf 7 _ rfl
 have f8 : DataW.trod enc Tryz.prog w base sp held m 36 (List.take (Tryz.prog.cellsOf 36) (List.drop 15 [c0, c1, c2, c3, c4, c5, c6, c7, c8, c9, c10, c11, c12, c13, c14, c15, c16, c17, c18, c19, c20, c21, c22, c23])) = some y8 := hf 8 _ rfl
 have f9 : DataW.trod enc Tryz.prog w base sp held m 41 (List.take (Tryz.prog.cellsOf 41) (List.drop 23 [c0, c1, c2, c3, c4, c5, c6, c7, c8, c9, c10, c11, c12, c13, c14, c15, c16, c17, c18, c19, c20, c21, c22, c23])) = some y9 := hf 9 _ rfl
 clear hf
 rw [Tryz.cellsInt] at f0 f1 f2 f3
 rw [Tryz.cellsStr] at f4 f5 f6
 rw [Tryz.cellsDigR] at f7 f8
 rw [Tryz.cellsPath] at f9
 obtain ⟨n0, e0, g0, w0⟩ := DataW.trod_int Tryz.underlying3 f0
 obtain ⟨n1, e1, g1, w1⟩ := DataW.trod_int Tryz.underlying3 f1
 obtain ⟨n2, e2, g2, w2⟩ := DataW.trod_int Tryz.underlying3 f2
 obtain ⟨n3, e3, g3, w3⟩ := DataW.trod_int Tryz.underlying3 f3
 obtain ⟨s4, e4, g4, w4⟩ := DataW.trod_string Tryz.underlying9 f4
 obtain ⟨s5, e5, g5, w5⟩ := DataW.trod_string Tryz.underlying9 f5
 obtain ⟨s6, e6, g6, w6⟩ := DataW.trod_string Tryz.underlying9 f6
 obtain ⟨d, hd, e7⟩ := open_dig f7
 obtain ⟨e, he, e8⟩ := open_dig f8
 rw [u8at_map d hd] at e7
 rw [u8at_map e he] at e8
 simp only [List.drop_zero, List.drop_succ_cons, List.take_succ_cons, List.take_zero, List.cons.injEq, and_true] at e0 e1 e2 e3 e4 e5 e6 e7 e8 f9
 subst e0 e1 e2 e3 e4 e5 e6 g0 g1 g2 g3 g4 g5 g6
 obtain ⟨rfl, rfl, rfl, rfl, rfl, rfl, rfl, rfl⟩ := e7
 obtain ⟨rfl, rfl, rfl, rfl, rfl, rfl, rfl, rfl⟩ := e8
 exact ⟨⟨n0, n1, n2, n3, s4, s5, s6, d, e, c23⟩, y7.1, y8.1, y9.1, m, y9.2, rfl, rfl, w0, w1, w2, w3, hd, he, f9⟩
theorem weightsAll_in {P : Program} {e : TypeId} : ∀ {l : List (DataW H)} {d : DataW H}, d ∈ l → ∀ n ∈ d.weights P e, n ∈ DataW.weightsAll P e l
 | d' :: r, d, hd, n, hn => by
  simp only [DataW.weightsAll, List.mem_append]
  rcases List.mem_cons.1 hd with rfl | h
  ·exact Or.inl hn
  ·exact Or.inr (weightsAll_in h n hn)
theorem cell_lt {W : World} {b o : Nat} {v : Value} (h : W.cell? ⟨b, o, none⟩ = some v) : b < W.heap.size := by
 unfold World.cell? at h
 cases hx : W.heap[b]? with
 | none => simp [hx] at h
 | some c => exact (Array.getElem?_eq_some_iff.1 hx).1
def OpOk (enc : TypeId × Value → H) (W : World) (o : OpR) : Prop :=
 (Lit.int .i64 o.kind).wf = true ∧ (Lit.int .i64 o.a).wf = true ∧ (Lit.int .i64 o.b).wf = true ∧ (Lit.int .i64 o.c).wf = true ∧ o.d.length = 8 ∧ o.e.length = 8 ∧
 ∃ (m : Nat) (d : DataW H) (p : List MemPlace), DataW.trod enc Tryz.prog W 0 (fun _ => true) true m 41 [o.path] = some (d, p) ∧ ∀ n ∈ d.weights Tryz.prog 41, n ≤ reachBytes
set_option maxRecDepth 100000 in
theorem open_script {W : World} {a0 : Option Addr} {len cap : Nat} {d0 : DataW H} {p : List MemPlace} (h : DataW.trod enc Tryz.prog W 0 (fun _ => true) true fuel 22 [.slice a0 len cap] = some (d0, p))
  (hsz : ∀ n ∈ d0.weights Tryz.prog 22, n ≤ reachBytes) :
  ∃ f : Nat → OpR, ScriptAt W a0 len f ∧ len ≤ maxLen ∧ ∀ i, i < len → OpOk enc W (f i) := by
 rcases open_slice Tryz.underlying22 h with ⟨hcs, _⟩ | ⟨a, len', cap', m, n, D, Pl, hcs, _, hl, hmx, hm, hx, hel⟩
 ·simp only [List.cons.injEq, Value.slice.injEq, and_true] at hcs
  obtain ⟨rfl, rfl, rfl⟩ := hcs
  exact ⟨fun _ => ⟨0, 0, 0, 0, ⟨#[]⟩, ⟨#[]⟩, ⟨#[]⟩, [], [], .slice none 0 0⟩, fun i hi => absurd hi (Nat.not_lt_zero _), Nat.zero_le _, fun i hi => absurd hi (Nat.not_lt_zero _)⟩
 simp only [List.cons.injEq, Value.slice.injEq, and_true] at hcs
 obtain ⟨rfl, rfl, rfl⟩ := hcs
 simp only [Prod.mk.injEq] at hx
 obtain ⟨rfl, rfl⟩ := hx
 rw [Tryz.cells40] at hel
 have hone : ∀ i, i < len → ∃ o : OpR, (∃ b k, a = ⟨b, k, none⟩ ∧ b < W.heap.size ∧ W.rangeAt b (k + i * 24) o.cells) ∧ o.s.size ≤ 140737488351232 ∧ o.t.size ≤ 140737488351232 ∧ o.u.size ≤ 140737488351232 ∧ OpOk enc W o := by
  intro i hi
  obtain ⟨cs', hc, ht⟩ := hel i (by rw [hm]; simp; omega)
  obtain ⟨o, dD, dE, dP, m', pP, rfl, hd, wk, wa, wb, wc, hld, hle, hp⟩ := open_op ht
  have hin : ∀ x ∈ (D i).weights Tryz.prog 43, x ≤ reachBytes := fun x hx => by
   refine hsz x ?_
   simp only [DataW.weights, Tryz.underlying22, List.mem_cons, List.mem_append]
   exact Or.inr (Or.inl (weightsAll_in (List.mem_map.2 ⟨i, List.mem_range.2 hi, rfl⟩) x hx))
  simp only at hd
  rw [hd] at hin
  simp only [DataW.weights, Tryz.underlying43, List.map_cons, List.map_nil, DataW.weightsEach, List.nil_append, List.append_nil, List.mem_append, List.mem_singleton] at hin
  have hr : reachBytes = 140737488351232 := rfl
  have z4 := hin o.s.data.toList.length (by simp)
  have z5 := hin o.t.data.toList.length (by simp)
  have z6 := hin o.u.data.toList.length (by simp)
  rw [hr, Array.length_toList, ByteArray.size_data] at z4 z5 z6
  have hcell : ∀ j v, o.cells[j]? = some v → W.cell? ((a.add (i * 24)).add j) = some v := fun j v hv => by
   unfold World.cells? at hc
   rw [if_pos (Nat.zero_le _)] at hc
   have hj : j < 24 := (List.getElem?_eq_some_iff.1 hv).1
   have := mapM_some_get hc j j (by simp [hj])
   rw [this]; exact hv
  obtain ⟨b, k, sp⟩ := a
  have h0 := hcell 1 (.int .i64 o.a) rfl
  have hs : sp = none := by
   by_cases hi0 : i = 0
   ·subst hi0
    have h00 := hcell 0 (.int .i64 o.kind) rfl
    simpa [Addr.add] using World.cell?_spot h00
   ·obtain ⟨cs0, hc0, _⟩ := hel 0 (by rw [hm]; simp; omega)
    unfold World.cells? at hc0
    rw [if_pos (Nat.zero_le _)] at hc0
    have h00 := mapM_some_get hc0 0 0 (by simp)
    have hlen := mapM_some_length hc0
    simp at hlen
    rw [List.getElem?_eq_getElem (by omega)] at h00
    simpa [Addr.add] using World.cell?_spot h00
  subst hs
  have hra : W.rangeAt b (k + i * 24) o.cells := fun j v hv => by
   have := hcell j v hv
   rw [addr_add, addr_add] at this
   exact this
  exact ⟨o, ⟨b, k, rfl, cell_lt (hra 0 (.int .i64 o.kind) rfl), hra⟩, z4, z5, z6, wk, wa, wb, wc, hld, hle, m', dP, pP, hp, fun x hx => hin x (by simp [hx])⟩
 obtain ⟨f, hf⟩ := @choose_lt OpR ⟨⟨0, 0, 0, 0, ⟨#[]⟩, ⟨#[]⟩, ⟨#[]⟩, [], [], .slice none 0 0⟩⟩ len _ hone
 refine ⟨f, fun i hi => ?_, by omega, fun i hi => (hf i hi).2.2.2.2⟩
 obtain ⟨⟨b, k, rfl, hb, hra⟩, h4, h5, h6, _⟩ := hf i hi
 exact ⟨b, k, rfl, hb, hra, h4, h5, h6⟩
end
end Go.Proofs.YtekegfbjbainhaaGreat
