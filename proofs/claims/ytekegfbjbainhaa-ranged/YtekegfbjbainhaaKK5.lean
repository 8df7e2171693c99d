
import Derived.Test.YtekegfbjbainhaaKJoin19
import Derived.Test.YtekegfbjbainhaaKJoin23
import Derived.BigQuiet
import Derived.Deep.DeepCutAuto
set_option linter.unusedVariables false
set_option linter.unusedSimpArgs false
namespace Go.Proofs.Ytekegfbjbainhaa
open Go.RowKit
attribute [local go_sem ↓] Go.wp_at_zero Go.wp_at_succ
theorem Try.infoEntS : (Try.prog.info? 27).map (fun i => (i.zero, i.size, i.bytes)) = some (some (.slice none 0 0), 1, 24) := by kernel_rfl
theorem commitC_facts (n : Nat) (r s : List UInt8) (hr : r.length = 8) (hs : s.length = 8) : (commitC n r (n + 1) s).length = 18 ∧ (∀ u ∈ commitC n r (n + 1) s, u.oneCell' = true) ∧ (commitC n r (n + 1) s)[0]? = some (.int .i64 (n : Int)) ∧ (commitC n r (n + 1) s)[9]? = some (.int .i64 ((n : Int) + 1)) := by
 obtain ⟨r0, r1, r2, r3, r4, r5, r6, r7, rfl⟩ := list8 r hr
 obtain ⟨s0, s1, s2, s3, s4, s5, s6, s7, rfl⟩ := list8 s hs
 refine ⟨rfl, fun u hu => ?_, rfl, rfl⟩
 simp only [commitC, List.map_cons, List.map_nil, List.cons_append, List.nil_append, List.mem_cons, List.not_mem_nil, or_false] at hu
 rcases hu with rfl | rfl | rfl | rfl | rfl | rfl | rfl | rfl | rfl | rfl | rfl | rfl | rfl | rfl | rfl | rfl | rfl | rfl <;> rfl
theorem com_fin {w w1 w7 : World} {d : HouD} (h : HouAt w d) {tr' : SlR} {mp' : Option Nat} {es' : List MEn} {nd : Nd} {N' : Nat} {L : List (List Nd)} {a4 a6 : Option Addr} {c4 c6 : Nat} {C : List Value} (h40 : d.tds.length < 40)
  (hs1 : StoAt w1 d.sb N' d.en tr' mp' es' d.xs d.its (d.tds ++ [nd])) (hr : rootOf nd = rootB d.its ∧ N' ≤ d.N + 500) (hf1 : Frame (KMut d.sb d.mp d.ms) w w1) (ht1 : StoT w1 d.sb mp' es' (d.T ++ [L]) (d.tds ++ [nd]) (d.pp ++ [d.its]))
  (hn1 : ∀ k, stoF d.sb d.en tr' mp' es' d.xs (d.tds ++ [nd]) k → k < w.heap.size → stoF d.sb d.en d.tr d.mp d.ms d.xs d.tds k) (hm1 : ∀ k, KMut d.sb mp' es' k → k < w.heap.size → KMut d.sb d.mp d.ms k) (ht2 : ∀ k, treeF (d.T ++ [L]) k → k < w.heap.size → d.St k)
  (hC : commitC d.tds.length (rootB d.its) (d.tds.length + 1) (sumF 42 (d.tds.map rootOf ++ [rootB d.its])) = C)
  (row : RowV w7 d.hb 32 [.pointer (some ⟨d.sb, 0, none⟩), d.nw.val, .slice a6 (d.tds.length + 1) c6, .slice a4 (d.tds.length + 1) c4])
  (hd : w7.ownsRow 0 49 18 (.slice a4 (d.tds.length + 1) c4) (d.tds.length + 1) (comsC (d.tds.map rootOf) ++ C)) (hp : w7.ownsRow 0 27 1 (.slice a6 (d.tds.length + 1) c6) (d.tds.length + 1) (d.pd.map (fun p => p.1.val) ++ [d.nw.val]))
  (hfr : Frame (fun k => d.dn.val.ownBlock = some k ∨ k = d.hb ∨ d.pa.val.ownBlock = some k) w1 w7)
  (hat4 : (Value.slice a4 (d.tds.length + 1) c4).ownBlock = d.dn.val.ownBlock ∨ ∃ q, w1.heap.size ≤ q ∧ (Value.slice a4 (d.tds.length + 1) c4).ownBlock = some q) (hat6 : (Value.slice a6 (d.tds.length + 1) c6).ownBlock = d.pa.val.ownBlock ∨ ∃ q, w1.heap.size ≤ q ∧ (Value.slice a6 (d.tds.length + 1) c6).ownBlock = some q) :
  ∃ d' : HouD, HouAt w7 d' ∧ d'.hb = d.hb ∧ d'.its = d.its ∧ (∃ nd, d'.tds = d.tds ++ [nd] ∧ rootOf nd = rootB d.its) ∧ d'.pp = d.pp ++ [d.its] ∧ Frame d.M w w7 ∧ ∀ k, d'.M k → k < w.heap.size → d.M k := by
 have hz := hf1.size
 have hhb := h.row.lt
 have hpl : d.pd.length = d.tds.length := by rw [h.pl, h.stt.pl]
 have hSt : ∀ k, (stoF d.sb d.en tr' mp' es' d.xs (d.tds ++ [nd]) k ∨ treeF (d.T ++ [L]) k) → k < w1.heap.size ∧ k ≠ d.hb ∧ d.pa.val.ownBlock ≠ some k ∧ d.dn.val.ownBlock ≠ some k := fun k hk => by
  refine ⟨?_, ?_⟩
  ·rcases hk with hk | hk
   ·exact hs1.lt k hk
   ·exact ht1.lt k hk
  ·by_cases hlt : k < w.heap.size
   ·rcases hk with hk | hk
    ·exact h.sS k (Or.inl (hn1 k hk hlt))
    ·exact h.sS k (ht2 k hk hlt)
   ·exact ⟨fun e => hlt (by rw [e]; exact hhb), fun e => hlt (h.pst.lt k e).2, fun e => hlt (h.don.lt k e).2⟩
 have hE : ∀ k, d.E k → ¬ KMut d.sb d.mp d.ms k := fun k hk => (h.sE k hk).2.1
 have hE2 : ∀ k, d.E k → ¬ (d.dn.val.ownBlock = some k ∨ k = d.hb ∨ d.pa.val.ownBlock = some k) := fun k hk e => by
  obtain ⟨e1, _, e3, e4⟩ := h.sE k hk
  rcases e with e | e | e
  ·exact e4 e
  ·exact e1 e
  ·exact e3 e
 have hS2 : ∀ k, (stoF d.sb d.en tr' mp' es' d.xs (d.tds ++ [nd]) k ∨ treeF (d.T ++ [L]) k) → ¬ (d.dn.val.ownBlock = some k ∨ k = d.hb ∨ d.pa.val.ownBlock = some k) := fun k hk e => by
  obtain ⟨_, e1, e3, e4⟩ := hSt k hk
  rcases e with e | e | e
  ·exact e4 e
  ·exact e1 e
  ·exact e3 e
 have n4 : ∀ k, k < w1.heap.size → d.dn.val.ownBlock ≠ some k → (Value.slice a4 (d.tds.length + 1) c4).ownBlock ≠ some k := fun k hk he e => by
  rcases hat4 with g | ⟨q, hq, g⟩
  ·rw [g] at e; exact he e
  ·rw [g] at e; cases e; omega
 have n6 : ∀ k, k < w1.heap.size → d.pa.val.ownBlock ≠ some k → (Value.slice a6 (d.tds.length + 1) c6).ownBlock ≠ some k := fun k hk he e => by
  rcases hat6 with g | ⟨q, hq, g⟩
  ·rw [g] at e; exact he e
  ·rw [g] at e; cases e; omega
 have hnow : EnsK w7 0 d.nw d.nes d.its := (h.now.frame hf1 (fun k hk => hE k (Or.inl hk))).frame hfr (fun k hk => hE2 k (Or.inl hk))
 have hcs : comsC (d.tds.map rootOf) ++ C = comsC ((d.tds ++ [nd]).map rootOf) := by
  rw [List.map_append, List.map_singleton, hr.1, comsC_snoc, List.length_map, hC]
 have hE3 : ∀ k, (ensF d.nw d.nes k ∨ ∃ p ∈ d.pd ++ [(d.nw, d.nes)], ensF p.1 p.2 k) → d.E k := fun k hk => by
  rcases hk with hk | ⟨p, hp, hk⟩
  ·exact Or.inl hk
  ·rcases List.mem_append.1 hp with hp | hp
   ·exact Or.inr ⟨p, hp, hk⟩
   ·rw [List.mem_singleton.1 hp] at hk; exact Or.inl hk
 refine ⟨⟨d.hb, d.sb, N', d.en, tr', mp', es', d.xs, d.its, d.tds ++ [nd], d.nw, d.nes, ⟨a6, d.tds.length + 1, c6⟩, d.pd ++ [(d.nw, d.nes)], ⟨a4, d.tds.length + 1, c4⟩, d.T ++ [L], d.pp ++ [d.its]⟩,
  ⟨row, hs1.frame hfr (fun k hk => hS2 k (Or.inl hk)), ht1.frame hfr (fun k hk => hS2 k (Or.inr hk)), hnow, ?_, ?_, ?_, ?_, ?_, ?_, ?_, ?_⟩, rfl, rfl, ⟨nd, rfl, hr.1⟩, rfl, ?_, ?_⟩
 ·show w7.ownsRow 0 27 1 (.slice a6 (d.tds.length + 1) c6) (d.pd ++ [(d.nw, d.nes)]).length ((d.pd ++ [(d.nw, d.nes)]).map (fun p => p.1.val))
  rw [List.map_append, List.length_append, hpl]
  exact hp
 ·show (d.pd ++ [(d.nw, d.nes)]).length = (d.pp ++ [d.its]).length
  simp [h.pl]
 ·intro i g1 g2
  show EnsK w7 0 (d.pd ++ [(d.nw, d.nes)])[i].1 (d.pd ++ [(d.nw, d.nes)])[i].2 (d.pp ++ [d.its])[i]
  have hpp := h.pl
  simp only [List.length_append, List.length_singleton] at g1 g2
  by_cases hi : i < d.pd.length
  ·rw [List.getElem_append_left hi, List.getElem_append_left (by omega)]
   have hk := fun k hk => (Or.inr ⟨_, List.getElem_mem hi, hk⟩ : d.E k)
   exact ((h.pds i hi (by omega)).frame hf1 (fun k g => hE k (hk k g))).frame hfr (fun k g => hE2 k (hk k g))
  ·rw [List.getElem_append_right (by omega), List.getElem_append_right (by omega)]
   simpa using hnow
 ·show w7.ownsRow 0 49 18 (.slice a4 (d.tds.length + 1) c4) (d.tds ++ [nd]).length (comsC ((d.tds ++ [nd]).map rootOf))
  rw [← hcs, List.length_append]
  exact hd
 ·show (d.tds ++ [nd]).length ≤ 40
  simp; omega
 ·show N' ≤ 500 * (d.tds ++ [nd]).length
  have := h.nN; have := hr.2
  simp; omega
 ·intro k hk
  obtain ⟨g0, g1, g2, g3⟩ := hSt k hk
  exact ⟨g1, n6 k g0 g2, n4 k g0 g3⟩
 ·intro k hk
  have hk' := hE3 k hk
  have hlt := h.ltE k hk'
  obtain ⟨g1, g2, g3, g4⟩ := h.sE k hk'
  exact ⟨g1, fun e => g2 (hm1 k e hlt), n6 k (by omega) g3, n4 k (by omega) g4⟩
 ·refine (hf1.mono (fun k _ hk => (Or.inr (Or.inl hk) : d.M k))).inside hfr (fun x _ e => ?_)
  rcases e with e | e | e
  ·exact Or.inr (Or.inr (Or.inr e))
  ·exact Or.inl e
  ·exact Or.inr (Or.inr (Or.inl e))
 ·intro k hk hlt
  rcases hk with hk | hk | hk | hk
  ·exact Or.inl hk
  ·exact Or.inr (Or.inl (hm1 k hk hlt))
  ·exact Or.inr (Or.inr (Or.inl (Decidable.byContradiction (fun e => n6 k (by omega) e hk))))
  ·exact Or.inr (Or.inr (Or.inr (Decidable.byContradiction (fun e => n4 k (by omega) e hk))))
set_option maxRecDepth 100000 in
set_option maxHeartbeats 4000000 in
theorem house_commit_ok (d : HouD) (w : World) (h : HouAt w d) (h40 : d.tds.length < 40) :
  Calls Try.prog 14 #[.pointer (some ⟨d.hb, 0, none⟩)] w fun e w' => e = .returned (.bool true) ∧ ∃ d' : HouD, HouAt w' d' ∧ d'.hb = d.hb ∧ d'.its = d.its ∧ (∃ nd, d'.tds = d.tds ++ [nd] ∧ rootOf nd = rootB d.its) ∧ d'.pp = d.pp ++ [d.its] ∧ Frame d.M w w' ∧ ∀ k, d'.M k → k < w.heap.size → d.M k := by
 have HH : Hid (HouAt w d) := h
 have hhb := h.row.lt
 have r0 : w.cell? ⟨d.hb, 0, none⟩ = some (.pointer (some ⟨d.sb, 0, none⟩)) := RowV.cell? h.row 0
 have hdn : d.dn.n = d.tds.length := (SlV.ofOwn (s := d.dn) h.don).2
 have hpn : d.pa.n = d.pd.length := (SlV.ofOwn (s := d.pa) h.pst).2
 have HCM : Hid (Calls _ _ _ _ _) := commit_ok d.sb d.N d.en d.tr d.mp d.ms d.xs d.its d.tds w h.sto h40 (by have := h.nN; omega)
 have hpl : d.pd.length = d.tds.length := by rw [h.pl, h.stt.pl]
 obtain ⟨hC18, hC1, hC0, hC9⟩ := commitC_facts d.tds.length (rootB d.its) (sumF 42 (d.tds.map rootOf ++ [rootB d.its])) (rootB_length _) (sumF_length 41 _)
 have HC : Hid (commitC d.tds.length (rootB d.its) (d.tds.length + 1) (sumF 42 (d.tds.map rootOf ++ [rootB d.its])) = commitC d.tds.length (rootB d.its) (d.tds.length + 1) (sumF 42 (d.tds.map rootOf ++ [rootB d.its]))) := rfl
 generalize hCG : commitC d.tds.length (rootB d.its) (d.tds.length + 1) (sumF 42 (d.tds.map rootOf ++ [rootB d.its])) = C at hC18 hC1 hC0 hC9 HCM
 have HCG : Hid (commitC d.tds.length (rootB d.its) (d.tds.length + 1) (sumF 42 (d.tds.map rootOf ++ [rootB d.its])) = C) := hCG
 clear hCG HC
 have HC18 : Hid (C.length = 18) := hC18
 have HC1 : Hid (∀ u ∈ C, u.oneCell' = true) := hC1
 have HC0 : Hid (C[0]? = some (.int .i64 (d.tds.length : Int))) := hC0
 have HC9 : Hid (C[9]? = some (.int .i64 ((d.tds.length : Int) + 1))) := hC9
 have h40I : (d.tds.length : Int) < 40 := by omega
 have hn40 : ((d.tds.length : Int) == 40) = false := by rw [Bool.eq_false_iff]; simp only [ne_eq, beq_iff_eq]; omega
 clear h hC18 hC1 hC0 hC9
 go_enter Try.func14, Try.ntmps14
 go_wp2_with fail
 refine HCM.out.mono ?_
 rintro e w1 ⟨tr', mp', es', nd, N', rfl, hs1, hr1, hN1, hf1, hn1, hmu1, L, ℓ, hL1, hL2, hL3, hL4⟩
 have HS1 : Hid (StoAt w1 d.sb N' d.en tr' mp' es' d.xs d.its (d.tds ++ [nd])) := hs1
 have HR1 : Hid (rootOf nd = rootB d.its ∧ N' ≤ d.N + 500) := ⟨hr1, hN1⟩
 have HF1 : Hid (Frame (KMut d.sb d.mp d.ms) w w1) := hf1
 have HT1 : Hid (StoT w1 d.sb mp' es' (d.T ++ [L]) (d.tds ++ [nd]) (d.pp ++ [d.its])) := (HH.out.stt.next hf1 (fun k e => e) hmu1).push hL4.good hL1 hL2 hL3 ⟨HH.out.sto.rise, HH.out.sto.ok, HH.out.sto.norm, HH.out.sto.len⟩
 have HN1 : Hid (∀ k, stoF d.sb d.en tr' mp' es' d.xs (d.tds ++ [nd]) k → k < w.heap.size → stoF d.sb d.en d.tr d.mp d.ms d.xs d.tds k) := hn1
 have HM1 : Hid (∀ k, KMut d.sb mp' es' k → k < w.heap.size → KMut d.sb d.mp d.ms k) := hmu1
 have HT2 : Hid (∀ k, treeF (d.T ++ [L]) k → k < w.heap.size → d.St k) := fun k hk hlt => by
  obtain ⟨M, hM, nds, hn, x, hx, hk⟩ := hk
  rcases List.mem_append.1 hM with hM | hM
  ·exact Or.inr ⟨M, hM, nds, hn, x, hx, hk⟩
  ·simp only [List.mem_singleton] at hM
   subst hM
   rcases hL4.foot nds hn x hx k hk hlt with g | ⟨y, hy, z, hz, e⟩
   ·exact Or.inl (Or.inr (Or.inr (Or.inl g)))
   ·exact Or.inl (Or.inr (Or.inl (Or.inr ⟨y, hy, Or.inl ⟨z, hz, e⟩⟩)))
 clear hs1 hr1 hN1 hf1 hn1 hmu1 hL1 hL2 hL3 hL4 HCM
 have hz1 : w.heap.size ≤ w1.heap.size := HF1.out.size
 have HW1 : Hid (RowV w1 d.hb 32 [.pointer (some ⟨d.sb, 0, none⟩), d.nw.val, d.pa.val, d.dn.val]) := HH.out.row.of_block (HF1.out.block _ hhb (fun e => (HH.out.sS d.hb (Or.inl (Or.inl e))).1 rfl))
 have HD1 : Hid (w1.ownsRow 0 49 18 d.dn.val d.tds.length (comsC (d.tds.map rootOf))) := owns_frame HH.out.don HF1.out (fun k hk e => (HH.out.sS k (Or.inl (Or.inl e))).2.2 hk)
 have HP1 : Hid (w1.ownsRow 0 27 1 d.pa.val d.pd.length (d.pd.map (fun p => p.1.val))) := owns_frame HH.out.pst HF1.out (fun k hk e => (HH.out.sS k (Or.inl (Or.inl e))).2.1 hk)
 have HZ : Hid (RowV (w1.alloc (.cells #[.int .i64 0, .int .u8 0, .int .u8 0, .int .u8 0, .int .u8 0, .int .u8 0, .int .u8 0, .int .u8 0, .int .u8 0, .int .i64 0, .int .u8 0, .int .u8 0, .int .u8 0, .int .u8 0, .int .u8 0, .int .u8 0, .int .u8 0, .int .u8 0] 49)) w1.heap.size 49 zero18) := RowV.new w1 _ _
 have HSZ : Hid ((Try.prog.info? 49).map (·.size) = some C.length) := by unfold Hid; rw [HC18.out]; exact Try.sizeCommit
 have HBA : Hid (Below w1.heap.size w1 (w1.alloc (.cells #[.int .i64 0, .int .u8 0, .int .u8 0, .int .u8 0, .int .u8 0, .int .u8 0, .int .u8 0, .int .u8 0, .int .u8 0, .int .i64 0, .int .u8 0, .int .u8 0, .int .u8 0, .int .u8 0, .int .u8 0, .int .u8 0, .int .u8 0, .int .u8 0] 49))) := (Below.refl _ _).alloc (Nat.le_refl _) _
 go_upto_region 4 with (first
  | (refine wp_storeR (by rfl) 49 (.tmp 3) (.tmp 11) (by rfl) w1.heap.size (by rfl) C (by rfl) HZ.out (by rw [HC18.out]; rfl) HSZ.out HC1.out ?_; intro w2 hr2 hf2 hz2; have HR2 : Hid (RowV w2 w1.heap.size 49 C) := hr2; have HB2 : Hid (Below w1.heap.size w1 w2) := HBA.out.trans (hf2.below HBA.out.size (fun k hk => by omega)); clear hr2 hf2 hz2; have q3 : w2.cell? ⟨d.hb, 3, none⟩ = some (.slice d.dn.a d.tds.length d.dn.cap) := by { rw [← hdn]; exact RowV.cell? (RowV.below HW1.out HW1.out.lt HB2.out) 3 }))
 have k0 : w2.cell? ⟨w1.heap.size, 0, none⟩ = some (.int .i64 (d.tds.length : Int)) := RowV.cellK HR2.out 0 _ HC0.out
 have k9 : w2.cell? ⟨w1.heap.size, 9, none⟩ = some (.int .i64 ((d.tds.length : Int) + 1)) := RowV.cellK HR2.out 9 _ HC9.out
 go_quiet (fail)
 go_upto_region 6 with fail
 have HB3 : Hid (Below w1.heap.size w1 (w2.drewN nq)) := HB2.out.trans ((bel_drewN w2 nq).mono HB2.out.size)
 have HR3 : Hid (RowV (w2.drewN nq) w1.heap.size 49 C) := RowV.below HR2.out HR2.out.lt (bel_drewN w2 nq)
 clear HB2 HR2 k0 k9 q3
 generalize w2.drewN nq = w3 at *
 have HW3 : Hid (RowV w3 d.hb 32 [.pointer (some ⟨d.sb, 0, none⟩), d.nw.val, d.pa.val, d.dn.val]) := RowV.below HW1.out HW1.out.lt HB3.out
 have hdv : d.dn.val = (.slice d.dn.a d.tds.length d.dn.cap) := by unfold SlR.val; rw [hdn]
 have HD3 : Hid (w3.ownsRow 0 49 18 (.slice d.dn.a d.tds.length d.dn.cap) d.tds.length (comsC (d.tds.map rootOf))) := by unfold Hid; rw [← hdv]; exact owns_below HD1.out HB3.out
 have q3 : w3.cell? ⟨d.hb, 3, none⟩ = some (.slice d.dn.a d.tds.length d.dn.cap) := by rw [← hdv]; exact RowV.cell? HW3.out 3
 refine region_U (fun W' => W'.cell? ⟨d.hb, 3, none⟩ = some (.slice d.dn.a d.tds.length d.dn.cap) ∧ RowV W' w1.heap.size 49 C) 7 (by kernel_rfl) ⟨q3, HR3.out.of_block rfl⟩ (fun hH => ?_)
 refine anyU_move 0 _ (.pointer (some ⟨d.hb, 0, none⟩)) rfl (by kernel_rfl) (by kernel_rfl) (by kernel_rfl) (fun _ _ _ h => h) (by decide) hH (Or.inl ⟨by rfl, fun w _ => by go_simp⟩) ?_
 try simp only [Act.put, List.setIfInBounds_toArray, List.set_cons_zero, List.set_cons_succ]
 refine anyU_move 1 _ (.pointer (some ⟨d.hb, 0, none⟩)) rfl (by kernel_rfl) (by kernel_rfl) (by kernel_rfl) (fun _ _ _ h => h) (by decide) hH (Or.inl ⟨by rfl, fun w _ => by go_simp⟩) ?_
 try simp only [Act.put, List.setIfInBounds_toArray, List.set_cons_zero, List.set_cons_succ]
 refine anyU_move 2 _ (.pointer (some ⟨d.hb, 0, none⟩)) rfl (by kernel_rfl) (by kernel_rfl) (by kernel_rfl) (fun _ _ _ h => h) (by decide) hH (Or.inl ⟨by rfl, fun w _ => by go_simp⟩) ?_
 try simp only [Act.put, List.setIfInBounds_toArray, List.set_cons_zero, List.set_cons_succ]
 refine anyU_move 3 _ (.pointer (some ⟨d.hb, 3, none⟩)) rfl (by kernel_rfl) (by kernel_rfl) (by kernel_rfl) (fun _ _ _ h => h) (by decide) hH (Or.inl ⟨by rfl, fun w _ => by go_simp⟩) ?_
 try simp only [Act.put, List.setIfInBounds_toArray, List.set_cons_zero, List.set_cons_succ]
 refine anyU_take 4 _ (.slice d.dn.a d.tds.length d.dn.cap) [7] rfl (by kernel_rfl) (by kernel_rfl) (by kernel_rfl) (fun _ _ _ h => h) (by kernel_rfl) hH (Or.inl ⟨by rfl, fun w hS => by have h1 := hS.1; go_simp⟩) ?_
 try simp only [Act.put, List.setIfInBounds_toArray, List.set_cons_zero, List.set_cons_succ]
 refine anyU_take 5 _ (.agg C.toArray) [6, 7] rfl (by kernel_rfl) (by kernel_rfl) (by kernel_rfl) (fun _ _ _ h => h) (by kernel_rfl) hH (yieldsIf_load_mid (by rfl) _ _ rfl w1.heap.size 0 rfl C _ (fun W h => h.2.range) Try.underlying49 rfl HSZ.out) ?_
 try simp only [Act.put, List.setIfInBounds_toArray, List.set_cons_zero, List.set_cons_succ]
 refine anyU_one 6 _ (by kernel_rfl) rfl (fun K hK => ?_)
 rw [if_pos (by rfl)]
 refine op_buildR 30 49 (.tmp 50) rfl C rfl (bs18 C HC18.out) ?_
 have HBb : Hid (Below w3.drew.heap.size w3.drew (w3.drew.alloc (.cells C.toArray 49))) := (Below.refl _ _).alloc (Nat.le_refl _) _
 have hlt3 : d.hb < w3.heap.size := HW3.out.lt
 refine hK.out _ _ ⟨by rw [HBb.out.cell (p := ⟨d.hb, 3, none⟩) hlt3]; exact hH.1, RowV.below hH.2 hH.2.lt HBb.out⟩ ?_
 clear hK K
 try simp only [Act.put, List.setIfInBounds_toArray, List.set_cons_zero, List.set_cons_succ]
 have HDb : Hid ((w3.drew.alloc (.cells C.toArray 49)).ownsRow 0 49 18 (.slice d.dn.a d.tds.length d.dn.cap) d.tds.length (comsC (d.tds.map rootOf))) := owns_below (by exact HD3.out) HBb.out
 refine anyU_past 7 _ (by kernel_rfl) rfl (by kernel_rfl) (fun K hK => ?_)
 rw [if_pos (by rfl)]
 refine op_appendV (.tmp 49) (.tmp 51) 30 rfl 0 49 _ 18 32 Try.underlying30 Try.infoCommit rfl (by decide) (.slice d.dn.a d.tds.length d.dn.cap) d.tds.length (comsC (d.tds.map rootOf)) rfl HDb.out ⟨w3.heap.size, 0, none⟩ 1 1 C rfl (by rw [HC18.out]) (SlV.alloc_new w3.drew C _) HC1.out (by unfold maxLen; omega) (by omega) (Nat.zero_le _) ?_
 intro v4 w4 ho4 hf4 hat4
 obtain ⟨a4, c4, hv4, _⟩ := owns_form ho4
 subst hv4
 refine hK.out _ _ ?_
 clear hK K
 try simp only [Act.put, List.setIfInBounds_toArray, List.set_cons_zero, List.set_cons_succ]
 have HW4 : Hid (RowV w4 d.hb 32 [.pointer (some ⟨d.sb, 0, none⟩), d.nw.val, d.pa.val, d.dn.val]) := by
  have hb3 : RowV (w3.drew.alloc (.cells C.toArray 49)) d.hb 32 [.pointer (some ⟨d.sb, 0, none⟩), d.nw.val, d.pa.val, d.dn.val] := RowV.below (w := w3.drew) (HW3.out.of_block rfl) hlt3 HBb.out
  exact hb3.of_block (hf4.block _ hb3.lt (fun e => owns_ne HDb.out hb3 (by decide) e))
 have g1 : w4.cell? ⟨d.hb, 3, none⟩ = some d.dn.val := RowV.cell? HW4.out 3
 have g2 : w4.frozen? ⟨d.hb, 3, none⟩ = false := RowV.frozen HW4.out 3
 refine anyU_past 8 _ (by kernel_rfl) rfl (by kernel_rfl) (fun K hK => ?_)
 rw [if_pos (by rfl)]
 go_simp
 refine hK.out _ _ ?_
 clear hK K
 try simp only [Act.put, List.setIfInBounds_toArray, List.set_cons_zero, List.set_cons_succ]
 refine anyU_past 9 _ (by kernel_rfl) rfl (by kernel_rfl) (fun K hK => ?_)
 rw [if_pos (by rfl)]
 go_simp
 refine hK.out _ _ ?_
 clear hK K
 try simp only [Act.put, List.setIfInBounds_toArray, List.set_cons_zero, List.set_cons_succ]
 refine anyU_past 10 _ (by kernel_rfl) rfl (by kernel_rfl) (fun K hK => ?_)
 rw [if_pos (by rfl)]
 refine op_store1 (.tmp 54) (.tmp 52) rfl d.hb 3 _ a4 (d.tds.length + 1) c4 rfl rfl g1 g2 ?_
 refine hK.out _ _ ?_
 clear hK K
 try simp only [Act.put, List.setIfInBounds_toArray, List.set_cons_zero, List.set_cons_succ]
 refine anyU_done (by kernel_rfl) ?_ _
 have hlt1 : d.hb < w1.heap.size := HW1.out.lt
 have HO4 : Hid (w4.ownsRow 0 49 18 (.slice a4 (d.tds.length + 1) c4) (d.tds.length + 1) (comsC (d.tds.map rootOf) ++ C)) := ho4
 have HAT4 : Hid ((Value.slice a4 (d.tds.length + 1) c4).ownBlock = d.dn.val.ownBlock ∨ ∃ q, w1.heap.size ≤ q ∧ (Value.slice a4 (d.tds.length + 1) c4).ownBlock = some q) := by
  rcases hat4 with e | e
  ·exact Or.inl (by rw [hdv]; exact e)
  ·exact Or.inr ⟨_, Nat.le_trans HB3.out.size (by simp), e⟩
 have HFR4 : Hid (Frame (fun k => d.dn.val.ownBlock = some k) w1 w4) := by
  have hb : Below w1.heap.size w1 (w3.drew.alloc (.cells C.toArray 49)) := HB3.out.drew.trans (HBb.out.mono HB3.out.size)
  exact (Frame.of_below_all hb).inside hf4 (fun x _ e => by rw [hdv]; exact e)
 have HFS : Hid (∀ v, Frame (fun k => k = d.hb) w4 (w4.setCell ⟨d.hb, 3, none⟩ v)) := fun v => Frame.setCell (S := fun k => k = d.hb) (Frame.refl _ _) (p := ⟨d.hb, 3, none⟩) rfl _
 obtain ⟨w5, hw5⟩ : ∃ W, W = w4.setCell ⟨d.hb, 3, none⟩ (.slice a4 (d.tds.length + 1) c4) := ⟨_, rfl⟩
 have HW5 : Hid (RowV w5 d.hb 32 [.pointer (some ⟨d.sb, 0, none⟩), d.nw.val, d.pa.val, .slice a4 (d.tds.length + 1) c4]) := by unfold Hid; rw [hw5]; exact HW4.out.set 3 _
 have HD5 : Hid (w5.ownsRow 0 49 18 (.slice a4 (d.tds.length + 1) c4) (d.tds.length + 1) (comsC (d.tds.map rootOf) ++ C)) := by
  unfold Hid; rw [hw5]; exact owns_frame HO4.out (HFS.out _) (fun k hk e => by subst e; exact owns_ne HO4.out HW4.out (by decide) hk)
 have HFR5 : Hid (Frame (fun k => d.dn.val.ownBlock = some k ∨ k = d.hb) w1 w5) := by
  unfold Hid; rw [hw5]
  exact (HFR4.out.mono (fun k _ hk => Or.inl hk)).inside (HFS.out _) (fun x _ e => Or.inr e)
 have HP5 : Hid (w5.ownsRow 0 27 1 d.pa.val d.pd.length (d.pd.map (fun p => p.1.val))) := owns_frame HP1.out HFR5.out (fun k hk e => by
  rcases e with e | rfl
  ·exact owns_apart HP1.out HD1.out (by decide) k hk e
  ·exact owns_ne HP1.out HW1.out (by decide) hk)
 rw [← hw5]
 clear hw5 hf4 hat4 ho4 HW4 HO4 HFR4 HFS g1 g2 HDb HBb HD3 HR3 HW3 q3 hH HZ HBA HB3
 go_upto_region 7 with fail
 have hpv : d.pa.val = (.slice d.pa.a d.tds.length d.pa.cap) := by unfold SlR.val; rw [hpn, hpl]
 have hlt5 : d.hb < w5.heap.size := HW5.out.lt
 have u2 : w5.cell? ⟨d.hb, 2, none⟩ = some (.slice d.pa.a d.tds.length d.pa.cap) := by rw [← hpv]; exact RowV.cell? HW5.out 2
 have u1 : w5.cell? ⟨d.hb, 1, none⟩ = some (.slice d.nw.a d.nw.n d.nw.cap) := RowV.cell? HW5.out 1
 refine region_U (fun W' => W'.cell? ⟨d.hb, 2, none⟩ = some (.slice d.pa.a d.tds.length d.pa.cap) ∧ W'.cell? ⟨d.hb, 1, none⟩ = some (.slice d.nw.a d.nw.n d.nw.cap)) 10 (by kernel_rfl) ⟨u2, u1⟩ (fun hH => ?_)
 refine anyU_move 0 _ (.pointer (some ⟨d.hb, 0, none⟩)) rfl (by kernel_rfl) (by kernel_rfl) (by kernel_rfl) (fun _ _ _ h => h) (by decide) hH (Or.inl ⟨by rfl, fun w _ => by go_simp⟩) ?_
 try simp only [Act.put, List.setIfInBounds_toArray, List.set_cons_zero, List.set_cons_succ]
 refine anyU_move 1 _ (.pointer (some ⟨d.hb, 0, none⟩)) rfl (by kernel_rfl) (by kernel_rfl) (by kernel_rfl) (fun _ _ _ h => h) (by decide) hH (Or.inl ⟨by rfl, fun w _ => by go_simp⟩) ?_
 try simp only [Act.put, List.setIfInBounds_toArray, List.set_cons_zero, List.set_cons_succ]
 refine anyU_move 2 _ (.pointer (some ⟨d.hb, 0, none⟩)) rfl (by kernel_rfl) (by kernel_rfl) (by kernel_rfl) (fun _ _ _ h => h) (by decide) hH (Or.inl ⟨by rfl, fun w _ => by go_simp⟩) ?_
 try simp only [Act.put, List.setIfInBounds_toArray, List.set_cons_zero, List.set_cons_succ]
 refine anyU_move 3 _ (.pointer (some ⟨d.hb, 2, none⟩)) rfl (by kernel_rfl) (by kernel_rfl) (by kernel_rfl) (fun _ _ _ h => h) (by decide) hH (Or.inl ⟨by rfl, fun w _ => by go_simp⟩) ?_
 try simp only [Act.put, List.setIfInBounds_toArray, List.set_cons_zero, List.set_cons_succ]
 refine anyU_move 5 _ (.pointer (some ⟨d.hb, 0, none⟩)) rfl (by kernel_rfl) (by kernel_rfl) (by kernel_rfl) (fun _ _ _ h => h) (by decide) hH (Or.inl ⟨by rfl, fun w _ => by go_simp⟩) ?_
 try simp only [Act.put, List.setIfInBounds_toArray, List.set_cons_zero, List.set_cons_succ]
 refine anyU_move 6 _ (.pointer (some ⟨d.hb, 0, none⟩)) rfl (by kernel_rfl) (by kernel_rfl) (by kernel_rfl) (fun _ _ _ h => h) (by decide) hH (Or.inl ⟨by rfl, fun w _ => by go_simp⟩) ?_
 try simp only [Act.put, List.setIfInBounds_toArray, List.set_cons_zero, List.set_cons_succ]
 refine anyU_move 7 _ (.pointer (some ⟨d.hb, 1, none⟩)) rfl (by kernel_rfl) (by kernel_rfl) (by kernel_rfl) (fun _ _ _ h => h) (by decide) hH (Or.inl ⟨by rfl, fun w _ => by go_simp⟩) ?_
 try simp only [Act.put, List.setIfInBounds_toArray, List.set_cons_zero, List.set_cons_succ]
 refine anyU_take 4 _ (.slice d.pa.a d.tds.length d.pa.cap) [10] rfl (by kernel_rfl) (by kernel_rfl) (by kernel_rfl) (fun _ _ _ h => h) (by kernel_rfl) hH (Or.inl ⟨by rfl, fun w hS => by have h1 := hS.1; go_simp⟩) ?_
 try simp only [Act.put, List.setIfInBounds_toArray, List.set_cons_zero, List.set_cons_succ]
 refine anyU_take 8 _ (.slice d.nw.a d.nw.n d.nw.cap) [9, 10] rfl (by kernel_rfl) (by kernel_rfl) (by kernel_rfl) (fun _ _ _ h => h) (by kernel_rfl) hH (Or.inl ⟨by rfl, fun w hS => by have h1 := hS.2; go_simp⟩) ?_
 try simp only [Act.put, List.setIfInBounds_toArray, List.set_cons_zero, List.set_cons_succ]
 refine anyU_one 9 _ (by kernel_rfl) rfl (fun K hK => ?_)
 rw [if_pos (by rfl)]
 go_simp
 have HBb : Hid (Below w5.heap.size w5 (w5.alloc (.cells #[.slice d.nw.a d.nw.n d.nw.cap] 27)).drew) := ((Below.refl _ _).alloc (Nat.le_refl _) _).drew
 refine hK.out _ _ ⟨by rw [HBb.out.cell (p := ⟨d.hb, 2, none⟩) hlt5]; exact hH.1, by rw [HBb.out.cell (p := ⟨d.hb, 1, none⟩) hlt5]; exact hH.2⟩ ?_
 clear hK K
 try simp only [Act.put, List.setIfInBounds_toArray, List.set_cons_zero, List.set_cons_succ]
 have HPb : Hid ((w5.alloc (.cells #[.slice d.nw.a d.nw.n d.nw.cap] 27)).drew.ownsRow 0 27 1 (.slice d.pa.a d.tds.length d.pa.cap) d.tds.length (d.pd.map (fun p => p.1.val))) := by
  unfold Hid; rw [← hpv]
  have h := HP5.out
  rw [hpl] at h
  exact owns_below h HBb.out
 refine anyU_past 10 _ (by kernel_rfl) rfl (by kernel_rfl) (fun K hK => ?_)
 rw [if_pos (by rfl)]
 refine op_appendV (.tmp 59) (.tmp 64) 29 rfl 0 27 _ 1 24 Try.underlying29 Try.infoEntS rfl (by decide) (.slice d.pa.a d.tds.length d.pa.cap) d.tds.length (d.pd.map (fun p => p.1.val)) rfl HPb.out ⟨w5.heap.size, 0, none⟩ 1 1 [.slice d.nw.a d.nw.n d.nw.cap] rfl rfl (SlV.alloc_new w5 [.slice d.nw.a d.nw.n d.nw.cap] _) (fun u hu => by rw [List.mem_singleton.1 hu]; rfl) (by unfold maxLen; omega) (by omega) (Nat.zero_le _) ?_
 intro v6 w6 ho6 hf6 hat6
 obtain ⟨a6, c6, hv6, _⟩ := owns_form ho6
 subst hv6
 refine hK.out _ _ ?_
 clear hK K
 try simp only [Act.put, List.setIfInBounds_toArray, List.set_cons_zero, List.set_cons_succ]
 have HW6 : Hid (RowV w6 d.hb 32 [.pointer (some ⟨d.sb, 0, none⟩), d.nw.val, d.pa.val, .slice a4 (d.tds.length + 1) c4]) := by
  have hb3 : RowV (w5.alloc (.cells #[.slice d.nw.a d.nw.n d.nw.cap] 27)).drew d.hb 32 [.pointer (some ⟨d.sb, 0, none⟩), d.nw.val, d.pa.val, .slice a4 (d.tds.length + 1) c4] := RowV.below HW5.out hlt5 HBb.out
  exact hb3.of_block (hf6.block _ hb3.lt (fun e => owns_ne HPb.out hb3 (by decide) e))
 have g1 : w6.cell? ⟨d.hb, 2, none⟩ = some d.pa.val := RowV.cell? HW6.out 2
 have g2 : w6.frozen? ⟨d.hb, 2, none⟩ = false := RowV.frozen HW6.out 2
 refine anyU_past 11 _ (by kernel_rfl) rfl (by kernel_rfl) (fun K hK => ?_)
 rw [if_pos (by rfl)]
 go_simp
 refine hK.out _ _ ?_
 clear hK K
 try simp only [Act.put, List.setIfInBounds_toArray, List.set_cons_zero, List.set_cons_succ]
 refine anyU_past 12 _ (by kernel_rfl) rfl (by kernel_rfl) (fun K hK => ?_)
 rw [if_pos (by rfl)]
 go_simp
 refine hK.out _ _ ?_
 clear hK K
 try simp only [Act.put, List.setIfInBounds_toArray, List.set_cons_zero, List.set_cons_succ]
 refine anyU_past 13 _ (by kernel_rfl) rfl (by kernel_rfl) (fun K hK => ?_)
 rw [if_pos (by rfl)]
 go_simp
 refine hK.out _ _ ?_
 clear hK K
 try simp only [Act.put, List.setIfInBounds_toArray, List.set_cons_zero, List.set_cons_succ]
 refine anyU_done (by kernel_rfl) ?_ _
 go_wp2
 go_ret
 have hfs : Frame (fun k => k = d.hb) w6 (w6.setCell ⟨d.hb, 2, none⟩ (.slice a6 (d.tds.length + 1) c6)) := Frame.setCell (S := fun k => k = d.hb) (Frame.refl _ _) (p := ⟨d.hb, 2, none⟩) rfl _
 have hfr6 : Frame (fun k => d.dn.val.ownBlock = some k ∨ k = d.hb ∨ d.pa.val.ownBlock = some k) w1 w6 := ((HFR5.out.mono (fun k _ hk => hk.elim Or.inl (fun e => Or.inr (Or.inl e)))).trans (Frame.of_below_all HBb.out)).inside hf6 (fun x _ e => Or.inr (Or.inr (by rw [hpv]; exact e)))
 have hd6 : w6.ownsRow 0 49 18 (.slice a4 (d.tds.length + 1) c4) (d.tds.length + 1) (comsC (d.tds.map rootOf) ++ C) := owns_frame (owns_below HD5.out HBb.out) hf6 (fun k hk e => owns_apart (owns_below HD5.out HBb.out) HPb.out (by decide) k hk e)
 refine ⟨rfl, com_fin HH.out h40 HS1.out HR1.out HF1.out HT1.out HN1.out HM1.out HT2.out HCG.out (HW6.out.set 2 _) (owns_frame hd6 hfs (fun k hk e => by subst e; exact owns_ne hd6 HW6.out (by decide) hk)) (owns_frame ho6 hfs (fun k hk e => by subst e; exact owns_ne ho6 HW6.out (by decide) hk)) (hfr6.inside hfs (fun x _ e => Or.inr (Or.inl e))) HAT4.out ?_⟩
 rcases hat6 with e | e
 ·exact Or.inl (by rw [hpv]; exact e)
 ·exact Or.inr ⟨_, Nat.le_trans HFR5.out.size HBb.out.size, e⟩
end Go.Proofs.Ytekegfbjbainhaa
