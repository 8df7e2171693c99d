
import Derived.Test.YtekegfbjbainhaaKJoin11
set_option linter.unusedVariables false
set_option linter.unusedSimpArgs false
namespace Go.Proofs.Ytekegfbjbainhaa
open Go.RowKit
attribute [local go_sem ↓] Go.wp_at_zero Go.wp_at_succ
set_option maxRecDepth 100000 in
set_option maxHeartbeats 8000000 in
theorem commit_ok (sb N : Nat) (en tr : SlR) (mp : Option Nat) (es : List MEn) (xs : List EnP) (its : List ItR) (tds : List Nd) (w : World) (h : StoAt w sb N en tr mp es xs its tds) (h40 : tds.length < 40) (hN : N ≤ 700000) :
  Calls Try.prog 34 #[.pointer (some ⟨sb, 0, none⟩)] w fun e w' => ∃ (tr' : SlR) (mp' : Option Nat) (es' : List MEn) (nd : Nd) (N' : Nat), e = .returned (.tuple #[.agg (commitC tds.length (rootB its) (tds.length + 1) (sumF 42 (tds.map rootOf ++ [rootB its]))).toArray, .int .i64 0]) ∧
   StoAt w' sb N' en tr' mp' es' xs its (tds ++ [nd]) ∧ rootOf nd = rootB its ∧ N' ≤ N + 500 ∧ Frame (KMut sb mp es) w w' ∧ (∀ k, stoF sb en tr' mp' es' xs (tds ++ [nd]) k → k < w.heap.size → stoF sb en tr mp es xs tds k) ∧ (∀ k, KMut sb mp' es' k → k < w.heap.size → KMut sb mp es k) ∧
   ∃ (L : List (List Nd)) (ℓ : Nat), TreeRep (grownN its) L ∧ L.length = ℓ + 1 ∧ L[ℓ]? = some [nd] ∧ LvSt es (keyF xs) w.heap.size (KMut sb mp' es') w' L := by
 have hsb := RowV.lt h.row
 obtain ⟨htn, htc, htm, hta⟩ := owns_cap (a := tr.a) (n' := tr.n) (cap := tr.cap) h.own
 have hA : Below w.heap.size w (w.alloc (.cells #[.int .i64 0, .int .u8 0, .int .u8 0, .int .u8 0, .int .u8 0, .int .u8 0, .int .u8 0, .int .u8 0, .int .u8 0, .int .i64 0, .int .u8 0, .int .u8 0, .int .u8 0, .int .u8 0, .int .u8 0, .int .u8 0, .int .u8 0, .int .u8 0] 49)) := (Below.refl _ _).alloc (Nat.le_refl _) _
 have hAd : Below w.heap.size w ((w.alloc (.cells #[.int .i64 0, .int .u8 0, .int .u8 0, .int .u8 0, .int .u8 0, .int .u8 0, .int .u8 0, .int .u8 0, .int .u8 0, .int .i64 0, .int .u8 0, .int .u8 0, .int .u8 0, .int .u8 0, .int .u8 0, .int .u8 0, .int .u8 0, .int .u8 0] 49)).drew) := ⟨hA.os, hA.tape, hA.output, hA.size, hA.block⟩
 have h0 := h.below hAd
 have c2 : (w.alloc (.cells #[.int .i64 0, .int .u8 0, .int .u8 0, .int .u8 0, .int .u8 0, .int .u8 0, .int .u8 0, .int .u8 0, .int .u8 0, .int .i64 0, .int .u8 0, .int .u8 0, .int .u8 0, .int .u8 0, .int .u8 0, .int .u8 0, .int .u8 0, .int .u8 0] 49)).cell? ⟨sb, 2, none⟩ = some (.slice tr.a tr.n tr.cap) := RowV.cell (h.below hA).row 2 (by simp)
 have c0 : (w.alloc (.cells #[.int .i64 0, .int .u8 0, .int .u8 0, .int .u8 0, .int .u8 0, .int .u8 0, .int .u8 0, .int .u8 0, .int .u8 0, .int .i64 0, .int .u8 0, .int .u8 0, .int .u8 0, .int .u8 0, .int .u8 0, .int .u8 0, .int .u8 0, .int .u8 0] 49)).cell? ⟨sb, 0, none⟩ = some (.slice en.a en.n en.cap) := RowV.cell (h.below hA).row 0 (by simp)
 have hres0 : RowV ((w.alloc (.cells #[.int .i64 0, .int .u8 0, .int .u8 0, .int .u8 0, .int .u8 0, .int .u8 0, .int .u8 0, .int .u8 0, .int .u8 0, .int .i64 0, .int .u8 0, .int .u8 0, .int .u8 0, .int .u8 0, .int .u8 0, .int .u8 0, .int .u8 0, .int .u8 0] 49)).drew) w.heap.size 49 zero18 := RowV.new w _ _
 have HTC : Hid (Calls _ _ _ _ _) := tree_any sb N en tr mp es xs its _ h0.row h0.known (by omega) h0.ent h0.len h0.ok h0.norm h0.entf
 have H0 : Hid (StoAt ((w.alloc (.cells #[.int .i64 0, .int .u8 0, .int .u8 0, .int .u8 0, .int .u8 0, .int .u8 0, .int .u8 0, .int .u8 0, .int .u8 0, .int .i64 0, .int .u8 0, .int .u8 0, .int .u8 0, .int .u8 0, .int .u8 0, .int .u8 0, .int .u8 0, .int .u8 0] 49)).drew) sb N en tr mp es xs its tds) := h0
 have HLT : Hid (∀ k, stoF sb en tr mp es xs tds k → k < w.heap.size) := h.lt
 have HTN : Hid (tr.n = tds.length) := htn
 have h40I : ¬ (40 : Int) ≤ (tr.n : Int) := by rw [htn]; omega
 have htnI : (tr.n : Int) ≤ 40 := by rw [htn]; omega
 have HNIL : Hid (tr.a = none → tr.n = 0 ∧ tr.cap = 0) := fun e => by
  rcases hta with ⟨_, h1, h2⟩ | ⟨g, h1, _⟩
  ·exact ⟨by omega, h2⟩
  ·rw [e] at h1; cases h1
 have HAD : Hid (Below w.heap.size w ((w.alloc (.cells #[.int .i64 0, .int .u8 0, .int .u8 0, .int .u8 0, .int .u8 0, .int .u8 0, .int .u8 0, .int .u8 0, .int .u8 0, .int .i64 0, .int .u8 0, .int .u8 0, .int .u8 0, .int .u8 0, .int .u8 0, .int .u8 0, .int .u8 0, .int .u8 0] 49)).drew)) := hAd
 have HRES : Hid (RowV ((w.alloc (.cells #[.int .i64 0, .int .u8 0, .int .u8 0, .int .u8 0, .int .u8 0, .int .u8 0, .int .u8 0, .int .u8 0, .int .u8 0, .int .i64 0, .int .u8 0, .int .u8 0, .int .u8 0, .int .u8 0, .int .u8 0, .int .u8 0, .int .u8 0, .int .u8 0] 49)).drew) w.heap.size 49 zero18) := hres0
 have HNRM : Hid (∀ x ∈ its, x.below = 0) := h.norm
 clear h0 hA hAd hres0 htn htc htm hta
 unfold SlR.val at HTC
 go_enter Try.func34, Try.ntmps34
 go_wp2
 go_region_with (go_at_call 55; refine HTC.out.mono ?_; rintro e w1 ⟨o, nd, M, mp1, es1, rfl, hst, hM, hgr, hlv⟩)
 have HST : Hid (TrSt ((w.alloc (.cells #[.int .i64 0, .int .u8 0, .int .u8 0, .int .u8 0, .int .u8 0, .int .u8 0, .int .u8 0, .int .u8 0, .int .u8 0, .int .i64 0, .int .u8 0, .int .u8 0, .int .u8 0, .int .u8 0, .int .u8 0, .int .u8 0, .int .u8 0, .int .u8 0] 49)).drew) sb en tr mp es (keyF xs) w1 M mp1 es1 o [nd]) := hst
 have HLV : Hid (∃ (L : List (List Nd)) (ℓ : Nat), TreeRep (grownN its) L ∧ L.length = ℓ + 1 ∧ L[ℓ]? = some [nd] ∧ LvSt es (keyF xs) (w.heap.size + 1) (KMut sb mp1 es1) w1 L) := by
  obtain ⟨L, ℓ, q1, q2, q3, q4⟩ := hlv
  exact ⟨L, ℓ, q1, q2, q3, q4.less (by show _ ≤ (w.alloc _).heap.size; simp)⟩
 clear hlv
 have HMU : Hid (∀ k, KMut sb mp1 es1 k → k < w.heap.size → KMut sb mp es k) := fun k hk hlt => hst.muts k hk (by show _ < (w.alloc _).heap.size; simp; omega)
 have HRO : Hid (rootOf nd = rootB its) := by
  have e := growP_root HNRM.out
  rw [← hgr] at e
  exact e
 have hc2 : w1.cell? ⟨sb, 2, none⟩ = some (.slice tr.a tr.n tr.cap) := RowV.cell hst.row 2 (by simp)
 have HCC : Hid (Calls _ _ _ _ _) := concat_trees w1 tr tds nd.b (by omega) ((SlV.ofOwn (s := tr) H0.out.own).1.frame hst.frame (fun x hx => H0.out.trf x.block (by show (Value.slice tr.a tr.n tr.cap).ownBlock = _; rw [hx]; rfl))) HTN.out HNIL.out
 have hres1 : RowV w1 w.heap.size 49 zero18 := HRES.out.of_block (hst.frame.block _ HRES.out.lt (fun hm => by have := HLT.out _ (Or.inl hm); omega))
 have hf2 : ∀ (w2 : World), Below w1.heap.size w1 w2 → w2.cell? ⟨sb, 2, none⟩ = some (.slice tr.a tr.n tr.cap) ∧ w2.frozen? ⟨sb, 2, none⟩ = false := fun w2 hb => by
  have hr := RowV.below hst.row (RowV.lt hst.row) hb
  exact ⟨RowV.cell hr 2 (by simp), RowV.frozen hr 2⟩
 have HF2 : Hid (∀ (w2 : World), Below w1.heap.size w1 w2 → w2.cell? ⟨sb, 2, none⟩ = some (.slice tr.a tr.n tr.cap) ∧ w2.frozen? ⟨sb, 2, none⟩ = false) := hf2
 have HRES1 : Hid (RowV w1 w.heap.size 49 zero18) := hres1
 have HWN : Hid (sb < w.heap.size) := hsb
 clear hst hgr hf2 hres1 HRES HTC
 go_wp2_with (go_at_call 56; refine HCC.out.mono ?_; rintro e w2 ⟨s, rfl, ho2, hb2⟩; obtain ⟨k0, k1⟩ := HF2.out w2 hb2)
 obtain ⟨hsto, hfr, hfoot⟩ := commit_fin H0.out HAD.out HLT.out HST.out hb2 ho2
 have hres3 : RowV (w2.setCell ⟨sb, 2, none⟩ s.val) w.heap.size 49 zero18 := (HRES1.out.below HRES1.out.lt hb2).other (by exact Nat.ne_of_gt hsb) _
 unfold SlR.val at hsto hfr hres3
 have HLV3 : Hid (∃ (L : List (List Nd)) (ℓ : Nat), TreeRep (grownN its) L ∧ L.length = ℓ + 1 ∧ L[ℓ]? = some [nd] ∧ LvSt es (keyF xs) (w.heap.size + 1) (KMut sb mp1 es1) (w2.setCell ⟨sb, 2, none⟩ (.slice s.a s.n s.cap)) L) := by
  obtain ⟨L, ℓ, q1, q2, q3, q4⟩ := HLV.out
  exact ⟨L, ℓ, q1, q2, q3, (q4.below hb2).next ((Frame.refl (fun k => k = sb) _).setCell (p := ⟨sb, 2, none⟩) rfl _) (fun k hk => Or.inl hk) (fun k hk _ => hk)⟩
 clear HLV
 have HKS : Hid (∀ k, KFoot es k ∨ keyF xs k → k < w.heap.size) := fun k g => HLT.out k (by
  rcases g with g | ⟨x, hx, y, hy, e⟩
  ·exact Or.inr (Or.inr (Or.inl g))
  ·exact Or.inr (Or.inl (Or.inr ⟨x, hx, Or.inl ⟨y, hy, e⟩⟩)))
 generalize w2.setCell ⟨sb, 2, none⟩ (.slice s.a s.n s.cap) = w3 at *
 obtain ⟨x0, x1, x2, x3, x4, x5, x6, x7, hy⟩ := list8 (digB (codeB nd.level nd.its)) rfl
 have hrw := (hsto.nds nd (by simp)).1.row
 rw [ndC_list nd hy] at hrw
 have g0 : w3.cell? ⟨nd.b, 2, none⟩ = some (.int .u8 (x0.toNat : Int)) := hrw.cell 2 (by simp)
 have g1 : w3.cell? ⟨nd.b, 3, none⟩ = some (.int .u8 (x1.toNat : Int)) := hrw.cell 3 (by simp)
 have g2 : w3.cell? ⟨nd.b, 4, none⟩ = some (.int .u8 (x2.toNat : Int)) := hrw.cell 4 (by simp)
 have g3 : w3.cell? ⟨nd.b, 5, none⟩ = some (.int .u8 (x3.toNat : Int)) := hrw.cell 5 (by simp)
 have g4 : w3.cell? ⟨nd.b, 6, none⟩ = some (.int .u8 (x4.toNat : Int)) := hrw.cell 6 (by simp)
 have g5 : w3.cell? ⟨nd.b, 7, none⟩ = some (.int .u8 (x5.toNat : Int)) := hrw.cell 7 (by simp)
 have g6 : w3.cell? ⟨nd.b, 8, none⟩ = some (.int .u8 (x6.toNat : Int)) := hrw.cell 8 (by simp)
 have g7 : w3.cell? ⟨nd.b, 9, none⟩ = some (.int .u8 (x7.toNat : Int)) := hrw.cell 9 (by simp)
 obtain ⟨hssl, hssn⟩ := SlV.ofOwn (s := s) hsto.own
 have hb3d : Below w3.heap.size w3 w3.drew := ⟨rfl, rfl, rfl, Nat.le_refl _, fun _ _ => rfl⟩
 have HHC : Hid (Calls _ _ _ _ _) := head_any sb s (tds ++ [nd]) w3.drew (RowV.cell hsto.row 2 (by simp)) hssl hssn (by simp; omega) (fun x hx => (hsto.nds x hx).1.below hb3d)
 have hrt : (tds ++ [nd]).map rootOf = tds.map rootOf ++ [rootB its] := by rw [List.map_append]; simp [HRO.out]
 rw [hrt] at HHC
 obtain ⟨s0, s1, s2, s3, s4, s5, s6, s7, hss⟩ := list8 (sumF 42 (tds.map rootOf ++ [rootB its])) (sumF_length 41 _)
 obtain ⟨m, hm⟩ : ∃ m, m = tds.length + 1 := ⟨_, rfl⟩
 have HHV : Hid (Value.agg (headC (tds ++ [nd]).length (sumF 42 (tds.map rootOf ++ [rootB its]))).toArray = .agg #[.int .i64 (m : Int), .int .u8 (s0.toNat : Int), .int .u8 (s1.toNat : Int), .int .u8 (s2.toNat : Int), .int .u8 (s3.toNat : Int), .int .u8 (s4.toNat : Int), .int .u8 (s5.toNat : Int), .int .u8 (s6.toNat : Int), .int .u8 (s7.toNat : Int)]) := by
  unfold Hid
  rw [hss, List.length_append, List.length_singleton, ← hm]; rfl
 have HCV : Hid (commitC tds.length (rootB its) (tds.length + 1) (sumF 42 (tds.map rootOf ++ [rootB its])) = comP tr.n m x0 x1 x2 x3 x4 x5 x6 x7 s0 s1 s2 s3 s4 s5 s6 s7) := by
  unfold Hid
  have e1 : rootB its = [x0, x1, x2, x3, x4, x5, x6, x7] := by rw [← HRO.out]; exact hy
  rw [hss, e1, HTN.out, hm]; rfl
 have HSTO : Hid (StoAt w3 sb M en ⟨s.a, s.n, s.cap⟩ mp1 es1 xs its (tds ++ [nd])) := hsto
 have HFR : Hid (Frame (KMut sb mp es) w w3) := hfr
 have hzz : ((w.alloc (.cells #[.int .i64 0, .int .u8 0, .int .u8 0, .int .u8 0, .int .u8 0, .int .u8 0, .int .u8 0, .int .u8 0, .int .u8 0, .int .i64 0, .int .u8 0, .int .u8 0, .int .u8 0, .int .u8 0, .int .u8 0, .int .u8 0, .int .u8 0, .int .u8 0] 49)).drew).heap.size = w.heap.size + 1 := by show (w.alloc _).heap.size = _; simp
 rw [hzz] at hfoot
 have HFT : Hid (∀ k, stoF sb en s mp1 es1 xs (tds ++ [nd]) k → k < w.heap.size + 1 → stoF sb en tr mp es xs tds k) := hfoot
 clear hzz
 have HRES3 : Hid (RowV w3 w.heap.size 49 zero18) := hres3
 have HRW3 : Hid (RowV w3 nd.b 117 [nd.la.val, nd.by_.val, .int .u8 (x0.toNat : Int), .int .u8 (x1.toNat : Int), .int .u8 (x2.toNat : Int), .int .u8 (x3.toNat : Int), .int .u8 (x4.toNat : Int), .int .u8 (x5.toNat : Int), .int .u8 (x6.toNat : Int), .int .u8 (x7.toNat : Int), nd.be.val]) := hrw
 clear hsto hfr hfoot hres3 hrw hy hss hm hrt hssl hssn hb3d ho2 hb2 HST H0 HRES1 HF2 HCC hc2 c2 c0 k0 k1
 go_wp2
 go_region_with (first
  | (go_at_call 57; refine HHC.out.mono ?_; rintro e w8 ⟨rfl, hb8⟩; rw [HHV.out]; have hres8 : RowV w8 w.heap.size 49 zero18 := RowV.below (w := w3.drew) HRES3.out HRES3.out.lt hb8; rename_i K hK; refine hK _ _ ?_; clear hK K; go_loud (refine wpAny_take (i := 7) (v := .agg #[(.int .i64 (tr.n : Int)), (.int .u8 (x0.toNat : Int)), (.int .u8 (x1.toNat : Int)), (.int .u8 (x2.toNat : Int)), (.int .u8 (x3.toNat : Int)), (.int .u8 (x4.toNat : Int)), (.int .u8 (x5.toNat : Int)), (.int .u8 (x6.toNat : Int)), (.int .u8 (x7.toNat : Int)), (.int .i64 (m : Int)), (.int .u8 (s0.toNat : Int)), (.int .u8 (s1.toNat : Int)), (.int .u8 (s2.toNat : Int)), (.int .u8 (s3.toNat : Int)), (.int .u8 (s4.toNat : Int)), (.int .u8 (s5.toNat : Int)), (.int .u8 (s6.toNat : Int)), (.int .u8 (s7.toNat : Int))]) rfl (by kernel_rfl) (by kernel_rfl) (by kernel_rfl) (fun _ _ _ h => h) (Or.inl ⟨by rfl, ?_⟩) ?_); go_loud (focus (intro ww; go_simp; done)); go_loud (refine wpAny_ready (rs := [8]) (by kernel_rfl) (List.cons_ne_nil _ _) ?_; refine AllReady.cons rfl (fun K' hK' => ?_) AllReady.nil; refine step_storeP (by rfl) 49 (.tmp 2) (.tmp 48) (by rfl) w.heap.size (by rfl) (comP tr.n m x0 x1 x2 x3 x4 x5 x6 x7 s0 s1 s2 s3 s4 s5 s6 s7) (by rfl) hres8 rfl Try.sizeCommit comP_one ?_; intro w9 hR9 hf9; refine hK' _ _ ?_; clear hK' K'))
  | (go_at_call 57; refine HHC.out.mono ?_; rintro e w8 ⟨rfl, hb8⟩; rw [HHV.out]; have hres8 : RowV w8 w.heap.size 49 zero18 := RowV.below (w := w3.drew) HRES3.out HRES3.out.lt hb8; rename_i K hK; refine hK _ _ ?_; clear hK K; have hrw8 := RowV.below (w := w3.drew) HRW3.out HRW3.out.lt hb8; refine wpAny_ready (rs := [4]) ?_ (List.cons_ne_nil _ _) ?_; kernel_rfl; have g0' : w8.cell? ⟨nd.b, 2, none⟩ = some (.int .u8 (x0.toNat : Int)) := RowV.cell hrw8 2 (by simp); have g1' : w8.cell? ⟨nd.b, 3, none⟩ = some (.int .u8 (x1.toNat : Int)) := RowV.cell hrw8 3 (by simp); have g2' : w8.cell? ⟨nd.b, 4, none⟩ = some (.int .u8 (x2.toNat : Int)) := RowV.cell hrw8 4 (by simp); have g3' : w8.cell? ⟨nd.b, 5, none⟩ = some (.int .u8 (x3.toNat : Int)) := RowV.cell hrw8 5 (by simp); have g4' : w8.cell? ⟨nd.b, 6, none⟩ = some (.int .u8 (x4.toNat : Int)) := RowV.cell hrw8 6 (by simp); have g5' : w8.cell? ⟨nd.b, 7, none⟩ = some (.int .u8 (x5.toNat : Int)) := RowV.cell hrw8 7 (by simp); have g6' : w8.cell? ⟨nd.b, 8, none⟩ = some (.int .u8 (x6.toNat : Int)) := RowV.cell hrw8 8 (by simp); have g7' : w8.cell? ⟨nd.b, 9, none⟩ = some (.int .u8 (x7.toNat : Int)) := RowV.cell hrw8 9 (by simp); refine AllReady.cons rfl (fun K2 hK2 => ?_) AllReady.nil; go_simp; refine hK2 _ _ ?_; clear hK2 K2; go_loud (refine wpAny_take (i := 7) (v := .agg #[(.int .i64 (tr.n : Int)), (.int .u8 (x0.toNat : Int)), (.int .u8 (x1.toNat : Int)), (.int .u8 (x2.toNat : Int)), (.int .u8 (x3.toNat : Int)), (.int .u8 (x4.toNat : Int)), (.int .u8 (x5.toNat : Int)), (.int .u8 (x6.toNat : Int)), (.int .u8 (x7.toNat : Int)), (.int .i64 (m : Int)), (.int .u8 (s0.toNat : Int)), (.int .u8 (s1.toNat : Int)), (.int .u8 (s2.toNat : Int)), (.int .u8 (s3.toNat : Int)), (.int .u8 (s4.toNat : Int)), (.int .u8 (s5.toNat : Int)), (.int .u8 (s6.toNat : Int)), (.int .u8 (s7.toNat : Int))]) rfl (by kernel_rfl) (by kernel_rfl) (by kernel_rfl) (fun _ _ _ h => h) (Or.inl ⟨by rfl, ?_⟩) ?_); go_loud (focus (intro ww; go_simp; done)); go_loud (refine wpAny_ready (rs := [8]) (by kernel_rfl) (List.cons_ne_nil _ _) ?_; refine AllReady.cons rfl (fun K' hK' => ?_) AllReady.nil; refine step_storeP (by rfl) 49 (.tmp 2) (.tmp 48) (by rfl) w.heap.size (by rfl) (comP tr.n m x0 x1 x2 x3 x4 x5 x6 x7 s0 s1 s2 s3 s4 s5 s6 s7) (by rfl) hres8 rfl Try.sizeCommit comP_one ?_; intro w9 hR9 hf9; refine hK' _ _ ?_; clear hK' K')))
 all_goals
  go_wp2
  rw [HCV.out]
  refine ret_agg2 (k := 2) (k2 := 3) (cs := comP tr.n m x0 x1 x2 x3 x4 x5 x6 x7 s0 s1 s2 s3 s4 s5 s6 s7) rfl rfl rfl hR9 Try.underlying49 rfl Try.sizeCommit rfl ⟨s, mp1, es1, nd, M, rfl, ?_, HRO.out, hM, ?_, fun k hk hlt => HFT.out k hk (by omega), HMU.out, ?_⟩
  ·have hb8' : Below w3.heap.size w3 w8 := ⟨hb8.os, hb8.tape, hb8.output, hb8.size, hb8.block⟩
   exact (HSTO.out.below hb8').frame hf9 (fun k hk e => by have := HLT.out k (HFT.out k hk (by omega)); omega)
  ·have hb8' : Below w3.heap.size w3 w8 := ⟨hb8.os, hb8.tape, hb8.output, hb8.size, hb8.block⟩
   exact (HFR.out.trans (Frame.of_below_all hb8')).inside hf9 (fun k hlt e => by omega)
  ·have hb8' : Below w3.heap.size w3 w8 := ⟨hb8.os, hb8.tape, hb8.output, hb8.size, hb8.block⟩
   obtain ⟨L, ℓ, q1, q2, q3, q4⟩ := HLV3.out
   exact ⟨L, ℓ, q1, q2, q3, ((q4.below hb8').frame hf9 (fun nds hn x hx k hk e => by have := HKS.out k (q4.foot nds hn x hx k hk (by omega)); omega)).less (by omega)⟩
end Go.Proofs.Ytekegfbjbainhaa
