import Derived.Test.YthhfmcfbiloeiaaGreatKPr23
/- The tree of entries, walked. -/
namespace Go.Proofs.YthhfmcfbiloeiaaGreat
set_option linter.unusedVariables false
set_option linter.unusedSimpArgs false
open Go.RowKit

set_option maxRecDepth 100000 in
set_option maxHeartbeats 4000000 in
theorem tree_any (sb N : Nat) (en tr : SlR) (mp : Option Nat) (es : List MEn) (xs : List EnP) (its : List ItR) (w : World) (hR : StoRow w sb en mp tr) (K : KnownAt w sb mp es N) (hN : N ≤ 800000) (hE : EntAt w en xs its) (h60 : its.length ≤ 60) (hok : ∀ x ∈ its, ItOk x) (hnm : ∀ x ∈ its, x.below = 0) (hf : ∀ k, entF en xs k → ¬ KMut sb mp es k) :
    Calls Tryz.prog 79 #[.pointer (some ⟨sb, 1, none⟩), en.val] w fun e w' => ∃ (o : SlR) (nd : Nd) (M : Nat) (mp' : Option Nat) (es' : List MEn), e = .returned (.pointer (some ⟨nd.b, 0, none⟩)) ∧ TrSt w sb en tr mp es (keyF xs) w' M mp' es' o [nd] ∧ M ≤ N + 500 ∧ (nd.level, nd.its) = growP 7 0 its := by
  have HLOW : Hid (Calls _ _ _ _ _) := lowest_any sb N en tr mp es xs its w hR K (by omega) hE h60 hok hnm hf
  have HP0 : Hid ((partedN 0 its).length ≤ 60) := by
    unfold Hid
    by_cases he : its = []
    · subst he; simp [partedN, partF]
    · have := partF_bound 0 its [] he; unfold partedN; omega
  clear hE hf hnm hok h60
  unfold SlR.val at HLOW ⊢
  go_enter Tryz.func79, Tryz.ntmps79
  go_wp2_with (go_at_call 108; refine HLOW.out.mono ?_; rintro e w1 ⟨o, nds, M, mp1, es1, rfl, hst, hM, hits, hlev⟩)
  have H0 : Hid (TrSt w sb en tr mp es (keyF xs) w1 M mp1 es1 o nds ∧ nds.map (·.its) = partedN 0 its ∧ (∀ nd ∈ nds, nd.level = 0) ∧ nds.length ≤ 60) := ⟨hst, hits, fun nd h => (hlev nd h).1, by have e1 := congrArg List.length hits; have e2 := HP0.out; rw [List.length_map] at e1; omega⟩
  clear hst hits hlev
  go_loopw [5, 6] (fun nv lv wr => ∃ (ℓ M : Nat) (mp1 : Option Nat) (es1 : List MEn) (o : SlR) (nds : List Nd), ℓ ≤ 6 ∧ lv = .int .i64 ((ℓ : Int) + 1) ∧ nv = o.val ∧ M ≤ N + 61 * (ℓ + 1) ∧ Hid (∃ l, TrSt w sb en tr mp es (keyF xs) wr M mp1 es1 o nds ∧ nds.map (·.its) = partedN ℓ l ∧ (∀ nd ∈ nds, nd.level = ℓ) ∧ nds.length ≤ 60 ∧ growP (7 - ℓ) ℓ l = growP 7 0 its)) (fun _ lv _ => 8 - (intOf lv).toNat)
  case atStart => exact ⟨0, M, mp1, es1, o, nds, by omega, by simp, rfl, by omega, its, H0.out.1, H0.out.2.1, H0.out.2.2.1, H0.out.2.2.2, rfl⟩
  case round =>
    clear H0
    obtain ⟨ℓ, M2, mp2, es2, o2, nds2, hℓ, rfl, rfl, hM2, HX⟩ := hrel
    obtain ⟨l, hT, hI, hL, hlen, hG⟩ := HX.out
    have hon := (owns_cap (a := o2.a) (n' := o2.n) (cap := o2.cap) hT.own).1
    have hpl : nds2.length = (partedN ℓ l).length := by have := congrArg List.length hI; simpa using this
    have hpos := partedN_pos ℓ l
    by_cases h1 : nds2.length = 1
    · obtain ⟨nd, rfl⟩ : ∃ nd, nds2 = [nd] := by
        match nds2, h1 with
        | [nd], _ => exact ⟨nd, rfl⟩
      obtain ⟨b, q, hoa, hb, hc⟩ := (SlV.ofOwn (s := o2) hT.own).1 0 (by simp)
      obtain ⟨oa, on, oc⟩ := o2
      simp only at hoa hon
      subst hoa hon
      have hc0 : wr.cell? ⟨b, q, none⟩ = some (.pointer (some ⟨nd.b, 0, none⟩)) := by simpa [ptrV] using hc
      have HG : Hid ((nd.level, nd.its) = growP 7 0 its) := by
        unfold Hid
        rw [← hG]
        obtain ⟨f, hf⟩ : ∃ f, 7 - ℓ = f + 1 := ⟨6 - ℓ, by omega⟩
        rw [hf, growP, if_pos (by rw [← hpl]; rfl), ← hI, hL nd (by simp)]
        rfl
      have HT : Hid (TrSt w sb en tr mp es (keyF xs) wr M2 mp2 es2 ⟨some ⟨b, q, none⟩, 1, oc⟩ [nd]) := hT
      clear hT hI hL hlen hG hpl hpos HX hc h1 hb
      unfold SlR.val
      go_wp2
      go_ret
      exact ⟨_, nd, M2, mp2, es2, rfl, HT.out, by omega, HG.out⟩
    · have hgt : 1 < nds2.length := by omega
      have hℓ6 : ℓ < 6 := by
        by_cases h : ℓ < 6
        · exact h
        · exfalso
          have := partF_six ℓ h l []
          unfold partedN at hpl
          rw [this] at hpl
          simp at hpl; omega
      have hgI : (1 : Int) < (o2.n : Int) := by omega
      have HUP : Hid (nds2.map upI = (partedN ℓ l).map (upOf ℓ)) := by
        unfold Hid
        rw [← hI, List.map_map]
        apply List.map_congr_left
        intro nd hn
        show upOf nd.level nd.its = upOf ℓ nd.its
        rw [hL nd hn]
      have HC : Hid (Calls _ _ _ _ _) := above_any sb M2 (ℓ + 1) en tr mp2 es2 o2 nds2 wr hT.row hT.known (by omega) (by omega) (by omega) (by intro e; rw [e] at hgt; simp at hgt) hlen (owns_base hT.own (fun k _ => Nat.zero_le _)) (fun k hk => (hT.onew k hk).1) hT.nodes
      have HNEXT : Hid (∀ (w' : World) (o' : SlR) (nds' : List Nd) (M' : Nat) (mp' : Option Nat) (es' : List MEn), TrSt wr sb en tr mp2 es2 (fun k => ∃ nd ∈ nds2, ndF nd k) w' M' mp' es' o' nds' → nds'.map (·.its) = partedN (ℓ + 1) (nds2.map upI) → (∀ nd ∈ nds', nd.level = ℓ + 1) → ∃ l, TrSt w sb en tr mp es (keyF xs) w' M' mp' es' o' nds' ∧ nds'.map (·.its) = partedN (ℓ + 1) l ∧ (∀ nd ∈ nds', nd.level = ℓ + 1) ∧ nds'.length ≤ 60 ∧ growP (7 - (ℓ + 1)) (ℓ + 1) l = growP 7 0 its) := fun w' o' nds' M' mp' es' g1 g2 g3 => by
        refine ⟨nds2.map upI, hT.compose g1, g2, g3, ?_, ?_⟩
        · have e1 := congrArg List.length g2
          have e2 := partF_bound (ℓ + 1) (nds2.map upI) [] (by intro e; have := congrArg List.length e; simp at this; subst this; simp at hgt)
          unfold partedN at e1
          simp at e1 e2
          omega
        · rw [HUP.out, ← hG]
          obtain ⟨f, hf⟩ : ∃ f, 7 - ℓ = f + 1 := ⟨6 - ℓ, by omega⟩
          rw [hf, growP, if_neg (by rw [← hpl]; exact h1), show 7 - (ℓ + 1) = f by omega]
      clear hT hI hL hlen hG hpl hpos HX hon
      have hℓI : (ℓ : Int) ≤ 6 := by omega
      have HE1 : Hid (((ℓ + 1 : Nat) : Int) = (ℓ : Int) + 1) := by unfold Hid; omega
      rw [HE1.out] at HC
      unfold SlR.val at HC ⊢
      go_wp2_with (go_at_call 109; refine HC.out.mono ?_; rintro e w' ⟨o', nds', M', mp', es', rfl, g1, gM, g2, g3⟩)
      refine ⟨⟨ℓ + 1, M', mp', es', o', nds', by omega, by go_num, rfl, by omega, HNEXT.out w' o' nds' M' mp' es' g1 g2 g3⟩, by simp [intOf]; omega⟩
end Go.Proofs.YthhfmcfbiloeiaaGreat

/- The log's head, walked. -/
namespace Go.Proofs.YthhfmcfbiloeiaaGreat
set_option linter.unusedVariables false
set_option linter.unusedSimpArgs false
open Go.RowKit

def rootOf (nd : Nd) : List UInt8 := digB (codeB nd.level nd.its)
/-- A head as a value. -/
def headC (n : Nat) (sum : List UInt8) : List Value := .int .i64 (n : Int) :: sum.map u8c
def z9 : List Value := [.int .i64 0, .int .u8 0, .int .u8 0, .int .u8 0, .int .u8 0, .int .u8 0, .int .u8 0, .int .u8 0, .int .u8 0]
theorem Tryz.sizeHead : (Tryz.prog.info? 98).map (·.size) = some 9 := by kernel_rfl
theorem digsC_one (l : List (List UInt8)) : ∀ u ∈ digsC l, u.oneCell' = true := fun u hu => by
  obtain ⟨d, _, hd⟩ := List.mem_flatMap.1 hu
  obtain ⟨x, _, rfl⟩ := List.mem_map.1 hd
  rfl

set_option maxRecDepth 100000 in
set_option maxHeartbeats 4000000 in
theorem head_any (sb : Nat) (tr : SlR) (tds : List Nd) (w : World) (h2 : w.cell? ⟨sb, 2, none⟩ = some tr.val) (hs : SlV w tr.a (tds.map (fun x => ptrV x.b))) (hn : tr.n = tds.length) (h40 : tds.length ≤ 40) (hnd : ∀ nd ∈ tds, NdOk w nd) :
    Calls Tryz.prog 81 #[.pointer (some ⟨sb, 0, none⟩)] w fun e w' => e = .returned (.agg (headC tds.length (sumF 42 (tds.map rootOf))).toArray) ∧ Below w.heap.size w w' := by
  have HQ : Hid (∀ (wr : World), Below w.heap.size w wr → ∀ k (hk : k < tds.length), ∃ b o, tr.a = some ⟨b, o, none⟩ ∧ wr.cell? ⟨b, o + k, none⟩ = some (.pointer (some ⟨tds[k].b, 0, none⟩)) ∧ NdOk wr tds[k]) := fun wr hB k hk => by
    obtain ⟨b, o, ha, hb, hc⟩ := hs k (by simpa using hk)
    refine ⟨b, o, ha, ?_, (hnd _ (List.getElem_mem hk)).below hB⟩
    rw [hB.cell (p := ⟨b, o + k, none⟩) hb, hc]
    simp [ptrV]
  have HN : Hid (tr.n = tds.length) := hn
  have hnI : (tr.n : Int) ≤ 40 := by omega
  have h40' : tr.n ≤ 40 := by omega
  have HR0 : Hid (RowV (w.alloc (.cells z9.toArray 98)) w.heap.size 98 z9) := RowV.new w _ _
  have HB0 : Hid (Below w.heap.size w (w.alloc (.cells z9.toArray 98))) := (Below.refl _ _).alloc (Nat.le_refl _) _
  have h2' : (w.alloc (.cells #[.int .i64 0, .int .u8 0, .int .u8 0, .int .u8 0, .int .u8 0, .int .u8 0, .int .u8 0, .int .u8 0, .int .u8 0] 98)).cell? ⟨sb, 2, none⟩ = some (.slice tr.a tr.n tr.cap) := by
    have hlt := World.block_lt_of_cell? _ _ h2
    rw [((Below.refl w.heap.size w).alloc (Nat.le_refl _) _).cell (p := ⟨sb, 2, none⟩) hlt]; exact h2
  clear hs hn hnd h40
  go_enter Tryz.func81, Tryz.ntmps81
  go_wp2
  go_loopw [3, 5, 11] (fun rv _ ix wr => ∃ (k : Nat) (v : SlR), k ≤ tr.n ∧ ix = .int .i64 k ∧ rv = v.val ∧ Hid (wr.ownsRow (w.heap.size + 1) 36 8 v.val ((tds.take k).map rootOf).length (digsC ((tds.take k).map rootOf)) ∧ Below w.heap.size w wr ∧ RowV wr w.heap.size 98 z9)) (fun _ _ ix _ => tr.n - (intOf ix).toNat)
  case atStart => exact ⟨0, ⟨none, 0, 0⟩, by omega, by simp, rfl, World.ownsRow_nil _ _ _ _, HB0.out, HR0.out⟩
  case round =>
    obtain ⟨k, v, hk, rfl, rfl, HX⟩ := hrel
    by_cases hlt : k < tr.n
    · have hltI : (k : Int) < tr.n := by omega
      have hkl : k < tds.length := by have := HN.out; omega
      obtain ⟨b, o, hta, hc, hndk⟩ := HQ.out wr HX.out.2.1 k hkl
      have HTK : Hid ((tds.take (k + 1)).map rootOf = (tds.take k).map rootOf ++ [rootOf tds[k]]) := by unfold Hid; rw [List.take_succ_eq_append_getElem hkl, List.map_append]; rfl
      obtain ⟨ta, tn, tc⟩ := tr
      simp only at hta hltI hlt hk hnI h40' HN h2 h2'
      subst hta
      generalize tds[k] = nd at *
      obtain ⟨x0, x1, x2, x3, x4, x5, x6, x7, hy⟩ := list8 (digB (codeB nd.level nd.its)) rfl
      have hrw := hndk.row
      rw [ndC_list nd hy] at hrw
      have g0 : wr.cell? ⟨nd.b, 2, none⟩ = some (.int .u8 (x0.toNat : Int)) := hrw.cell 2 (by simp)
      have g1 : wr.cell? ⟨nd.b, 3, none⟩ = some (.int .u8 (x1.toNat : Int)) := hrw.cell 3 (by simp)
      have g2 : wr.cell? ⟨nd.b, 4, none⟩ = some (.int .u8 (x2.toNat : Int)) := hrw.cell 4 (by simp)
      have g3 : wr.cell? ⟨nd.b, 5, none⟩ = some (.int .u8 (x3.toNat : Int)) := hrw.cell 5 (by simp)
      have g4 : wr.cell? ⟨nd.b, 6, none⟩ = some (.int .u8 (x4.toNat : Int)) := hrw.cell 6 (by simp)
      have g5 : wr.cell? ⟨nd.b, 7, none⟩ = some (.int .u8 (x5.toNat : Int)) := hrw.cell 7 (by simp)
      have g6 : wr.cell? ⟨nd.b, 8, none⟩ = some (.int .u8 (x6.toNat : Int)) := hrw.cell 8 (by simp)
      have g7 : wr.cell? ⟨nd.b, 9, none⟩ = some (.int .u8 (x7.toNat : Int)) := hrw.cell 9 (by simp)
      have HRO : Hid ([x0, x1, x2, x3, x4, x5, x6, x7] = rootOf nd) := hy.symm
      have HLL : Hid (((tds.take k).map rootOf).length ≤ 40) := by unfold Hid; rw [List.length_map, List.length_take]; omega
      have HOX : Hid ((wr.alloc (.cells #[.int .u8 (x0.toNat : Int), .int .u8 (x1.toNat : Int), .int .u8 (x2.toNat : Int), .int .u8 (x3.toNat : Int), .int .u8 (x4.toNat : Int), .int .u8 (x5.toNat : Int), .int .u8 (x6.toNat : Int), .int .u8 (x7.toNat : Int)] 36)).ownsRow (w.heap.size + 1) 36 8 (.slice v.a v.n v.cap) ((tds.take k).map rootOf).length (digsC ((tds.take k).map rootOf))) := HX.out.1.alloc _
      have HSX : Hid (SlV (wr.alloc (.cells #[.int .u8 (x0.toNat : Int), .int .u8 (x1.toNat : Int), .int .u8 (x2.toNat : Int), .int .u8 (x3.toNat : Int), .int .u8 (x4.toNat : Int), .int .u8 (x5.toNat : Int), .int .u8 (x6.toNat : Int), .int .u8 (x7.toNat : Int)] 36)) (some ⟨wr.heap.size, 0, none⟩) [.int .u8 (x0.toNat : Int), .int .u8 (x1.toNat : Int), .int .u8 (x2.toNat : Int), .int .u8 (x3.toNat : Int), .int .u8 (x4.toNat : Int), .int .u8 (x5.toNat : Int), .int .u8 (x6.toNat : Int), .int .u8 (x7.toNat : Int)]) := SlV.alloc_new wr _ _
      have H1X : Hid (∀ u ∈ ([.int .u8 (x0.toNat : Int), .int .u8 (x1.toNat : Int), .int .u8 (x2.toNat : Int), .int .u8 (x3.toNat : Int), .int .u8 (x4.toNat : Int), .int .u8 (x5.toNat : Int), .int .u8 (x6.toNat : Int), .int .u8 (x7.toNat : Int)] : List Value), u.oneCell' = true) := digsC_one [[x0, x1, x2, x3, x4, x5, x6, x7]]
      have HBW : Hid (Below w.heap.size w (wr.alloc (.cells #[.int .u8 (x0.toNat : Int), .int .u8 (x1.toNat : Int), .int .u8 (x2.toNat : Int), .int .u8 (x3.toNat : Int), .int .u8 (x4.toNat : Int), .int .u8 (x5.toNat : Int), .int .u8 (x6.toNat : Int), .int .u8 (x7.toNat : Int)] 36))) := HX.out.2.1.alloc HX.out.2.1.size _
      have HRW : Hid (RowV (wr.alloc (.cells #[.int .u8 (x0.toNat : Int), .int .u8 (x1.toNat : Int), .int .u8 (x2.toNat : Int), .int .u8 (x3.toNat : Int), .int .u8 (x4.toNat : Int), .int .u8 (x5.toNat : Int), .int .u8 (x6.toNat : Int), .int .u8 (x7.toNat : Int)] 36)) w.heap.size 98 z9) := HX.out.2.2.alloc _
      have HSZ : Hid (w.heap.size + 1 ≤ (wr.alloc (.cells #[.int .u8 (x0.toNat : Int), .int .u8 (x1.toNat : Int), .int .u8 (x2.toNat : Int), .int .u8 (x3.toNat : Int), .int .u8 (x4.toNat : Int), .int .u8 (x5.toNat : Int), .int .u8 (x6.toNat : Int), .int .u8 (x7.toNat : Int)] 36)).heap.size) := by have := HX.out.2.2.lt; unfold Hid; simp; omega
      clear hrw hndk hy
      unfold SlR.val
      go_wp2_with (at_builtin; refine wp_appendV (by rfl) (.tmp 15) (.tmp 20) 41 (by rfl) (w.heap.size + 1) 36 _ 8 8 Tryz.underlying41 Tryz.infoDigs rfl (by decide) (.slice v.a v.n v.cap) ((tds.take k).map rootOf).length (digsC ((tds.take k).map rootOf)) (by rfl) HOX.out (some ⟨wr.heap.size, 0, none⟩) 1 1 [.int .u8 (x0.toNat : Int), .int .u8 (x1.toNat : Int), .int .u8 (x2.toNat : Int), .int .u8 (x3.toNat : Int), .int .u8 (x4.toNat : Int), .int .u8 (x5.toNat : Int), .int .u8 (x6.toNat : Int), .int .u8 (x7.toNat : Int)] (by rfl) rfl HSX.out (fun h => by cases h) H1X.out (by have := HLL.out; unfold maxLen; omega) (by have := HLL.out; omega) HSZ.out ?_; intro v3 w3 ho3 hf3 hat3; obtain ⟨a3, c3, hv3, _⟩ := owns_form ho3; subst hv3; obtain ⟨n3, hn3⟩ : ∃ n3, n3 = ((tds.take k).map rootOf).length + 1 := ⟨_, rfl⟩; rw [← hn3] at ho3 ⊢; have HN3 : Hid (n3 = ((tds.take k).map rootOf).length + 1) := hn3; clear hn3)
      refine ⟨⟨k + 1, ⟨a3, n3, c3⟩, by omega, by go_num, rfl, ?_, ?_, ?_⟩, by simp [intOf]; omega⟩
      · rw [HTK.out, List.length_append]
        have e1 : digsC ((tds.take k).map rootOf ++ [rootOf nd]) = digsC ((tds.take k).map rootOf) ++ [.int .u8 (x0.toNat : Int), .int .u8 (x1.toNat : Int), .int .u8 (x2.toNat : Int), .int .u8 (x3.toNat : Int), .int .u8 (x4.toNat : Int), .int .u8 (x5.toNat : Int), .int .u8 (x6.toNat : Int), .int .u8 (x7.toNat : Int)] := by
          rw [← HRO.out]; simp [digsC, u8c]
        rw [e1, List.length_singleton, ← HN3.out]; exact ho3
      · exact HBW.out.trans (hf3.below HBW.out.size (fun q hq => by have := (HOX.out.lt q hq).1; omega))
      · exact HRW.out.of_block (hf3.block _ HRW.out.lt (fun e => owns_ne HOX.out HRW.out (by decide) e))
    · obtain rfl : k = tr.n := by omega
      have HTE : Hid ((tds.take tr.n).map rootOf = tds.map rootOf) := by unfold Hid; rw [List.take_of_length_le (by have := HN.out; omega)]
      rw [HTE.out] at HX
      obtain ⟨hv1, hvn, hvm, _⟩ := owns_cap (a := v.a) (n' := v.n) (cap := v.cap) HX.out.1
      have hsd : SlD wr v.a (tds.map rootOf) := ⟨(SlV.ofOwn (s := v) HX.out.1).1, fun d hd => by obtain ⟨nd, _, rfl⟩ := List.mem_map.1 hd; rfl⟩
      have hvl : v.n = tds.length := by rw [hv1]; simp
      have HSC : Hid (Calls _ _ _ _ _) := sumP_any 42 (tds.map rootOf) v.a v.cap wr (by simp; have := HN.out; omega) (by simp; have := HN.out; omega) hvn (by unfold maxLen at hvm; omega) hsd
      rw [← hv1] at HSC
      have HVL : Hid (v.n = tds.length) := hvl
      obtain ⟨s0, s1, s2, s3, s4, s5, s6, s7, hss⟩ := list8 (sumF 42 (tds.map rootOf)) (sumF_length 41 _)
      have HVS : Hid (dV (sumF 42 (tds.map rootOf)) = .agg #[.int .u8 (s0.toNat : Int), .int .u8 (s1.toNat : Int), .int .u8 (s2.toNat : Int), .int .u8 (s3.toNat : Int), .int .u8 (s4.toNat : Int), .int .u8 (s5.toNat : Int), .int .u8 (s6.toNat : Int), .int .u8 (s7.toNat : Int)]) := by unfold Hid; rw [hss]; rfl
      have HCS : Hid (headC tds.length (sumF 42 (tds.map rootOf)) = [.int .i64 (v.n : Int), .int .u8 (s0.toNat : Int), .int .u8 (s1.toNat : Int), .int .u8 (s2.toNat : Int), .int .u8 (s3.toNat : Int), .int .u8 (s4.toNat : Int), .int .u8 (s5.toNat : Int), .int .u8 (s6.toNat : Int), .int .u8 (s7.toNat : Int)]) := by unfold Hid; rw [hss, hvl]; rfl
      have HRW : Hid (∀ W, Below wr.heap.size wr W → RowV W w.heap.size 98 z9) := fun W hW => HX.out.2.2.below HX.out.2.2.lt hW
      have HBW : Hid (Below w.heap.size w wr) := HX.out.2.1
      clear hv1 hvn hvm hsd hvl HX
      unfold SlR.val
      go_wp2_with (first
        | (go_at_call 111; refine HSC.out.mono ?_; rintro e w5 ⟨rfl, hb5⟩; rw [HVS.out]; have hr5 := HRW.out w5 hb5)
        | (refine wp_storeR (by rfl) 98 (.tmp 2) (.tmp 27) (by rfl) w.heap.size (by rfl) [.int .i64 (v.n : Int), .int .u8 (s0.toNat : Int), .int .u8 (s1.toNat : Int), .int .u8 (s2.toNat : Int), .int .u8 (s3.toNat : Int), .int .u8 (s4.toNat : Int), .int .u8 (s5.toNat : Int), .int .u8 (s6.toNat : Int), .int .u8 (s7.toNat : Int)] (by rfl) hr5 rfl Tryz.sizeHead (fun u hu => by simp only [List.mem_cons, List.not_mem_nil, or_false] at hu; rcases hu with rfl | rfl | rfl | rfl | rfl | rfl | rfl | rfl | rfl <;> rfl) ?_; intro w6 hr6 hf6 hz6))
      rw [HCS.out]
      refine ret_agg (k := 2) (cs := [.int .i64 (v.n : Int), .int .u8 (s0.toNat : Int), .int .u8 (s1.toNat : Int), .int .u8 (s2.toNat : Int), .int .u8 (s3.toNat : Int), .int .u8 (s4.toNat : Int), .int .u8 (s5.toNat : Int), .int .u8 (s6.toNat : Int), .int .u8 (s7.toNat : Int)]) rfl rfl hr6 Tryz.underlying98 rfl Tryz.sizeHead rfl ⟨rfl, ?_⟩
      have h7 := HBW.out.trans (hb5.mono HBW.out.size)
      exact h7.trans (hf6.below h7.size (fun k hk => by omega))
end Go.Proofs.YthhfmcfbiloeiaaGreat
