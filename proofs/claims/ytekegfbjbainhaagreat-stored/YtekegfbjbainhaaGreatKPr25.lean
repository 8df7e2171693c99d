/- The log's head, walked. -/
import Derived.Test.YtekegfbjbainhaaGreatKJoin12
namespace Go.Proofs.YtekegfbjbainhaaGreat
set_option linter.unusedVariables false
set_option linter.unusedSimpArgs false
open Go.RowKit

def rootOf (nd : Nd) : List UInt8 := digB (codeB nd.level nd.its)
/-- A head as a value. -/
def headC (n : Nat) (sum : List UInt8) : List Value := .int .i64 (n : Int) :: sum.map u8c
def z9 : List Value := [.int .i64 0, .int .u8 0, .int .u8 0, .int .u8 0, .int .u8 0, .int .u8 0, .int .u8 0, .int .u8 0, .int .u8 0]
theorem Tryz.sizeHead : (Tryz.prog.info? 98).map (·.size) = some 9 := by kernel_rfl
theorem digsC_one (l : List (List UInt8)) : ∀ u ∈ digsC l, u.oneCell' = true := fun u hu => by
  obtain ⟨d, _, hd⟩ := List.mem_flatMap.1 hu
  obtain ⟨x, _, rfl⟩ := List.mem_map.1 hd
  rfl

set_option maxRecDepth 100000 in
set_option maxHeartbeats 400000 in
theorem commits_any (sb : Nat) (tr : SlR) (w : World) (h2 : w.cell? ⟨sb, 2, none⟩ = some (.slice tr.a tr.n tr.cap)) (h40 : tr.n ≤ 40) :
    Calls Tryz.prog 94 #[.pointer (some ⟨sb, 0, none⟩)] w fun e w' => e = .returned (.int .i64 (tr.n : Int)) ∧ w' = w := by
  have hnI : (tr.n : Int) ≤ 40 := by omega
  go_enter Tryz.func94, Tryz.ntmps94
  go_wp2
  go_ret
  exact ⟨rfl, rfl⟩

set_option maxRecDepth 100000 in
set_option maxHeartbeats 4000000 in
theorem roots_any (sb n : Nat) (tr : SlR) (tds : List Nd) (w : World) (h2 : w.cell? ⟨sb, 2, none⟩ = some tr.val) (hs : SlV w tr.a (tds.map (fun x => ptrV x.b))) (hn : tr.n = tds.length) (h40 : tds.length ≤ 40) (hnd : ∀ nd ∈ tds, NdOk w nd) (hle : n ≤ tds.length) :
    Calls Tryz.prog 96 #[.pointer (some ⟨sb, 0, none⟩), .int .i64 (n : Int)] w fun e w' => ∃ v : SlR, e = .returned v.val ∧ w'.ownsRow w.heap.size 36 8 v.val n (digsC ((tds.take n).map rootOf)) ∧ Below w.heap.size w w' := by
  have HQ : Hid (∀ (wr : World), Below w.heap.size w wr → ∀ k (hk : k < tds.length), ∃ b o, tr.a = some ⟨b, o, none⟩ ∧ wr.cell? ⟨b, o + k, none⟩ = some (.pointer (some ⟨tds[k].b, 0, none⟩)) ∧ NdOk wr tds[k]) := fun wr hB k hk => by
    obtain ⟨b, o, ha, hb, hc⟩ := hs k (by simpa using hk)
    refine ⟨b, o, ha, ?_, (hnd _ (List.getElem_mem hk)).below hB⟩
    rw [hB.cell (p := ⟨b, o + k, none⟩) hb, hc]
    simp [ptrV]
  have HS : Hid (∀ (wr : World), Below w.heap.size w wr → wr.cell? ⟨sb, 2, none⟩ = some (.slice tr.a tr.n tr.cap)) := fun wr hB => by
    have hlt := World.block_lt_of_cell? _ _ h2
    rw [hB.cell (p := ⟨sb, 2, none⟩) hlt]; exact h2
  have HN : Hid (tr.n = tds.length) := hn
  have hnI : (tr.n : Int) ≤ 40 := by omega
  have h40' : tr.n ≤ 40 := by omega
  have hnn : n ≤ tr.n := by omega
  have hnnI : (n : Int) ≤ 40 := by omega
  clear hs hn hnd h40 h2 hle
  go_enter Tryz.func96, Tryz.ntmps96
  go_wp2
  go_loopw [5, 6, 8] (fun rv _ ix wr => ∃ (k : Nat) (v : SlR), k ≤ n ∧ ix = .int .i64 k ∧ rv = v.val ∧ Hid (wr.ownsRow w.heap.size 36 8 v.val ((tds.take k).map rootOf).length (digsC ((tds.take k).map rootOf)) ∧ Below w.heap.size w wr)) (fun _ _ ix _ => n - (intOf ix).toNat)
  case atStart => exact ⟨0, ⟨none, 0, 0⟩, by omega, by simp, rfl, World.ownsRow_nil _ _ _ _, Below.refl _ _⟩
  case round =>
    obtain ⟨k, v, hk, rfl, rfl, HX⟩ := hrel
    by_cases hlt : k < n
    · have hltI : (k : Int) < n := by omega
      have hltT : k < tr.n := by omega
      have hltTI : (k : Int) < tr.n := by omega
      have hkl : k < tds.length := by have := HN.out; omega
      have hst := HS.out wr HX.out.2
      obtain ⟨b, o, hta, hc, hndk⟩ := HQ.out wr HX.out.2 k hkl
      have HTK : Hid ((tds.take (k + 1)).map rootOf = (tds.take k).map rootOf ++ [rootOf tds[k]]) := by unfold Hid; rw [List.take_succ_eq_append_getElem hkl, List.map_append]; rfl
      obtain ⟨ta, tn, tc⟩ := tr
      simp only at hta hltI hlt hk hnI h40' HN hst hltT hltTI hnn
      subst hta
      generalize tds[k] = nd at *
      obtain ⟨x0, x1, x2, x3, x4, x5, x6, x7, hy⟩ := list8 (digB (codeB nd.level nd.its)) rfl
      have hrw := hndk.row
      rw [ndC_list nd hy] at hrw
      have g0 : wr.cell? ⟨nd.b, 2, none⟩ = some (.int .u8 (x0.toNat : Int)) := hrw.cell 2 (by simp)
      have g1 : wr.cell? ⟨nd.b, 3, none⟩ = some (.int .u8 (x1.toNat : Int)) := hrw.cell 3 (by simp)
      have g2 : wr.cell? ⟨nd.b, 4, none⟩ = some (.int .u8 (x2.toNat : Int)) := hrw.cell 4 (by simp)
      have g3 : wr.cell? ⟨nd.b, 5, none⟩ = some (.int .u8 (x3.toNat : Int)) := hrw.cell 5 (by simp)
      have g4 : wr.cell? ⟨nd.b, 6, none⟩ = some (.int .u8 (x4.toNat : Int)) := hrw.cell 6 (by simp)
      have g5 : wr.cell? ⟨nd.b, 7, none⟩ = some (.int .u8 (x5.toNat : Int)) := hrw.cell 7 (by simp)
      have g6 : wr.cell? ⟨nd.b, 8, none⟩ = some (.int .u8 (x6.toNat : Int)) := hrw.cell 8 (by simp)
      have g7 : wr.cell? ⟨nd.b, 9, none⟩ = some (.int .u8 (x7.toNat : Int)) := hrw.cell 9 (by simp)
      have HRO : Hid ([x0, x1, x2, x3, x4, x5, x6, x7] = rootOf nd) := hy.symm
      have HLL : Hid (((tds.take k).map rootOf).length ≤ 40) := by unfold Hid; rw [List.length_map, List.length_take]; omega
      have HOX : Hid ((wr.alloc (.cells #[.int .u8 (x0.toNat : Int), .int .u8 (x1.toNat : Int), .int .u8 (x2.toNat : Int), .int .u8 (x3.toNat : Int), .int .u8 (x4.toNat : Int), .int .u8 (x5.toNat : Int), .int .u8 (x6.toNat : Int), .int .u8 (x7.toNat : Int)] 36)).ownsRow w.heap.size 36 8 (.slice v.a v.n v.cap) ((tds.take k).map rootOf).length (digsC ((tds.take k).map rootOf))) := HX.out.1.alloc _
      have HSX : Hid (SlV (wr.alloc (.cells #[.int .u8 (x0.toNat : Int), .int .u8 (x1.toNat : Int), .int .u8 (x2.toNat : Int), .int .u8 (x3.toNat : Int), .int .u8 (x4.toNat : Int), .int .u8 (x5.toNat : Int), .int .u8 (x6.toNat : Int), .int .u8 (x7.toNat : Int)] 36)) (some ⟨wr.heap.size, 0, none⟩) [.int .u8 (x0.toNat : Int), .int .u8 (x1.toNat : Int), .int .u8 (x2.toNat : Int), .int .u8 (x3.toNat : Int), .int .u8 (x4.toNat : Int), .int .u8 (x5.toNat : Int), .int .u8 (x6.toNat : Int), .int .u8 (x7.toNat : Int)]) := SlV.alloc_new wr _ _
      have H1X : Hid (∀ u ∈ ([.int .u8 (x0.toNat : Int), .int .u8 (x1.toNat : Int), .int .u8 (x2.toNat : Int), .int .u8 (x3.toNat : Int), .int .u8 (x4.toNat : Int), .int .u8 (x5.toNat : Int), .int .u8 (x6.toNat : Int), .int .u8 (x7.toNat : Int)] : List Value), u.oneCell' = true) := digsC_one [[x0, x1, x2, x3, x4, x5, x6, x7]]
      have HBW : Hid (Below w.heap.size w (wr.alloc (.cells #[.int .u8 (x0.toNat : Int), .int .u8 (x1.toNat : Int), .int .u8 (x2.toNat : Int), .int .u8 (x3.toNat : Int), .int .u8 (x4.toNat : Int), .int .u8 (x5.toNat : Int), .int .u8 (x6.toNat : Int), .int .u8 (x7.toNat : Int)] 36))) := HX.out.2.alloc HX.out.2.size _
      have HSZ : Hid (w.heap.size ≤ (wr.alloc (.cells #[.int .u8 (x0.toNat : Int), .int .u8 (x1.toNat : Int), .int .u8 (x2.toNat : Int), .int .u8 (x3.toNat : Int), .int .u8 (x4.toNat : Int), .int .u8 (x5.toNat : Int), .int .u8 (x6.toNat : Int), .int .u8 (x7.toNat : Int)] 36)).heap.size) := by have := HX.out.2.size; unfold Hid; simp; omega
      clear hrw hndk hy
      unfold SlR.val
      go_wp2_with (at_builtin; refine wp_appendV (by rfl) (.tmp 11) (.tmp 22) 41 (by rfl) w.heap.size 36 _ 8 8 Tryz.underlying41 Tryz.infoDigs rfl (by decide) (.slice v.a v.n v.cap) ((tds.take k).map rootOf).length (digsC ((tds.take k).map rootOf)) (by rfl) HOX.out (some ⟨wr.heap.size, 0, none⟩) 1 1 [.int .u8 (x0.toNat : Int), .int .u8 (x1.toNat : Int), .int .u8 (x2.toNat : Int), .int .u8 (x3.toNat : Int), .int .u8 (x4.toNat : Int), .int .u8 (x5.toNat : Int), .int .u8 (x6.toNat : Int), .int .u8 (x7.toNat : Int)] (by rfl) rfl HSX.out (fun h => by cases h) H1X.out (by have := HLL.out; unfold maxLen; omega) (by have := HLL.out; omega) HSZ.out ?_; intro v3 w3 ho3 hf3 hat3; obtain ⟨a3, c3, hv3, _⟩ := owns_form ho3; subst hv3; obtain ⟨n3, hn3⟩ : ∃ n3, n3 = ((tds.take k).map rootOf).length + 1 := ⟨_, rfl⟩; rw [← hn3] at ho3 ⊢; have HN3 : Hid (n3 = ((tds.take k).map rootOf).length + 1) := hn3; clear hn3)
      refine ⟨⟨k + 1, ⟨a3, n3, c3⟩, by omega, by go_num, rfl, ?_, ?_⟩, by simp [intOf]; omega⟩
      · rw [HTK.out, List.length_append]
        have e1 : digsC ((tds.take k).map rootOf ++ [rootOf nd]) = digsC ((tds.take k).map rootOf) ++ [.int .u8 (x0.toNat : Int), .int .u8 (x1.toNat : Int), .int .u8 (x2.toNat : Int), .int .u8 (x3.toNat : Int), .int .u8 (x4.toNat : Int), .int .u8 (x5.toNat : Int), .int .u8 (x6.toNat : Int), .int .u8 (x7.toNat : Int)] := by
          rw [← HRO.out]; simp [digsC, u8c]
        rw [e1, List.length_singleton, ← HN3.out]; exact ho3
      · exact HBW.out.trans (hf3.below HBW.out.size (fun q hq => by have := (HOX.out.lt q hq).1; omega))
    · obtain rfl : k = n := by omega
      have HLK : Hid (((tds.take k).map rootOf).length = k) := by unfold Hid; have := HN.out; simp; omega
      go_wp2
      go_ret
      have h1 := HX.out.1
      rw [HLK.out] at h1
      exact ⟨v, rfl, h1, HX.out.2⟩

set_option maxRecDepth 100000 in
set_option maxHeartbeats 4000000 in
theorem head_any (sb : Nat) (tr : SlR) (tds : List Nd) (w : World) (h2 : w.cell? ⟨sb, 2, none⟩ = some tr.val) (hs : SlV w tr.a (tds.map (fun x => ptrV x.b))) (hn : tr.n = tds.length) (h40 : tds.length ≤ 40) (hnd : ∀ nd ∈ tds, NdOk w nd) :
    Calls Tryz.prog 83 #[.pointer (some ⟨sb, 0, none⟩)] w fun e w' => e = .returned (.agg (headC tds.length (sumF 42 (tds.map rootOf))).toArray) ∧ Below w.heap.size w w' := by
  have hB0 : Below w.heap.size w (w.alloc (.cells z9.toArray 98)) := (Below.refl _ _).alloc (Nat.le_refl _) _
  have HR0 : Hid (RowV (w.alloc (.cells z9.toArray 98)) w.heap.size 98 z9) := RowV.new w _ _
  have h2' : (w.alloc (.cells z9.toArray 98)).cell? ⟨sb, 2, none⟩ = some tr.val := by
    have hlt := World.block_lt_of_cell? _ _ h2
    rw [hB0.cell (p := ⟨sb, 2, none⟩) hlt]; exact h2
  have HCM : Hid (Calls _ _ _ _ _) := commits_any sb tr _ h2' (by omega)
  have HRT : Hid (Calls _ _ _ _ _) := roots_any sb tds.length tr tds _ h2' (SlV.below_all hs hB0) hn h40 (fun nd hx => (hnd nd hx).below hB0) (Nat.le_refl _)
  have HB0 : Hid (Below w.heap.size w (w.alloc (.cells z9.toArray 98))) := hB0
  rw [List.take_of_length_le (Nat.le_refl _)] at HRT
  have HN : Hid (tr.n = tds.length) := hn
  have H40 : Hid (tds.length ≤ 40) := h40
  rw [← hn] at HRT
  clear hs hn hnd h40 h2 h2' hB0
  unfold z9 at HCM HRT HR0 HB0
  go_enter Tryz.func83, Tryz.ntmps83
  go_wp2_with fail
  refine HCM.out.mono ?_
  rintro e w1 ⟨rfl, hw1⟩
  subst hw1
  go_wp2_with fail
  refine HRT.out.mono ?_
  rintro e w2 ⟨v, rfl, ho2, hb2⟩
  obtain ⟨hv1, hvn, hvm, _⟩ := owns_cap (a := v.a) (n' := v.n) (cap := v.cap) ho2
  have hsd : SlD w2 v.a (tds.map rootOf) := ⟨(SlV.ofOwn (s := v) ho2).1, fun d hd => by obtain ⟨nd, _, rfl⟩ := List.mem_map.1 hd; rfl⟩
  have hvl : v.n = (tds.map rootOf).length := by rw [hv1, HN.out]; simp
  have HSC : Hid (Calls _ _ _ _ _) := sumP_any 42 (tds.map rootOf) v.a v.cap w2 (by simp; have := H40.out; omega) (by simp; have := H40.out; omega) (by rw [← hvl, hv1]; exact hvn) (by unfold maxLen at hvm; omega) hsd
  rw [← hvl] at HSC
  obtain ⟨s0, s1, s2, s3, s4, s5, s6, s7, hss⟩ := list8 (sumF 42 (tds.map rootOf)) (sumF_length 41 _)
  have HVS : Hid (dV (sumF 42 (tds.map rootOf)) = .agg #[.int .u8 (s0.toNat : Int), .int .u8 (s1.toNat : Int), .int .u8 (s2.toNat : Int), .int .u8 (s3.toNat : Int), .int .u8 (s4.toNat : Int), .int .u8 (s5.toNat : Int), .int .u8 (s6.toNat : Int), .int .u8 (s7.toNat : Int)]) := by unfold Hid; rw [hss]; rfl
  have HCS : Hid (headC tds.length (sumF 42 (tds.map rootOf)) = [.int .i64 (tr.n : Int), .int .u8 (s0.toNat : Int), .int .u8 (s1.toNat : Int), .int .u8 (s2.toNat : Int), .int .u8 (s3.toNat : Int), .int .u8 (s4.toNat : Int), .int .u8 (s5.toNat : Int), .int .u8 (s6.toNat : Int), .int .u8 (s7.toNat : Int)]) := by unfold Hid; rw [hss, HN.out]; rfl
  have hr2 := RowV.below HR0.out HR0.out.lt hb2
  have HRW : Hid (∀ W, Below w2.heap.size w2 W → RowV W w.heap.size 98 z9) := fun W hW => RowV.below hr2 hr2.lt hW
  have HBW : Hid (Below w.heap.size w w2) := HB0.out.trans (hb2.mono (by simp))
  clear hv1 hvn hvm hsd hvl hr2 ho2 hb2 HRT HCM HR0 HB0
  unfold SlR.val
  go_wp2_with (first
    | (go_at_call 119; refine HSC.out.mono ?_; rintro e w5 ⟨rfl, hb5⟩; rw [HVS.out]; have hr5 := HRW.out w5 hb5)
    | (refine wp_storeR (by rfl) 98 (.tmp 2) (.tmp 11) (by rfl) w.heap.size (by rfl) [.int .i64 (tr.n : Int), .int .u8 (s0.toNat : Int), .int .u8 (s1.toNat : Int), .int .u8 (s2.toNat : Int), .int .u8 (s3.toNat : Int), .int .u8 (s4.toNat : Int), .int .u8 (s5.toNat : Int), .int .u8 (s6.toNat : Int), .int .u8 (s7.toNat : Int)] (by rfl) hr5 rfl Tryz.sizeHead (fun u hu => by simp only [List.mem_cons, List.not_mem_nil, or_false] at hu; rcases hu with rfl | rfl | rfl | rfl | rfl | rfl | rfl | rfl | rfl <;> rfl) ?_; intro w6 hr6 hf6 hz6))
  rw [HCS.out]
  refine ret_agg (k := 2) (cs := [.int .i64 (tr.n : Int), .int .u8 (s0.toNat : Int), .int .u8 (s1.toNat : Int), .int .u8 (s2.toNat : Int), .int .u8 (s3.toNat : Int), .int .u8 (s4.toNat : Int), .int .u8 (s5.toNat : Int), .int .u8 (s6.toNat : Int), .int .u8 (s7.toNat : Int)]) rfl rfl hr6 Tryz.underlying98 rfl Tryz.sizeHead rfl ⟨rfl, ?_⟩
  have h7 := HBW.out.trans (hb5.mono HBW.out.size)
  exact h7.trans (hf6.below h7.size (fun k hk => by omega))
end Go.Proofs.YtekegfbjbainhaaGreat
