import Derived.Test.YtekegfbjbainhaaKJoin10
set_option linter.unusedVariables false
set_option linter.unusedSimpArgs false

namespace Go.Proofs.Ytekegfbjbainhaa
open Go.RowKit
def rootOf (nd : Nd) : List UInt8 := digB (codeB nd.level nd.its)
def headC (n : Nat) (sum : List UInt8) : List Value := .int .i64 (n : Int) :: sum.map u8c
def z9 : List Value := [.int .i64 0, .int .u8 0, .int .u8 0, .int .u8 0, .int .u8 0, .int .u8 0, .int .u8 0, .int .u8 0, .int .u8 0]
theorem Try.sizeHead : (Try.prog.info? 47).map (·.size) = some 9 := by kernel_rfl
theorem digsC_one (l : List (List UInt8)) : ∀ u ∈ digsC l, u.oneCell' = true := fun u hu => by
 obtain ⟨d, _, hd⟩ := List.mem_flatMap.1 hu
 obtain ⟨x, _, rfl⟩ := List.mem_map.1 hd
 rfl
set_option maxRecDepth 100000 in
set_option maxHeartbeats 400000 in
theorem commits_any (sb : Nat) (tr : SlR) (w : World) (h2 : w.cell? ⟨sb, 2, none⟩ = some (.slice tr.a tr.n tr.cap)) (h40 : tr.n ≤ 40) :
  Calls Try.prog 45 #[.pointer (some ⟨sb, 0, none⟩)] w fun e w' => e = .returned (.int .i64 (tr.n : Int)) ∧ w' = w := by
 have hnI : (tr.n : Int) ≤ 40 := by omega
 go_enter Try.func45, Try.ntmps45
 go_wp2
 go_ret
 exact ⟨rfl, rfl⟩
set_option maxRecDepth 100000 in
set_option maxHeartbeats 4000000 in
theorem roots_any (sb n : Nat) (tr : SlR) (tds : List Nd) (w : World) (h2 : w.cell? ⟨sb, 2, none⟩ = some tr.val) (hs : SlV w tr.a (tds.map (fun x => ptrV x.b))) (hn : tr.n = tds.length) (h40 : tds.length ≤ 40) (hnd : ∀ nd ∈ tds, NdOk w nd) (hle : n ≤ tds.length) :
  Calls Try.prog 47 #[.pointer (some ⟨sb, 0, none⟩), .int .i64 (n : Int)] w fun e w' => ∃ v : SlR, e = .returned v.val ∧ w'.ownsRow w.heap.size 45 8 v.val n (digsC ((tds.take n).map rootOf)) ∧ Below w.heap.size w w' := by
 have HQ : Hid (∀ (wr : World), Below w.heap.size w wr → ∀ k (hk : k < tds.length), ∃ b o, tr.a = some ⟨b, o, none⟩ ∧ wr.cell? ⟨b, o + k, none⟩ = some (.pointer (some ⟨tds[k].b, 0, none⟩)) ∧ NdOk wr tds[k]) := fun wr hB k hk => by
  obtain ⟨b, o, ha, hb, hc⟩ := hs k (by simpa using hk)
  refine ⟨b, o, ha, ?_, (hnd _ (List.getElem_mem hk)).below hB⟩
  rw [hB.cell (p := ⟨b, o + k, none⟩) hb, hc]
  simp [ptrV]
 have HS : Hid (∀ (wr : World), Below w.heap.size w wr → wr.cell? ⟨sb, 2, none⟩ = some (.slice tr.a tr.n tr.cap)) := fun wr hB => by
  have hlt := World.block_lt_of_cell? _ _ h2
  rw [hB.cell (p := ⟨sb, 2, none⟩) hlt]; exact h2
 have HN : Hid (tr.n = tds.length) := hn
 have hnI : (tr.n : Int) ≤ 40 := by omega
 have h40' : tr.n ≤ 40 := by omega
 have hnn : n ≤ tr.n := by omega
 have hnnI : (n : Int) ≤ 40 := by omega
 clear hs hn hnd h40 h2 hle
 go_enter Try.func47, Try.ntmps47
 go_wp2
 go_loopw [5, 6, 8] (fun rv _ ix wr => ∃ (k : Nat) (v : SlR), k ≤ n ∧ ix = .int .i64 k ∧ rv = v.val ∧ Hid (wr.ownsRow w.heap.size 45 8 v.val ((tds.take k).map rootOf).length (digsC ((tds.take k).map rootOf)) ∧ Below w.heap.size w wr)) (fun _ _ ix _ => n - (intOf ix).toNat)
 case atStart => exact ⟨0, ⟨none, 0, 0⟩, by omega, by simp, rfl, World.ownsRow_nil _ _ _ _, Below.refl _ _⟩
 case round =>
  obtain ⟨k, v, hk, rfl, rfl, HX⟩ := hrel
  by_cases hlt : k < n
  ·have hltI : (k : Int) < n := by omega
   have hltT : k < tr.n := by omega
   have hltTI : (k : Int) < tr.n := by omega
   have hkl : k < tds.length := by have := HN.out; omega
   have hst := HS.out wr HX.out.2
   obtain ⟨b, o, hta, hc, hndk⟩ := HQ.out wr HX.out.2 k hkl
   have HTK : Hid ((tds.take (k + 1)).map rootOf = (tds.take k).map rootOf ++ [rootOf tds[k]]) := by unfold Hid; rw [List.take_succ_eq_append_getElem hkl, List.map_append]; rfl
   obtain ⟨ta, tn, tc⟩ := tr
   simp only at hta hltI hlt hk hnI h40' HN hst hltT hltTI hnn
   subst hta
   generalize tds[k] = nd at *
   obtain ⟨x0, x1, x2, x3, x4, x5, x6, x7, hy⟩ := list8 (digB (codeB nd.level nd.its)) rfl
   have hrw := hndk.row
   rw [ndC_list nd hy] at hrw
   have g0 : wr.cell? ⟨nd.b, 2, none⟩ = some (.int .u8 (x0.toNat : Int)) := hrw.cell 2 (by simp)
   have g1 : wr.cell? ⟨nd.b, 3, none⟩ = some (.int .u8 (x1.toNat : Int)) := hrw.cell 3 (by simp)
   have g2 : wr.cell? ⟨nd.b, 4, none⟩ = some (.int .u8 (x2.toNat : Int)) := hrw.cell 4 (by simp)
   have g3 : wr.cell? ⟨nd.b, 5, none⟩ = some (.int .u8 (x3.toNat : Int)) := hrw.cell 5 (by simp)
   have g4 : wr.cell? ⟨nd.b, 6, none⟩ = some (.int .u8 (x4.toNat : Int)) := hrw.cell 6 (by simp)
   have g5 : wr.cell? ⟨nd.b, 7, none⟩ = some (.int .u8 (x5.toNat : Int)) := hrw.cell 7 (by simp)
   have g6 : wr.cell? ⟨nd.b, 8, none⟩ = some (.int .u8 (x6.toNat : Int)) := hrw.cell 8 (by simp)
   have g7 : wr.cell? ⟨nd.b, 9, none⟩ = some (.int .u8 (x7.toNat : Int)) := hrw.cell 9 (by simp)
   have HRO : Hid ([x0, x1, x2, x3, x4, x5, x6, x7] = rootOf nd) := hy.symm
   have HLL : Hid (((tds.take k).map rootOf).length ≤ 40) := by unfold Hid; rw [List.length_map, List.length_take]; omega
   have HOX : Hid ((wr.alloc (.cells #[.int .u8 (x0.toNat : Int), .int .u8 (x1.toNat : Int), .int .u8 (x2.toNat : Int), .int .u8 (x3.toNat : Int), .int .u8 (x4.toNat : Int), .int .u8 (x5.toNat : Int), .int .u8 (x6.toNat : Int), .int .u8 (x7.toNat : Int)] 45)).ownsRow w.heap.size 45 8 (.slice v.a v.n v.cap) ((tds.take k).map rootOf).length (digsC ((tds.take k).map rootOf))) := HX.out.1.alloc _
   have HSX : Hid (SlV (wr.alloc (.cells #[.int .u8 (x0.toNat : Int), .int .u8 (x1.toNat : Int), .int .u8 (x2.toNat : Int), .int .u8 (x3.toNat : Int), .int .u8 (x4.toNat : Int), .int .u8 (x5.toNat : Int), .int .u8 (x6.toNat : Int), .int .u8 (x7.toNat : Int)] 45)) (some ⟨wr.heap.size, 0, none⟩) [.int .u8 (x0.toNat : Int), .int .u8 (x1.toNat : Int), .int .u8 (x2.toNat : Int), .int .u8 (x3.toNat : Int), .int .u8 (x4.toNat : Int), .int .u8 (x5.toNat : Int), .int .u8 (x6.toNat : Int), .int .u8 (x7.toNat : Int)]) := SlV.alloc_new wr _ _
   have H1X : Hid (∀ u ∈ ([.int .u8 (x0.toNat : Int), .int .u8 (x1.toNat : Int), .int .u8 (x2.toNat : Int), .int .u8 (x3.toNat : Int), .int .u8 (x4.toNat : Int), .int .u8 (x5.toNat : Int), .int .u8 (x6.toNat : Int), .int .u8 (x7.toNat : Int)] : List Value), u.oneCell' = true) := digsC_one [[x0, x1, x2, x3, x4, x5, x6, x7]]
   have HBW : Hid (Below w.heap.size w (wr.alloc (.cells #[.int .u8 (x0.toNat : Int), .int .u8 (x1.toNat : Int), .int .u8 (x2.toNat : Int), .int .u8 (x3.toNat : Int), .int .u8 (x4.toNat : Int), .int .u8 (x5.toNat : Int), .int .u8 (x6.toNat : Int), .int .u8 (x7.toNat : Int)] 45))) := HX.out.2.alloc HX.out.2.size _
   have HSZ : Hid (w.heap.size ≤ (wr.alloc (.cells #[.int .u8 (x0.toNat : Int), .int .u8 (x1.toNat : Int), .int .u8 (x2.toNat : Int), .int .u8 (x3.toNat : Int), .int .u8 (x4.toNat : Int), .int .u8 (x5.toNat : Int), .int .u8 (x6.toNat : Int), .int .u8 (x7.toNat : Int)] 45)).heap.size) := by have := HX.out.2.size; unfold Hid; simp; omega
   clear hrw hndk hy
   unfold SlR.val
   go_wp2_with (at_builtin; refine wp_appendV (by rfl) (.tmp 11) (.tmp 22) 73 (by rfl) w.heap.size 45 _ 8 8 Try.underlying73 Try.infoDigs rfl (by decide) (.slice v.a v.n v.cap) ((tds.take k).map rootOf).length (digsC ((tds.take k).map rootOf)) (by rfl) HOX.out (some ⟨wr.heap.size, 0, none⟩) 1 1 [.int .u8 (x0.toNat : Int), .int .u8 (x1.toNat : Int), .int .u8 (x2.toNat : Int), .int .u8 (x3.toNat : Int), .int .u8 (x4.toNat : Int), .int .u8 (x5.toNat : Int), .int .u8 (x6.toNat : Int), .int .u8 (x7.toNat : Int)] (by rfl) rfl HSX.out (fun h => by cases h) H1X.out (by have := HLL.out; unfold maxLen; omega) (by have := HLL.out; omega) HSZ.out ?_; intro v3 w3 ho3 hf3 hat3; obtain ⟨a3, c3, hv3, _⟩ := owns_form ho3; subst hv3; obtain ⟨n3, hn3⟩ : ∃ n3, n3 = ((tds.take k).map rootOf).length + 1 := ⟨_, rfl⟩; rw [← hn3] at ho3 ⊢; have HN3 : Hid (n3 = ((tds.take k).map rootOf).length + 1) := hn3; clear hn3)
   refine ⟨⟨k + 1, ⟨a3, n3, c3⟩, by omega, by go_num, rfl, ?_, ?_⟩, by simp [intOf]; omega⟩
   ·rw [HTK.out, List.length_append]
    have e1 : digsC ((tds.take k).map rootOf ++ [rootOf nd]) = digsC ((tds.take k).map rootOf) ++ [.int .u8 (x0.toNat : Int), .int .u8 (x1.toNat : Int), .int .u8 (x2.toNat : Int), .int .u8 (x3.toNat : Int), .int .u8 (x4.toNat : Int), .int .u8 (x5.toNat : Int), .int .u8 (x6.toNat : Int), .int .u8 (x7.toNat : Int)] := by
     rw [← HRO.out]; simp [digsC, u8c]
    rw [e1, List.length_singleton, ← HN3.out]; exact ho3
   ·exact HBW.out.trans (hf3.below HBW.out.size (fun q hq => by have := (HOX.out.lt q hq).1; omega))
  ·obtain rfl : k = n := by omega
   have HLK : Hid (((tds.take k).map rootOf).length = k) := by unfold Hid; have := HN.out; simp; omega
   go_wp2
   go_ret
   have h1 := HX.out.1
   rw [HLK.out] at h1
   exact ⟨v, rfl, h1, HX.out.2⟩
set_option maxRecDepth 100000 in
set_option maxHeartbeats 4000000 in
theorem head_any (sb : Nat) (tr : SlR) (tds : List Nd) (w : World) (h2 : w.cell? ⟨sb, 2, none⟩ = some tr.val) (hs : SlV w tr.a (tds.map (fun x => ptrV x.b))) (hn : tr.n = tds.length) (h40 : tds.length ≤ 40) (hnd : ∀ nd ∈ tds, NdOk w nd) :
  Calls Try.prog 57 #[.pointer (some ⟨sb, 0, none⟩)] w fun e w' => e = .returned (.agg (headC tds.length (sumF 42 (tds.map rootOf))).toArray) ∧ Below w.heap.size w w' := by
 have hB0 : Below w.heap.size w (w.alloc (.cells z9.toArray 47)) := (Below.refl _ _).alloc (Nat.le_refl _) _
 have HR0 : Hid (RowV (w.alloc (.cells z9.toArray 47)) w.heap.size 47 z9) := RowV.new w _ _
 have h2' : (w.alloc (.cells z9.toArray 47)).cell? ⟨sb, 2, none⟩ = some tr.val := by
  have hlt := World.block_lt_of_cell? _ _ h2
  rw [hB0.cell (p := ⟨sb, 2, none⟩) hlt]; exact h2
 have HCM : Hid (Calls _ _ _ _ _) := commits_any sb tr _ h2' (by omega)
 have HRT : Hid (Calls _ _ _ _ _) := roots_any sb tds.length tr tds _ h2' (SlV.below_all hs hB0) hn h40 (fun nd hx => (hnd nd hx).below hB0) (Nat.le_refl _)
 have HB0 : Hid (Below w.heap.size w (w.alloc (.cells z9.toArray 47))) := hB0
 rw [List.take_of_length_le (Nat.le_refl _)] at HRT
 have HN : Hid (tr.n = tds.length) := hn
 have H40 : Hid (tds.length ≤ 40) := h40
 rw [← hn] at HRT
 clear hs hn hnd h40 h2 h2' hB0
 unfold z9 at HCM HRT HR0 HB0
 go_enter Try.func57, Try.ntmps57
 go_wp2_with fail
 refine HCM.out.mono ?_
 rintro e w1 ⟨rfl, hw1⟩
 subst hw1
 go_wp2_with fail
 refine HRT.out.mono ?_
 rintro e w2 ⟨v, rfl, ho2, hb2⟩
 obtain ⟨hv1, hvn, hvm, _⟩ := owns_cap (a := v.a) (n' := v.n) (cap := v.cap) ho2
 have hsd : SlD w2 v.a (tds.map rootOf) := ⟨(SlV.ofOwn (s := v) ho2).1, fun d hd => by obtain ⟨nd, _, rfl⟩ := List.mem_map.1 hd; rfl⟩
 have hvl : v.n = (tds.map rootOf).length := by rw [hv1, HN.out]; simp
 have HSC : Hid (Calls _ _ _ _ _) := sumP_any 42 (tds.map rootOf) v.a v.cap w2 (by simp; have := H40.out; omega) (by simp; have := H40.out; omega) (by rw [← hvl, hv1]; exact hvn) (by unfold maxLen at hvm; omega) hsd
 rw [← hvl] at HSC
 obtain ⟨s0, s1, s2, s3, s4, s5, s6, s7, hss⟩ := list8 (sumF 42 (tds.map rootOf)) (sumF_length 41 _)
 have HVS : Hid (dV (sumF 42 (tds.map rootOf)) = .agg #[.int .u8 (s0.toNat : Int), .int .u8 (s1.toNat : Int), .int .u8 (s2.toNat : Int), .int .u8 (s3.toNat : Int), .int .u8 (s4.toNat : Int), .int .u8 (s5.toNat : Int), .int .u8 (s6.toNat : Int), .int .u8 (s7.toNat : Int)]) := by unfold Hid; rw [hss]; rfl
 have HCS : Hid (headC tds.length (sumF 42 (tds.map rootOf)) = [.int .i64 (tr.n : Int), .int .u8 (s0.toNat : Int), .int .u8 (s1.toNat : Int), .int .u8 (s2.toNat : Int), .int .u8 (s3.toNat : Int), .int .u8 (s4.toNat : Int), .int .u8 (s5.toNat : Int), .int .u8 (s6.toNat : Int), .int .u8 (s7.toNat : Int)]) := by unfold Hid; rw [hss, HN.out]; rfl
 have hr2 := RowV.below HR0.out HR0.out.lt hb2
 have HRW : Hid (∀ W, Below w2.heap.size w2 W → RowV W w.heap.size 47 z9) := fun W hW => RowV.below hr2 hr2.lt hW
 have HBW : Hid (Below w.heap.size w w2) := HB0.out.trans (hb2.mono (by simp))
 clear hv1 hvn hvm hsd hvl hr2 ho2 hb2 HRT HCM HR0 HB0
 unfold SlR.val
 go_wp2_with (first
  | (go_at_call 67; refine HSC.out.mono ?_; rintro e w5 ⟨rfl, hb5⟩; rw [HVS.out]; have hr5 := HRW.out w5 hb5)
  | (refine wp_storeR (by rfl) 47 (.tmp 2) (.tmp 11) (by rfl) w.heap.size (by rfl) [.int .i64 (tr.n : Int), .int .u8 (s0.toNat : Int), .int .u8 (s1.toNat : Int), .int .u8 (s2.toNat : Int), .int .u8 (s3.toNat : Int), .int .u8 (s4.toNat : Int), .int .u8 (s5.toNat : Int), .int .u8 (s6.toNat : Int), .int .u8 (s7.toNat : Int)] (by rfl) hr5 rfl Try.sizeHead (fun u hu => by simp only [List.mem_cons, List.not_mem_nil, or_false] at hu; rcases hu with rfl | rfl | rfl | rfl | rfl | rfl | rfl | rfl | rfl <;> rfl) ?_; intro w6 hr6 hf6 hz6))
 rw [HCS.out]
 refine ret_agg (k := 2) (cs := [.int .i64 (tr.n : Int), .int .u8 (s0.toNat : Int), .int .u8 (s1.toNat : Int), .int .u8 (s2.toNat : Int), .int .u8 (s3.toNat : Int), .int .u8 (s4.toNat : Int), .int .u8 (s5.toNat : Int), .int .u8 (s6.toNat : Int), .int .u8 (s7.toNat : Int)]) rfl rfl hr6 Try.underlying47 rfl Try.sizeHead rfl ⟨rfl, ?_⟩
 have h7 := HBW.out.trans (hb5.mono HBW.out.size)
 exact h7.trans (hf6.below h7.size (fun k hk => by omega))
end Go.Proofs.Ytekegfbjbainhaa


namespace Go.Proofs.Ytekegfbjbainhaa
open Go.RowKit
structure StoAt (w : World) (sb N : Nat) (en tr : SlR) (mp : Option Nat) (es : List MEn) (xs : List EnP) (its : List ItR) (tds : List Nd) : Prop where
 row : StoRow w sb en mp tr
 known : KnownAt w sb mp es N
 ent : EntAt w en xs its
 entf : ∀ k, entF en xs k → ¬ KMut sb mp es k
 own : w.ownsRow 0 96 1 tr.val tds.length (tds.map (fun x => ptrV x.b))
 trf : ∀ k, tr.val.ownBlock = some k → ¬ KMut sb mp es k
 nds : ∀ nd ∈ tds, NdOk w nd ∧ (∀ k, ndF nd k → ¬ KMut sb mp es k)
 rise : Rising its
 ok : ∀ x ∈ its, ItOk x
 norm : ∀ x ∈ its, x.below = 0
 len : its.length ≤ 60
def stoF (sb : Nat) (en tr : SlR) (mp : Option Nat) (es : List MEn) (xs : List EnP) (tds : List Nd) (k : Nat) : Prop := KMut sb mp es k ∨ entF en xs k ∨ KFoot es k ∨ tr.val.ownBlock = some k ∨ ∃ nd ∈ tds, ndF nd k
theorem EntAt.lt {w : World} {en : SlR} {xs : List EnP} {its : List ItR} (h : EntAt w en xs its) : ∀ k, entF en xs k → k < w.heap.size := fun k hk => by
 have hl := h.len
 rcases hk with hk | ⟨x, hx, ⟨y, hy, rfl⟩ | ⟨y, hy, rfl⟩⟩
 ·exact (h.own.lt k hk).2
 ·obtain ⟨i, hi, rfl⟩ := List.getElem_of_mem hx
  exact (h.ok i hi (by omega)).key.lt y hy
 ·obtain ⟨i, hi, rfl⟩ := List.getElem_of_mem hx
  exact (h.ok i hi (by omega)).val.lt y hy
theorem StoAt.lt {w : World} {sb N : Nat} {en tr : SlR} {mp : Option Nat} {es : List MEn} {xs : List EnP} {its : List ItR} {tds : List Nd} (h : StoAt w sb N en tr mp es xs its tds) : ∀ k, stoF sb en tr mp es xs tds k → k < w.heap.size := fun k hk => by
 rcases hk with hk | hk | hk | hk | ⟨nd, hn, hk⟩
 ·exact KMut.lt h.known (RowV.lt h.row) k hk
 ·exact h.ent.lt k hk
 ·exact KFoot.lt h.known k hk
 ·exact (h.own.lt k hk).2
 ·exact (h.nds nd hn).1.lt k hk
theorem StoAt.frame {w W : World} {S : Nat → Prop} {sb N : Nat} {en tr : SlR} {mp : Option Nat} {es : List MEn} {xs : List EnP} {its : List ItR} {tds : List Nd} (h : StoAt w sb N en tr mp es xs its tds) (hf : Frame S w W) (hS : ∀ k, stoF sb en tr mp es xs tds k → ¬ S k) : StoAt W sb N en tr mp es xs its tds :=
 ⟨RowV.of_block h.row (hf.block _ (RowV.lt h.row) (hS _ (Or.inl (Or.inl rfl)))), h.known.frameS hf (fun k hk => hS k (Or.inl hk)) (fun k hk => hS k (Or.inr (Or.inr (Or.inl hk)))), h.ent.frame hf (fun k hk => hS k (Or.inr (Or.inl hk))), h.entf, owns_frame h.own hf (fun k hk => hS k (Or.inr (Or.inr (Or.inr (Or.inl hk))))), h.trf, fun nd hn => ⟨(h.nds nd hn).1.frame hf (fun k hk => hS k (Or.inr (Or.inr (Or.inr (Or.inr ⟨nd, hn, hk⟩))))), (h.nds nd hn).2⟩, h.rise, h.ok, h.norm, h.len⟩
theorem StoAt.below {w W : World} {sb N : Nat} {en tr : SlR} {mp : Option Nat} {es : List MEn} {xs : List EnP} {its : List ItR} {tds : List Nd} (h : StoAt w sb N en tr mp es xs its tds) (hb : Below w.heap.size w W) : StoAt W sb N en tr mp es xs its tds := h.frame (Frame.of_below_all (S := fun _ => False) hb) (fun _ _ e => e)
theorem step_storeP {ops : Array Oper} {o : Oper} {a : Act} {w : World} {K : Act → World → Prop} {Q : Exit → Act → World → Prop} {E : Prop} (hgd : o.guard = none) (T : TypeId) (x y : Operand) (ho : o.op = .store T x y)
  (b : Nat) (hx : a.eval x = .pointer (some ⟨b, 0, none⟩)) (cs : List Value) (hy : a.eval y = .agg cs.toArray) {l : List Value} (hR : RowV w b T l) (hl : l.length = cs.length) (hi : (Try.prog.info? T).map (·.size) = some cs.length) (h1 : ∀ v ∈ cs, v.oneCell' = true)
  (h : ∀ w', RowV w' b T cs → Frame (fun k => k = b) w w' → K (a.put o.dst undef) w') : if Region.wanted o (yielded ops a.tmps) = true then Oper.wp Try.prog o a w K Q else E := by
 have hw : Region.wanted o (yielded ops a.tmps) = true := by simp [Region.wanted, hgd]
 rw [if_pos hw]
 refine wp_store_mid T x y ho b 0 cs.toArray hx hy (by simpa using hR.there cs.length hl.symm) (by simpa using hi) (all_oneCell_toArray h1) ?_
 exact h _ (hR.setAll _ hl.symm) (Frame.setCells (S := fun k => k = b) rfl _ _ _ (Frame.refl _ _))
theorem zero18_one : ∀ u ∈ zero18, u.oneCell' = true := by decide
def comP (n m : Nat) (x0 x1 x2 x3 x4 x5 x6 x7 s0 s1 s2 s3 s4 s5 s6 s7 : UInt8) : List Value := [(.int .i64 (n : Int)), (.int .u8 (x0.toNat : Int)), (.int .u8 (x1.toNat : Int)), (.int .u8 (x2.toNat : Int)), (.int .u8 (x3.toNat : Int)), (.int .u8 (x4.toNat : Int)), (.int .u8 (x5.toNat : Int)), (.int .u8 (x6.toNat : Int)), (.int .u8 (x7.toNat : Int)), (.int .i64 (m : Int)), (.int .u8 (s0.toNat : Int)), (.int .u8 (s1.toNat : Int)), (.int .u8 (s2.toNat : Int)), (.int .u8 (s3.toNat : Int)), (.int .u8 (s4.toNat : Int)), (.int .u8 (s5.toNat : Int)), (.int .u8 (s6.toNat : Int)), (.int .u8 (s7.toNat : Int))]
theorem comP_one {n m : Nat} {x0 x1 x2 x3 x4 x5 x6 x7 s0 s1 s2 s3 s4 s5 s6 s7 : UInt8} : ∀ v ∈ comP n m x0 x1 x2 x3 x4 x5 x6 x7 s0 s1 s2 s3 s4 s5 s6 s7, v.oneCell' = true := by
 intro v hv
 simp only [comP, List.mem_cons, List.not_mem_nil, or_false] at hv
 rcases hv with rfl | rfl | rfl | rfl | rfl | rfl | rfl | rfl | rfl | rfl | rfl | rfl | rfl | rfl | rfl | rfl | rfl | rfl <;> rfl
set_option maxRecDepth 100000 in
set_option maxHeartbeats 1000000 in
theorem commit_full (sb N : Nat) (en tr : SlR) (mp : Option Nat) (es : List MEn) (xs : List EnP) (its : List ItR) (tds : List Nd) (w : World) (h : StoAt w sb N en tr mp es xs its tds) (h40 : tds.length = 40) :
  Calls Try.prog 34 #[.pointer (some ⟨sb, 0, none⟩)] w fun e w' => e = .returned (.tuple #[.agg zero18.toArray, .int .i64 2]) ∧ Below w.heap.size w w' := by
 have hsb := RowV.lt h.row
 have htn : tr.n = 40 := by rw [← h40]; exact (SlV.ofOwn h.own).2
 have c2 : w.cell? ⟨sb, 2, none⟩ = some (.slice tr.a 40 tr.cap) := by rw [← htn]; exact RowV.cell h.row 2 (by simp)
 have c2a : (w.alloc (.cells #[.int .i64 0, .int .u8 0, .int .u8 0, .int .u8 0, .int .u8 0, .int .u8 0, .int .u8 0, .int .u8 0, .int .u8 0, .int .i64 0, .int .u8 0, .int .u8 0, .int .u8 0, .int .u8 0, .int .u8 0, .int .u8 0, .int .u8 0, .int .u8 0] 49)).cell? ⟨sb, 2, none⟩ = some (.slice tr.a 40 tr.cap) := by rw [((Below.refl w.heap.size w).alloc (Nat.le_refl _) _).cell (p := ⟨sb, 2, none⟩) hsb]; exact c2
 have HR : Hid (RowV (w.alloc (.cells #[.int .i64 0, .int .u8 0, .int .u8 0, .int .u8 0, .int .u8 0, .int .u8 0, .int .u8 0, .int .u8 0, .int .u8 0, .int .i64 0, .int .u8 0, .int .u8 0, .int .u8 0, .int .u8 0, .int .u8 0, .int .u8 0, .int .u8 0, .int .u8 0] 49)) w.heap.size 49 zero18) := RowV.new w _ _
 clear h htn
 go_enter Try.func34, Try.ntmps34
 go_wp2_with (refine wp_storeR (by rfl) 49 (.tmp 2) (.tmp 16) (by rfl) w.heap.size (by rfl) zero18 (by rfl) HR.out rfl Try.sizeCommit zero18_one ?_; intro w6 hr6 hf6 hz6)
 refine ret_agg2 (k := 2) (k2 := 3) (cs := zero18) rfl rfl rfl hr6 Try.underlying49 rfl Try.sizeCommit rfl ⟨rfl, ?_⟩
 have hA : Below w.heap.size w (w.alloc (.cells #[.int .i64 0, .int .u8 0, .int .u8 0, .int .u8 0, .int .u8 0, .int .u8 0, .int .u8 0, .int .u8 0, .int .u8 0, .int .i64 0, .int .u8 0, .int .u8 0, .int .u8 0, .int .u8 0, .int .u8 0, .int .u8 0, .int .u8 0, .int .u8 0] 49)) := (Below.refl _ _).alloc (Nat.le_refl _) _
 exact hA.trans (hf6.below hA.size (fun k hk => by omega))
end Go.Proofs.Ytekegfbjbainhaa


namespace Go.Proofs.Ytekegfbjbainhaa
open Go.RowKit
theorem KnownAt.frameSb {w W : World} {sb N : Nat} {mp : Option Nat} {es : List MEn} (K : KnownAt w sb mp es N) (hf : Frame (fun k => k = sb) w W) (hm : mp ≠ some sb) : KnownAt W sb mp es N := by
 refine ⟨?_, K.d8, fun e he => owns_frame (K.own e he) hf (fun k hk => (K.msb e he k hk).1), fun e he x hx => (K.nodes e he x hx).frame hf (fun k hk e' => K.foot e he x hx k hk (Or.inl e')), K.apart, K.foot, K.msb, K.cnt, K.kd⟩
 have h := K.map
 cases mp with
 | none => exact h
 | some m =>
  obtain ⟨arr, clock, hh, g1, g2, g3⟩ := h
  exact ⟨arr, clock, by rw [hf.block m (Array.getElem?_eq_some_iff.1 hh).1 (fun e => hm (by rw [e]))]; exact hh, g1, g2, g3⟩
theorem StoAt.mp_ne {w : World} {sb N : Nat} {en tr : SlR} {mp : Option Nat} {es : List MEn} (hR : StoRow w sb en mp tr) (K : KnownAt w sb mp es N) : mp ≠ some sb := fun e => by
 subst e
 obtain ⟨arr, clock, hh, _⟩ := K.map
 have h1 : w.heap[sb]? = _ := hR
 rw [hh] at h1; cases h1
theorem commit_fin {w W0 w1 w2 : World} {sb N M : Nat} {en tr s o : SlR} {mp mp1 : Option Nat} {es es1 : List MEn} {xs : List EnP} {its : List ItR} {tds : List Nd} {nd : Nd} (h : StoAt W0 sb N en tr mp es xs its tds) (hW0 : Below w.heap.size w W0) (hsz : ∀ k, stoF sb en tr mp es xs tds k → k < w.heap.size)
  (hst : TrSt W0 sb en tr mp es (keyF xs) w1 M mp1 es1 o [nd]) (hb2 : Below w1.heap.size w1 w2) (ho : w2.ownsRow w1.heap.size 96 1 s.val (tds.length + 1) (tds.map (fun x => ptrV x.b) ++ [ptrV nd.b])) :
  StoAt (w2.setCell ⟨sb, 2, none⟩ s.val) sb M en s mp1 es1 xs its (tds ++ [nd]) ∧ Frame (KMut sb mp es) w (w2.setCell ⟨sb, 2, none⟩ s.val) ∧ (∀ k, stoF sb en s mp1 es1 xs (tds ++ [nd]) k → k < W0.heap.size → stoF sb en tr mp es xs tds k) := by
 have hzw := hW0.size
 have hz1 := hst.frame.size
 have hz2 := hb2.size
 have hrow2 : StoRow w2 sb en mp1 tr := RowV.below hst.row (RowV.lt hst.row) hb2
 have K2 := hst.known.below hb2
 have hfs : Frame (fun k => k = sb) w2 (w2.setCell ⟨sb, 2, none⟩ s.val) := (Frame.refl (fun k => k = sb) _).setCell (p := ⟨sb, 2, none⟩) rfl _
 have hold : ∀ k, k < W0.heap.size → KMut sb mp1 es1 k → KMut sb mp es k := fun k hlt hk => hst.muts k hk hlt
 have hf2 : Frame (KMut sb mp es) W0 w2 := hst.frame.trans (Frame.of_below_all hb2)
 have hf3 : Frame (KMut sb mp es) W0 (w2.setCell ⟨sb, 2, none⟩ s.val) := hf2.trans (hfs.mono (fun k _ hk => Or.inl hk))
 have hnd1 := hst.nodes nd (by simp)
 refine ⟨⟨by simpa using RowV.set hrow2 2 s.val, K2.frameSb hfs (StoAt.mp_ne hrow2 K2), h.ent.frame hf3 h.entf, fun k hk hm => h.entf k hk (hold k (h.ent.lt k hk) hm), ?_, ?_, ?_, h.rise, h.ok, h.norm, h.len⟩, (Frame.of_below_all hW0).trans hf3, ?_⟩
 ·rw [List.length_append, List.map_append]
  exact owns_frame (owns_base ho (fun k _ => Nat.zero_le _)) hfs (fun k hk e => by have := (ho.lt k hk).1; have := RowV.lt hst.row; omega)
 ·intro k hk hm
  have h1 := (ho.lt k hk).1
  have h2 := KMut.lt hst.known (RowV.lt hst.row) k hm
  omega
 ·intro x hx
  rcases List.mem_append.1 hx with hx | hx
  ·obtain ⟨g1, g2⟩ := h.nds x hx
   exact ⟨g1.frame hf3 g2, fun k hk hm => g2 k hk (hold k (g1.lt k hk) hm)⟩
  ·simp only [List.mem_singleton] at hx; subst hx
   exact ⟨(hnd1.1.below hb2).frame hfs (fun k hk e => hnd1.2 k hk (Or.inl e)), hnd1.2⟩
 ·intro k hk hlt
  have key : KFoot es k ∨ keyF xs k → stoF sb en tr mp es xs tds k := fun g => by
   rcases g with g | ⟨x, hx, y, hy, e⟩
   ·exact Or.inr (Or.inr (Or.inl g))
   ·exact Or.inr (Or.inl (Or.inr ⟨x, hx, Or.inl ⟨y, hy, e⟩⟩))
  rcases hk with hk | hk | hk | hk | ⟨x, hx, hk⟩
  ·exact Or.inl (hst.muts k hk (by omega))
  ·exact Or.inr (Or.inl hk)
  ·exact key (hst.kfoot k hk (by omega))
  ·have := (ho.lt k hk).1; omega
  ·rcases List.mem_append.1 hx with hx | hx
   ·exact Or.inr (Or.inr (Or.inr (Or.inr ⟨x, hx, hk⟩)))
   ·simp only [List.mem_singleton] at hx; subst hx
    exact key (hst.nfoot x (by simp) k hk (by omega))
theorem concat_trees (W : World) (tr : SlR) (tds : List Nd) (nb : Nat) (h40 : tds.length ≤ 40) (hs : SlV W tr.a (tds.map (fun x => ptrV x.b))) (hn : tr.n = tds.length) (hnil : tr.a = none → tr.n = 0 ∧ tr.cap = 0) :
  Calls Try.prog 56 #[.slice (some ⟨W.heap.size + 1, 0, none⟩) 2 2] ((W.alloc (.cells #[.pointer (some ⟨nb, 0, none⟩)] 96)).alloc (.cells #[.slice tr.a tr.n tr.cap, .slice (some ⟨W.heap.size, 0, none⟩) 1 1] 87))
   fun e w' => ∃ s : SlR, e = .returned (.slice s.a s.n s.cap) ∧ w'.ownsRow W.heap.size 96 1 s.val (tds.length + 1) (tds.map (fun x => ptrV x.b) ++ [ptrV nb]) ∧ Below W.heap.size W w' := by
 have hB : Below W.heap.size W ((W.alloc (.cells #[.pointer (some ⟨nb, 0, none⟩)] 96)).alloc (.cells #[.slice tr.a tr.n tr.cap, .slice (some ⟨W.heap.size, 0, none⟩) 1 1] 87)) := ((Below.refl _ _).alloc (Nat.le_refl _) _).alloc (by simp) _
 have hp2 : RowV ((W.alloc (.cells #[.pointer (some ⟨nb, 0, none⟩)] 96)).alloc (.cells #[.slice tr.a tr.n tr.cap, .slice (some ⟨W.heap.size, 0, none⟩) 1 1] 87)) W.heap.size 96 [ptrV nb] := (RowV.new W 96 [ptrV nb]).alloc _
 have hp3 : RowV ((W.alloc (.cells #[.pointer (some ⟨nb, 0, none⟩)] 96)).alloc (.cells #[.slice tr.a tr.n tr.cap, .slice (some ⟨W.heap.size, 0, none⟩) 1 1] 87)) (W.heap.size + 1) 87 [.slice tr.a tr.n tr.cap, .slice (some ⟨W.heap.size, 0, none⟩) 1 1] := RowV.new_at (W.alloc (.cells #[.pointer (some ⟨nb, 0, none⟩)] 96)) 87 (W.heap.size + 1) _ (by simp)
 have hs1 := hs.below_all hB
 generalize ((W.alloc (.cells #[.pointer (some ⟨nb, 0, none⟩)] 96)).alloc (.cells #[.slice tr.a tr.n tr.cap, .slice (some ⟨W.heap.size, 0, none⟩) 1 1] 87)) = X at *
 have hpn : pN [(tr, tds.map (fun x => ptrV x.b)), (⟨some ⟨W.heap.size, 0, none⟩, 1, 1⟩, [ptrV nb])] = tds.length + 1 := by simp [pN, hn]
 have hpc : pC [(tr, tds.map (fun x => ptrV x.b)), (⟨some ⟨W.heap.size, 0, none⟩, 1, 1⟩, [ptrV nb])] = tds.map (fun x => ptrV x.b) ++ [ptrV nb] := by simp [pC]
 have hone : ∀ (l : List Nat), ∀ u ∈ l.map ptrV, u.oneCell' = true := fun l u hu => by obtain ⟨y, _, rfl⟩ := List.mem_map.1 hu; rfl
 have hcall := concatN_any (W.heap.size + 1) 2 [(tr, tds.map (fun x => ptrV x.b)), (⟨some ⟨W.heap.size, 0, none⟩, 1, 1⟩, [ptrV nb])] X rfl (by simp) (by rw [hpn]; omega) ?_ hp3.lt ?_
 ·refine hcall.mono ?_
  rintro e w' ⟨s, rfl, ho, hb2⟩
  refine ⟨s, rfl, ?_, hB.trans (hb2.mono hB.size)⟩
  rw [hpn, hpc] at ho
  exact owns_base ho (fun k hk => Nat.le_trans hB.size (ho.lt k hk).1)
 ·intro q hq
  match q, hq with
  | 0, _ => exact hp3.cell 0 (by simp)
  | 1, _ => exact hp3.cell 1 (by simp)
 ·intro p hp
  simp only [List.mem_cons, List.not_mem_nil, or_false] at hp
  rcases hp with rfl | rfl
  ·refine ⟨hs1, by simp [hn], hnil, ?_⟩
   have := hone (tds.map (·.b))
   rw [List.map_map] at this; exact this
  ·refine ⟨?_, rfl, (fun h => by cases h), hone [nb]⟩
   intro q hq
   exact ⟨W.heap.size, 0, rfl, hp2.lt, by rw [Nat.zero_add]; exact hp2.cell q hq⟩
end Go.Proofs.Ytekegfbjbainhaa
