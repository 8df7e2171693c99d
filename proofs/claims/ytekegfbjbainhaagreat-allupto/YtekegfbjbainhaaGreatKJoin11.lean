import Derived.Test.YtekegfbjbainhaaGreatKJoin10
import Derived.Test.YtekegfbjbainhaaGreatKJoin7
set_option linter.unusedVariables false
set_option linter.unusedSimpArgs false

namespace Go.Proofs.YtekegfbjbainhaaGreat
open Go.RowKit
def rootOf (nd : Nd) : List UInt8 := digB (codeB nd.level nd.its)
def headC (n : Nat) (sum : List UInt8) : List Value := .int .i64 (n : Int) :: sum.map u8c
def z9 : List Value := [.int .i64 0, .int .u8 0, .int .u8 0, .int .u8 0, .int .u8 0, .int .u8 0, .int .u8 0, .int .u8 0, .int .u8 0]
theorem Tryz.sizeHead : (Tryz.prog.info? 98).map (·.size) = some 9 := by kernel_rfl
theorem digsC_one (l : List (List UInt8)) : ∀ u ∈ digsC l, u.oneCell' = true := fun u hu => by
 obtain ⟨d, _, hd⟩ := List.mem_flatMap.1 hu
 obtain ⟨x, _, rfl⟩ := List.mem_map.1 hd
 rfl
set_option maxRecDepth 100000 in
set_option maxHeartbeats 400000 in
theorem commits_any (sb : Nat) (tr : SlR) (w : World) (h2 : w.cell? ⟨sb, 2, none⟩ = some (.slice tr.a tr.n tr.cap)) (h40 : tr.n ≤ 40) :
  Calls Tryz.prog 94 #[.pointer (some ⟨sb, 0, none⟩)] w fun e w' => e = .returned (.int .i64 (tr.n : Int)) ∧ w' = w := by
 have hnI : (tr.n : Int) ≤ 40 := by omega
 go_enter Tryz.func94, Tryz.ntmps94
 go_wp2
 go_ret
 exact ⟨rfl, rfl⟩
set_option maxRecDepth 100000 in
set_option maxHeartbeats 4000000 in
theorem roots_any (sb n : Nat) (tr : SlR) (tds : List Nd) (w : World) (h2 : w.cell? ⟨sb, 2, none⟩ = some tr.val) (hs : SlV w tr.a (tds.map (fun x => ptrV x.b))) (hn : tr.n = tds.length) (h40 : tds.length ≤ 40) (hnd : ∀ nd ∈ tds, NdOk w nd) (hle : n ≤ tds.length) :
  Calls Tryz.prog 96 #[.pointer (some ⟨sb, 0, none⟩), .int .i64 (n : Int)] w fun e w' => ∃ v : SlR, e = .returned v.val ∧ w'.ownsRow w.heap.size 36 8 v.val n (digsC ((tds.take n).map rootOf)) ∧ Below w.heap.size w w' := by
 have HQ : Hid (∀ (wr : World), Below w.heap.size w wr → ∀ k (hk : k < tds.length), ∃ b o, tr.a = some ⟨b, o, none⟩ ∧ wr.cell? ⟨b, o + k, none⟩ = some (.pointer (some ⟨tds[k].b, 0, none⟩)) ∧ NdOk wr tds[k]) := fun wr hB k hk => by
  obtain ⟨b, o, ha, hb, hc⟩ := hs k (by simpa using hk)
  refine ⟨b, o, ha, ?_, (hnd _ (List.getElem_mem hk)).below hB⟩
  rw [hB.cell (p := ⟨b, o + k, none⟩) hb, hc]
  simp [ptrV]
 have HS : Hid (∀ (wr : World), Below w.heap.size w wr → wr.cell? ⟨sb, 2, none⟩ = some (.slice tr.a tr.n tr.cap)) := fun wr hB => by
  have hlt := World.block_lt_of_cell? _ _ h2
  rw [hB.cell (p := ⟨sb, 2, none⟩) hlt]; exact h2
 have HN : Hid (tr.n = tds.length) := hn
 have hnI : (tr.n : Int) ≤ 40 := by omega
 have h40' : tr.n ≤ 40 := by omega
 have hnn : n ≤ tr.n := by omega
 have hnnI : (n : Int) ≤ 40 := by omega
 clear hs hn hnd h40 h2 hle
 go_enter Tryz.func96, Tryz.ntmps96
 go_wp2
 go_loopw [5, 6, 8] (fun rv _ ix wr => ∃ (k : Nat) (v : SlR), k ≤ n ∧ ix = .int .i64 k ∧ rv = v.val ∧ Hid (wr.ownsRow w.heap.size 36 8 v.val ((tds.take k).map rootOf).length (digsC ((tds.take k).map rootOf)) ∧ Below w.heap.size w wr)) (fun _ _ ix _ => n - (intOf ix).toNat)
 case atStart => exact ⟨0, ⟨none, 0, 0⟩, by omega, by simp, rfl, World.ownsRow_nil _ _ _ _, Below.refl _ _⟩
 case round =>
  obtain ⟨k, v, hk, rfl, rfl, HX⟩ := hrel
  by_cases hlt : k < n
  ·have hltI : (k : Int) < n := by omega
   have hltT : k < tr.n := by omega
   have hltTI : (k : Int) < tr.n := by omega
   have hkl : k < tds.length := by have := HN.out; omega
   have hst := HS.out wr HX.out.2
   obtain ⟨b, o, hta, hc, hndk⟩ := HQ.out wr HX.out.2 k hkl
   have HTK : Hid ((tds.take (k + 1)).map rootOf = (tds.take k).map rootOf ++ [rootOf tds[k]]) := by unfold Hid; rw [List.take_succ_eq_append_getElem hkl, List.map_append]; rfl
   obtain ⟨ta, tn, tc⟩ := tr
   simp only at hta hltI hlt hk hnI h40' HN hst hltT hltTI hnn
   subst hta
   generalize tds[k] = nd at *
   obtain ⟨x0, x1, x2, x3, x4, x5, x6, x7, hy⟩ := list8 (digB (codeB nd.level nd.its)) rfl
   have hrw := hndk.row
   rw [ndC_list nd hy] at hrw
   have g0 : wr.cell? ⟨nd.b, 2, none⟩ = some (.int .u8 (x0.toNat : Int)) := hrw.cell 2 (by simp)
   have g1 : wr.cell? ⟨nd.b, 3, none⟩ = some (.int .u8 (x1.toNat : Int)) := hrw.cell 3 (by simp)
   have g2 : wr.cell? ⟨nd.b, 4, none⟩ = some (.int .u8 (x2.toNat : Int)) := hrw.cell 4 (by simp)
   have g3 : wr.cell? ⟨nd.b, 5, none⟩ = some (.int .u8 (x3.toNat : Int)) := hrw.cell 5 (by simp)
   have g4 : wr.cell? ⟨nd.b, 6, none⟩ = some (.int .u8 (x4.toNat : Int)) := hrw.cell 6 (by simp)
   have g5 : wr.cell? ⟨nd.b, 7, none⟩ = some (.int .u8 (x5.toNat : Int)) := hrw.cell 7 (by simp)
   have g6 : wr.cell? ⟨nd.b, 8, none⟩ = some (.int .u8 (x6.toNat : Int)) := hrw.cell 8 (by simp)
   have g7 : wr.cell? ⟨nd.b, 9, none⟩ = some (.int .u8 (x7.toNat : Int)) := hrw.cell 9 (by simp)
   have HRO : Hid ([x0, x1, x2, x3, x4, x5, x6, x7] = rootOf nd) := hy.symm
   have HLL : Hid (((tds.take k).map rootOf).length ≤ 40) := by unfold Hid; rw [List.length_map, List.length_take]; omega
   have HOX : Hid ((wr.alloc (.cells #[.int .u8 (x0.toNat : Int), .int .u8 (x1.toNat : Int), .int .u8 (x2.toNat : Int), .int .u8 (x3.toNat : Int), .int .u8 (x4.toNat : Int), .int .u8 (x5.toNat : Int), .int .u8 (x6.toNat : Int), .int .u8 (x7.toNat : Int)] 36)).ownsRow w.heap.size 36 8 (.slice v.a v.n v.cap) ((tds.take k).map rootOf).length (digsC ((tds.take k).map rootOf))) := HX.out.1.alloc _
   have HSX : Hid (SlV (wr.alloc (.cells #[.int .u8 (x0.toNat : Int), .int .u8 (x1.toNat : Int), .int .u8 (x2.toNat : Int), .int .u8 (x3.toNat : Int), .int .u8 (x4.toNat : Int), .int .u8 (x5.toNat : Int), .int .u8 (x6.toNat : Int), .int .u8 (x7.toNat : Int)] 36)) (some ⟨wr.heap.size, 0, none⟩) [.int .u8 (x0.toNat : Int), .int .u8 (x1.toNat : Int), .int .u8 (x2.toNat : Int), .int .u8 (x3.toNat : Int), .int .u8 (x4.toNat : Int), .int .u8 (x5.toNat : Int), .int .u8 (x6.toNat : Int), .int .u8 (x7.toNat : Int)]) := SlV.alloc_new wr _ _
   have H1X : Hid (∀ u ∈ ([.int .u8 (x0.toNat : Int), .int .u8 (x1.toNat : Int), .int .u8 (x2.toNat : Int), .int .u8 (x3.toNat : Int), .int .u8 (x4.toNat : Int), .int .u8 (x5.toNat : Int), .int .u8 (x6.toNat : Int), .int .u8 (x7.toNat : Int)] : List Value), u.oneCell' = true) := digsC_one [[x0, x1, x2, x3, x4, x5, x6, x7]]
   have HBW : Hid (Below w.heap.size w (wr.alloc (.cells #[.int .u8 (x0.toNat : Int), .int .u8 (x1.toNat : Int), .int .u8 (x2.toNat : Int), .int .u8 (x3.toNat : Int), .int .u8 (x4.toNat : Int), .int .u8 (x5.toNat : Int), .int .u8 (x6.toNat : Int), .int .u8 (x7.toNat : Int)] 36))) := HX.out.2.alloc HX.out.2.size _
   have HSZ : Hid (w.heap.size ≤ (wr.alloc (.cells #[.int .u8 (x0.toNat : Int), .int .u8 (x1.toNat : Int), .int .u8 (x2.toNat : Int), .int .u8 (x3.toNat : Int), .int .u8 (x4.toNat : Int), .int .u8 (x5.toNat : Int), .int .u8 (x6.toNat : Int), .int .u8 (x7.toNat : Int)] 36)).heap.size) := by have := HX.out.2.size; unfold Hid; simp; omega
   clear hrw hndk hy
   unfold SlR.val
   go_wp2_with (at_builtin; refine wp_appendV (by rfl) (.tmp 11) (.tmp 22) 41 (by rfl) w.heap.size 36 _ 8 8 Tryz.underlying41 Tryz.infoDigs rfl (by decide) (.slice v.a v.n v.cap) ((tds.take k).map rootOf).length (digsC ((tds.take k).map rootOf)) (by rfl) HOX.out (some ⟨wr.heap.size, 0, none⟩) 1 1 [.int .u8 (x0.toNat : Int), .int .u8 (x1.toNat : Int), .int .u8 (x2.toNat : Int), .int .u8 (x3.toNat : Int), .int .u8 (x4.toNat : Int), .int .u8 (x5.toNat : Int), .int .u8 (x6.toNat : Int), .int .u8 (x7.toNat : Int)] (by rfl) rfl HSX.out (fun h => by cases h) H1X.out (by have := HLL.out; unfold maxLen; omega) (by have := HLL.out; omega) HSZ.out ?_; intro v3 w3 ho3 hf3 hat3; obtain ⟨a3, c3, hv3, _⟩ := owns_form ho3; subst hv3; obtain ⟨n3, hn3⟩ : ∃ n3, n3 = ((tds.take k).map rootOf).length + 1 := ⟨_, rfl⟩; rw [← hn3] at ho3 ⊢; have HN3 : Hid (n3 = ((tds.take k).map rootOf).length + 1) := hn3; clear hn3)
   refine ⟨⟨k + 1, ⟨a3, n3, c3⟩, by omega, by go_num, rfl, ?_, ?_⟩, by simp [intOf]; omega⟩
   ·rw [HTK.out, List.length_append]
    have e1 : digsC ((tds.take k).map rootOf ++ [rootOf nd]) = digsC ((tds.take k).map rootOf) ++ [.int .u8 (x0.toNat : Int), .int .u8 (x1.toNat : Int), .int .u8 (x2.toNat : Int), .int .u8 (x3.toNat : Int), .int .u8 (x4.toNat : Int), .int .u8 (x5.toNat : Int), .int .u8 (x6.toNat : Int), .int .u8 (x7.toNat : Int)] := by
     rw [← HRO.out]; simp [digsC, u8c]
    rw [e1, List.length_singleton, ← HN3.out]; exact ho3
   ·exact HBW.out.trans (hf3.below HBW.out.size (fun q hq => by have := (HOX.out.lt q hq).1; omega))
  ·obtain rfl : k = n := by omega
   have HLK : Hid (((tds.take k).map rootOf).length = k) := by unfold Hid; have := HN.out; simp; omega
   go_wp2
   go_ret
   have h1 := HX.out.1
   rw [HLK.out] at h1
   exact ⟨v, rfl, h1, HX.out.2⟩
set_option maxRecDepth 100000 in
set_option maxHeartbeats 4000000 in
theorem head_any (sb : Nat) (tr : SlR) (tds : List Nd) (w : World) (h2 : w.cell? ⟨sb, 2, none⟩ = some tr.val) (hs : SlV w tr.a (tds.map (fun x => ptrV x.b))) (hn : tr.n = tds.length) (h40 : tds.length ≤ 40) (hnd : ∀ nd ∈ tds, NdOk w nd) :
  Calls Tryz.prog 83 #[.pointer (some ⟨sb, 0, none⟩)] w fun e w' => e = .returned (.agg (headC tds.length (sumF 42 (tds.map rootOf))).toArray) ∧ Below w.heap.size w w' := by
 have hB0 : Below w.heap.size w (w.alloc (.cells z9.toArray 98)) := (Below.refl _ _).alloc (Nat.le_refl _) _
 have HR0 : Hid (RowV (w.alloc (.cells z9.toArray 98)) w.heap.size 98 z9) := RowV.new w _ _
 have h2' : (w.alloc (.cells z9.toArray 98)).cell? ⟨sb, 2, none⟩ = some tr.val := by
  have hlt := World.block_lt_of_cell? _ _ h2
  rw [hB0.cell (p := ⟨sb, 2, none⟩) hlt]; exact h2
 have HCM : Hid (Calls _ _ _ _ _) := commits_any sb tr _ h2' (by omega)
 have HRT : Hid (Calls _ _ _ _ _) := roots_any sb tds.length tr tds _ h2' (SlV.below_all hs hB0) hn h40 (fun nd hx => (hnd nd hx).below hB0) (Nat.le_refl _)
 have HB0 : Hid (Below w.heap.size w (w.alloc (.cells z9.toArray 98))) := hB0
 rw [List.take_of_length_le (Nat.le_refl _)] at HRT
 have HN : Hid (tr.n = tds.length) := hn
 have H40 : Hid (tds.length ≤ 40) := h40
 rw [← hn] at HRT
 clear hs hn hnd h40 h2 h2' hB0
 unfold z9 at HCM HRT HR0 HB0
 go_enter Tryz.func83, Tryz.ntmps83
 go_wp2_with fail
 refine HCM.out.mono ?_
 rintro e w1 ⟨rfl, hw1⟩
 subst hw1
 go_wp2_with fail
 refine HRT.out.mono ?_
 rintro e w2 ⟨v, rfl, ho2, hb2⟩
 obtain ⟨hv1, hvn, hvm, _⟩ := owns_cap (a := v.a) (n' := v.n) (cap := v.cap) ho2
 have hsd : SlD w2 v.a (tds.map rootOf) := ⟨(SlV.ofOwn (s := v) ho2).1, fun d hd => by obtain ⟨nd, _, rfl⟩ := List.mem_map.1 hd; rfl⟩
 have hvl : v.n = (tds.map rootOf).length := by rw [hv1, HN.out]; simp
 have HSC : Hid (Calls _ _ _ _ _) := sumP_any 42 (tds.map rootOf) v.a v.cap w2 (by simp; have := H40.out; omega) (by simp; have := H40.out; omega) (by rw [← hvl, hv1]; exact hvn) (by unfold maxLen at hvm; omega) hsd
 rw [← hvl] at HSC
 obtain ⟨s0, s1, s2, s3, s4, s5, s6, s7, hss⟩ := list8 (sumF 42 (tds.map rootOf)) (sumF_length 41 _)
 have HVS : Hid (dV (sumF 42 (tds.map rootOf)) = .agg #[.int .u8 (s0.toNat : Int), .int .u8 (s1.toNat : Int), .int .u8 (s2.toNat : Int), .int .u8 (s3.toNat : Int), .int .u8 (s4.toNat : Int), .int .u8 (s5.toNat : Int), .int .u8 (s6.toNat : Int), .int .u8 (s7.toNat : Int)]) := by unfold Hid; rw [hss]; rfl
 have HCS : Hid (headC tds.length (sumF 42 (tds.map rootOf)) = [.int .i64 (tr.n : Int), .int .u8 (s0.toNat : Int), .int .u8 (s1.toNat : Int), .int .u8 (s2.toNat : Int), .int .u8 (s3.toNat : Int), .int .u8 (s4.toNat : Int), .int .u8 (s5.toNat : Int), .int .u8 (s6.toNat : Int), .int .u8 (s7.toNat : Int)]) := by unfold Hid; rw [hss, HN.out]; rfl
 have hr2 := RowV.below HR0.out HR0.out.lt hb2
 have HRW : Hid (∀ W, Below w2.heap.size w2 W → RowV W w.heap.size 98 z9) := fun W hW => RowV.below hr2 hr2.lt hW
 have HBW : Hid (Below w.heap.size w w2) := HB0.out.trans (hb2.mono (by simp))
 clear hv1 hvn hvm hsd hvl hr2 ho2 hb2 HRT HCM HR0 HB0
 unfold SlR.val
 go_wp2_with (first
  | (go_at_call 119; refine HSC.out.mono ?_; rintro e w5 ⟨rfl, hb5⟩; rw [HVS.out]; have hr5 := HRW.out w5 hb5)
  | (refine wp_storeR (by rfl) 98 (.tmp 2) (.tmp 11) (by rfl) w.heap.size (by rfl) [.int .i64 (tr.n : Int), .int .u8 (s0.toNat : Int), .int .u8 (s1.toNat : Int), .int .u8 (s2.toNat : Int), .int .u8 (s3.toNat : Int), .int .u8 (s4.toNat : Int), .int .u8 (s5.toNat : Int), .int .u8 (s6.toNat : Int), .int .u8 (s7.toNat : Int)] (by rfl) hr5 rfl Tryz.sizeHead (fun u hu => by simp only [List.mem_cons, List.not_mem_nil, or_false] at hu; rcases hu with rfl | rfl | rfl | rfl | rfl | rfl | rfl | rfl | rfl <;> rfl) ?_; intro w6 hr6 hf6 hz6))
 rw [HCS.out]
 refine ret_agg (k := 2) (cs := [.int .i64 (tr.n : Int), .int .u8 (s0.toNat : Int), .int .u8 (s1.toNat : Int), .int .u8 (s2.toNat : Int), .int .u8 (s3.toNat : Int), .int .u8 (s4.toNat : Int), .int .u8 (s5.toNat : Int), .int .u8 (s6.toNat : Int), .int .u8 (s7.toNat : Int)]) rfl rfl hr6 Tryz.underlying98 rfl Tryz.sizeHead rfl ⟨rfl, ?_⟩
 have h7 := HBW.out.trans (hb5.mono HBW.out.size)
 exact h7.trans (hf6.below h7.size (fun k hk => by omega))
end Go.Proofs.YtekegfbjbainhaaGreat


namespace Go.Proofs.YtekegfbjbainhaaGreat
open Go.RowKit
structure StoAt (w : World) (sb N : Nat) (en tr : SlR) (mp : Option Nat) (es : List MEn) (xs : List EnP) (its : List ItR) (tds : List Nd) : Prop where
 row : StoRow w sb en mp tr
 known : KnownAt w sb mp es N
 ent : EntAt w en xs its
 entf : ∀ k, entF en xs k → ¬ KMut sb mp es k
 own : w.ownsRow 0 138 1 tr.val tds.length (tds.map (fun x => ptrV x.b))
 trf : ∀ k, tr.val.ownBlock = some k → ¬ KMut sb mp es k
 nds : ∀ nd ∈ tds, NdOk w nd ∧ (∀ k, ndF nd k → ¬ KMut sb mp es k)
 rise : Rising its
 ok : ∀ x ∈ its, ItOk x
 norm : ∀ x ∈ its, x.below = 0
 len : its.length ≤ 60
def stoF (sb : Nat) (en tr : SlR) (mp : Option Nat) (es : List MEn) (xs : List EnP) (tds : List Nd) (k : Nat) : Prop := KMut sb mp es k ∨ entF en xs k ∨ KFoot es k ∨ tr.val.ownBlock = some k ∨ ∃ nd ∈ tds, ndF nd k
theorem EntAt.lt {w : World} {en : SlR} {xs : List EnP} {its : List ItR} (h : EntAt w en xs its) : ∀ k, entF en xs k → k < w.heap.size := fun k hk => by
 have hl := h.len
 rcases hk with hk | ⟨x, hx, ⟨y, hy, rfl⟩ | ⟨y, hy, rfl⟩⟩
 ·exact (h.own.lt k hk).2
 ·obtain ⟨i, hi, rfl⟩ := List.getElem_of_mem hx
  exact (h.ok i hi (by omega)).key.lt y hy
 ·obtain ⟨i, hi, rfl⟩ := List.getElem_of_mem hx
  exact (h.ok i hi (by omega)).val.lt y hy
theorem StoAt.lt {w : World} {sb N : Nat} {en tr : SlR} {mp : Option Nat} {es : List MEn} {xs : List EnP} {its : List ItR} {tds : List Nd} (h : StoAt w sb N en tr mp es xs its tds) : ∀ k, stoF sb en tr mp es xs tds k → k < w.heap.size := fun k hk => by
 rcases hk with hk | hk | hk | hk | ⟨nd, hn, hk⟩
 ·exact KMut.lt h.known (RowV.lt h.row) k hk
 ·exact h.ent.lt k hk
 ·exact KFoot.lt h.known k hk
 ·exact (h.own.lt k hk).2
 ·exact (h.nds nd hn).1.lt k hk
theorem StoAt.frame {w W : World} {S : Nat → Prop} {sb N : Nat} {en tr : SlR} {mp : Option Nat} {es : List MEn} {xs : List EnP} {its : List ItR} {tds : List Nd} (h : StoAt w sb N en tr mp es xs its tds) (hf : Frame S w W) (hS : ∀ k, stoF sb en tr mp es xs tds k → ¬ S k) : StoAt W sb N en tr mp es xs its tds :=
 ⟨RowV.of_block h.row (hf.block _ (RowV.lt h.row) (hS _ (Or.inl (Or.inl rfl)))), h.known.frameS hf (fun k hk => hS k (Or.inl hk)) (fun k hk => hS k (Or.inr (Or.inr (Or.inl hk)))), h.ent.frame hf (fun k hk => hS k (Or.inr (Or.inl hk))), h.entf, owns_frame h.own hf (fun k hk => hS k (Or.inr (Or.inr (Or.inr (Or.inl hk))))), h.trf, fun nd hn => ⟨(h.nds nd hn).1.frame hf (fun k hk => hS k (Or.inr (Or.inr (Or.inr (Or.inr ⟨nd, hn, hk⟩))))), (h.nds nd hn).2⟩, h.rise, h.ok, h.norm, h.len⟩
theorem StoAt.below {w W : World} {sb N : Nat} {en tr : SlR} {mp : Option Nat} {es : List MEn} {xs : List EnP} {its : List ItR} {tds : List Nd} (h : StoAt w sb N en tr mp es xs its tds) (hb : Below w.heap.size w W) : StoAt W sb N en tr mp es xs its tds := h.frame (Frame.of_below_all (S := fun _ => False) hb) (fun _ _ e => e)
theorem step_storeP {ops : Array Oper} {o : Oper} {a : Act} {w : World} {K : Act → World → Prop} {Q : Exit → Act → World → Prop} {E : Prop} (hgd : o.guard = none) (T : TypeId) (x y : Operand) (ho : o.op = .store T x y)
  (b : Nat) (hx : a.eval x = .pointer (some ⟨b, 0, none⟩)) (cs : List Value) (hy : a.eval y = .agg cs.toArray) {l : List Value} (hR : RowV w b T l) (hl : l.length = cs.length) (hi : (Tryz.prog.info? T).map (·.size) = some cs.length) (h1 : ∀ v ∈ cs, v.oneCell' = true)
  (h : ∀ w', RowV w' b T cs → Frame (fun k => k = b) w w' → K (a.put o.dst undef) w') : if Region.wanted o (yielded ops a.tmps) = true then Oper.wp Tryz.prog o a w K Q else E := by
 have hw : Region.wanted o (yielded ops a.tmps) = true := by simp [Region.wanted, hgd]
 rw [if_pos hw]
 refine wp_store_mid T x y ho b 0 cs.toArray hx hy (by simpa using hR.there cs.length hl.symm) (by simpa using hi) (all_oneCell_toArray h1) ?_
 exact h _ (hR.setAll _ hl.symm) (Frame.setCells (S := fun k => k = b) rfl _ _ _ (Frame.refl _ _))
theorem zero18_one : ∀ u ∈ zero18, u.oneCell' = true := by decide
def comP (n m : Nat) (x0 x1 x2 x3 x4 x5 x6 x7 s0 s1 s2 s3 s4 s5 s6 s7 : UInt8) : List Value := [(.int .i64 (n : Int)), (.int .u8 (x0.toNat : Int)), (.int .u8 (x1.toNat : Int)), (.int .u8 (x2.toNat : Int)), (.int .u8 (x3.toNat : Int)), (.int .u8 (x4.toNat : Int)), (.int .u8 (x5.toNat : Int)), (.int .u8 (x6.toNat : Int)), (.int .u8 (x7.toNat : Int)), (.int .i64 (m : Int)), (.int .u8 (s0.toNat : Int)), (.int .u8 (s1.toNat : Int)), (.int .u8 (s2.toNat : Int)), (.int .u8 (s3.toNat : Int)), (.int .u8 (s4.toNat : Int)), (.int .u8 (s5.toNat : Int)), (.int .u8 (s6.toNat : Int)), (.int .u8 (s7.toNat : Int))]
theorem comP_one {n m : Nat} {x0 x1 x2 x3 x4 x5 x6 x7 s0 s1 s2 s3 s4 s5 s6 s7 : UInt8} : ∀ v ∈ comP n m x0 x1 x2 x3 x4 x5 x6 x7 s0 s1 s2 s3 s4 s5 s6 s7, v.oneCell' = true := by
 intro v hv
 simp only [comP, List.mem_cons, List.not_mem_nil, or_false] at hv
 rcases hv with rfl | rfl | rfl | rfl | rfl | rfl | rfl | rfl | rfl | rfl | rfl | rfl | rfl | rfl | rfl | rfl | rfl | rfl <;> rfl
set_option maxRecDepth 100000 in
set_option maxHeartbeats 1000000 in
theorem commit_full (sb N : Nat) (en tr : SlR) (mp : Option Nat) (es : List MEn) (xs : List EnP) (its : List ItR) (tds : List Nd) (w : World) (h : StoAt w sb N en tr mp es xs its tds) (h40 : tds.length = 40) :
  Calls Tryz.prog 44 #[.pointer (some ⟨sb, 0, none⟩)] w fun e w' => e = .returned (.tuple #[.agg zero18.toArray, .int .i64 2]) ∧ Below w.heap.size w w' := by
 have hsb := RowV.lt h.row
 have htn : tr.n = 40 := by rw [← h40]; exact (SlV.ofOwn h.own).2
 have c2 : w.cell? ⟨sb, 2, none⟩ = some (.slice tr.a 40 tr.cap) := by rw [← htn]; exact RowV.cell h.row 2 (by simp)
 have c2a : (w.alloc (.cells #[.int .i64 0, .int .u8 0, .int .u8 0, .int .u8 0, .int .u8 0, .int .u8 0, .int .u8 0, .int .u8 0, .int .u8 0, .int .i64 0, .int .u8 0, .int .u8 0, .int .u8 0, .int .u8 0, .int .u8 0, .int .u8 0, .int .u8 0, .int .u8 0] 103)).cell? ⟨sb, 2, none⟩ = some (.slice tr.a 40 tr.cap) := by rw [((Below.refl w.heap.size w).alloc (Nat.le_refl _) _).cell (p := ⟨sb, 2, none⟩) hsb]; exact c2
 have HR : Hid (RowV (w.alloc (.cells #[.int .i64 0, .int .u8 0, .int .u8 0, .int .u8 0, .int .u8 0, .int .u8 0, .int .u8 0, .int .u8 0, .int .u8 0, .int .i64 0, .int .u8 0, .int .u8 0, .int .u8 0, .int .u8 0, .int .u8 0, .int .u8 0, .int .u8 0, .int .u8 0] 103)) w.heap.size 103 zero18) := RowV.new w _ _
 clear h htn
 go_enter Tryz.func44, Tryz.ntmps44
 go_wp2_with (refine wp_storeR (by rfl) 103 (.tmp 2) (.tmp 16) (by rfl) w.heap.size (by rfl) zero18 (by rfl) HR.out rfl Tryz.sizeCommit zero18_one ?_; intro w6 hr6 hf6 hz6)
 refine ret_agg2 (k := 2) (k2 := 3) (cs := zero18) rfl rfl rfl hr6 Tryz.underlying103 rfl Tryz.sizeCommit rfl ⟨rfl, ?_⟩
 have hA : Below w.heap.size w (w.alloc (.cells #[.int .i64 0, .int .u8 0, .int .u8 0, .int .u8 0, .int .u8 0, .int .u8 0, .int .u8 0, .int .u8 0, .int .u8 0, .int .i64 0, .int .u8 0, .int .u8 0, .int .u8 0, .int .u8 0, .int .u8 0, .int .u8 0, .int .u8 0, .int .u8 0] 103)) := (Below.refl _ _).alloc (Nat.le_refl _) _
 exact hA.trans (hf6.below hA.size (fun k hk => by omega))
end Go.Proofs.YtekegfbjbainhaaGreat


namespace Go.Proofs.YtekegfbjbainhaaGreat
open Go.RowKit
theorem KnownAt.frameSb {w W : World} {sb N : Nat} {mp : Option Nat} {es : List MEn} (K : KnownAt w sb mp es N) (hf : Frame (fun k => k = sb) w W) (hm : mp ≠ some sb) : KnownAt W sb mp es N := by
 refine ⟨?_, K.d8, fun e he => owns_frame (K.own e he) hf (fun k hk => (K.msb e he k hk).1), fun e he x hx => (K.nodes e he x hx).frame hf (fun k hk e' => K.foot e he x hx k hk (Or.inl e')), K.apart, K.foot, K.msb, K.cnt, K.kd⟩
 have h := K.map
 cases mp with
 | none => exact h
 | some m =>
  obtain ⟨arr, clock, hh, g1, g2, g3⟩ := h
  exact ⟨arr, clock, by rw [hf.block m (Array.getElem?_eq_some_iff.1 hh).1 (fun e => hm (by rw [e]))]; exact hh, g1, g2, g3⟩
theorem StoAt.mp_ne {w : World} {sb N : Nat} {en tr : SlR} {mp : Option Nat} {es : List MEn} (hR : StoRow w sb en mp tr) (K : KnownAt w sb mp es N) : mp ≠ some sb := fun e => by
 subst e
 obtain ⟨arr, clock, hh, _⟩ := K.map
 have h1 : w.heap[sb]? = _ := hR
 rw [hh] at h1; cases h1
theorem commit_fin {w W0 w1 w2 : World} {sb N M : Nat} {en tr s o : SlR} {mp mp1 : Option Nat} {es es1 : List MEn} {xs : List EnP} {its : List ItR} {tds : List Nd} {nd : Nd} (h : StoAt W0 sb N en tr mp es xs its tds) (hW0 : Below w.heap.size w W0) (hsz : ∀ k, stoF sb en tr mp es xs tds k → k < w.heap.size)
  (hst : TrSt W0 sb en tr mp es (keyF xs) w1 M mp1 es1 o [nd]) (hb2 : Below w1.heap.size w1 w2) (ho : w2.ownsRow w1.heap.size 138 1 s.val (tds.length + 1) (tds.map (fun x => ptrV x.b) ++ [ptrV nd.b])) :
  StoAt (w2.setCell ⟨sb, 2, none⟩ s.val) sb M en s mp1 es1 xs its (tds ++ [nd]) ∧ Frame (KMut sb mp es) w (w2.setCell ⟨sb, 2, none⟩ s.val) ∧ (∀ k, stoF sb en s mp1 es1 xs (tds ++ [nd]) k → k < W0.heap.size → stoF sb en tr mp es xs tds k) := by
 have hzw := hW0.size
 have hz1 := hst.frame.size
 have hz2 := hb2.size
 have hrow2 : StoRow w2 sb en mp1 tr := RowV.below hst.row (RowV.lt hst.row) hb2
 have K2 := hst.known.below hb2
 have hfs : Frame (fun k => k = sb) w2 (w2.setCell ⟨sb, 2, none⟩ s.val) := (Frame.refl (fun k => k = sb) _).setCell (p := ⟨sb, 2, none⟩) rfl _
 have hold : ∀ k, k < W0.heap.size → KMut sb mp1 es1 k → KMut sb mp es k := fun k hlt hk => hst.muts k hk hlt
 have hf2 : Frame (KMut sb mp es) W0 w2 := hst.frame.trans (Frame.of_below_all hb2)
 have hf3 : Frame (KMut sb mp es) W0 (w2.setCell ⟨sb, 2, none⟩ s.val) := hf2.trans (hfs.mono (fun k _ hk => Or.inl hk))
 have hnd1 := hst.nodes nd (by simp)
 refine ⟨⟨by simpa using RowV.set hrow2 2 s.val, K2.frameSb hfs (StoAt.mp_ne hrow2 K2), h.ent.frame hf3 h.entf, fun k hk hm => h.entf k hk (hold k (h.ent.lt k hk) hm), ?_, ?_, ?_, h.rise, h.ok, h.norm, h.len⟩, (Frame.of_below_all hW0).trans hf3, ?_⟩
 ·rw [List.length_append, List.map_append]
  exact owns_frame (owns_base ho (fun k _ => Nat.zero_le _)) hfs (fun k hk e => by have := (ho.lt k hk).1; have := RowV.lt hst.row; omega)
 ·intro k hk hm
  have h1 := (ho.lt k hk).1
  have h2 := KMut.lt hst.known (RowV.lt hst.row) k hm
  omega
 ·intro x hx
  rcases List.mem_append.1 hx with hx | hx
  ·obtain ⟨g1, g2⟩ := h.nds x hx
   exact ⟨g1.frame hf3 g2, fun k hk hm => g2 k hk (hold k (g1.lt k hk) hm)⟩
  ·simp only [List.mem_singleton] at hx; subst hx
   exact ⟨(hnd1.1.below hb2).frame hfs (fun k hk e => hnd1.2 k hk (Or.inl e)), hnd1.2⟩
 ·intro k hk hlt
  have key : KFoot es k ∨ keyF xs k → stoF sb en tr mp es xs tds k := fun g => by
   rcases g with g | ⟨x, hx, y, hy, e⟩
   ·exact Or.inr (Or.inr (Or.inl g))
   ·exact Or.inr (Or.inl (Or.inr ⟨x, hx, Or.inl ⟨y, hy, e⟩⟩))
  rcases hk with hk | hk | hk | hk | ⟨x, hx, hk⟩
  ·exact Or.inl (hst.muts k hk (by omega))
  ·exact Or.inr (Or.inl hk)
  ·exact key (hst.kfoot k hk (by omega))
  ·have := (ho.lt k hk).1; omega
  ·rcases List.mem_append.1 hx with hx | hx
   ·exact Or.inr (Or.inr (Or.inr (Or.inr ⟨x, hx, hk⟩)))
   ·simp only [List.mem_singleton] at hx; subst hx
    exact key (hst.nfoot x (by simp) k hk (by omega))
theorem concat_trees (W : World) (tr : SlR) (tds : List Nd) (nb : Nat) (h40 : tds.length ≤ 40) (hs : SlV W tr.a (tds.map (fun x => ptrV x.b))) (hn : tr.n = tds.length) (hnil : tr.a = none → tr.n = 0 ∧ tr.cap = 0) :
  Calls Tryz.prog 82 #[.slice (some ⟨W.heap.size + 1, 0, none⟩) 2 2] ((W.alloc (.cells #[.pointer (some ⟨nb, 0, none⟩)] 138)).alloc (.cells #[.slice tr.a tr.n tr.cap, .slice (some ⟨W.heap.size, 0, none⟩) 1 1] 128))
   fun e w' => ∃ s : SlR, e = .returned (.slice s.a s.n s.cap) ∧ w'.ownsRow W.heap.size 138 1 s.val (tds.length + 1) (tds.map (fun x => ptrV x.b) ++ [ptrV nb]) ∧ Below W.heap.size W w' := by
 have hB : Below W.heap.size W ((W.alloc (.cells #[.pointer (some ⟨nb, 0, none⟩)] 138)).alloc (.cells #[.slice tr.a tr.n tr.cap, .slice (some ⟨W.heap.size, 0, none⟩) 1 1] 128)) := ((Below.refl _ _).alloc (Nat.le_refl _) _).alloc (by simp) _
 have hp2 : RowV ((W.alloc (.cells #[.pointer (some ⟨nb, 0, none⟩)] 138)).alloc (.cells #[.slice tr.a tr.n tr.cap, .slice (some ⟨W.heap.size, 0, none⟩) 1 1] 128)) W.heap.size 138 [ptrV nb] := (RowV.new W 138 [ptrV nb]).alloc _
 have hp3 : RowV ((W.alloc (.cells #[.pointer (some ⟨nb, 0, none⟩)] 138)).alloc (.cells #[.slice tr.a tr.n tr.cap, .slice (some ⟨W.heap.size, 0, none⟩) 1 1] 128)) (W.heap.size + 1) 128 [.slice tr.a tr.n tr.cap, .slice (some ⟨W.heap.size, 0, none⟩) 1 1] := RowV.new_at (W.alloc (.cells #[.pointer (some ⟨nb, 0, none⟩)] 138)) 128 (W.heap.size + 1) _ (by simp)
 have hs1 := hs.below_all hB
 generalize ((W.alloc (.cells #[.pointer (some ⟨nb, 0, none⟩)] 138)).alloc (.cells #[.slice tr.a tr.n tr.cap, .slice (some ⟨W.heap.size, 0, none⟩) 1 1] 128)) = X at *
 have hpn : pN [(tr, tds.map (fun x => ptrV x.b)), (⟨some ⟨W.heap.size, 0, none⟩, 1, 1⟩, [ptrV nb])] = tds.length + 1 := by simp [pN, hn]
 have hpc : pC [(tr, tds.map (fun x => ptrV x.b)), (⟨some ⟨W.heap.size, 0, none⟩, 1, 1⟩, [ptrV nb])] = tds.map (fun x => ptrV x.b) ++ [ptrV nb] := by simp [pC]
 have hone : ∀ (l : List Nat), ∀ u ∈ l.map ptrV, u.oneCell' = true := fun l u hu => by obtain ⟨y, _, rfl⟩ := List.mem_map.1 hu; rfl
 have hcall := concatN_any (W.heap.size + 1) 2 [(tr, tds.map (fun x => ptrV x.b)), (⟨some ⟨W.heap.size, 0, none⟩, 1, 1⟩, [ptrV nb])] X rfl (by simp) (by rw [hpn]; omega) ?_ hp3.lt ?_
 ·refine hcall.mono ?_
  rintro e w' ⟨s, rfl, ho, hb2⟩
  refine ⟨s, rfl, ?_, hB.trans (hb2.mono hB.size)⟩
  rw [hpn, hpc] at ho
  exact owns_base ho (fun k hk => Nat.le_trans hB.size (ho.lt k hk).1)
 ·intro q hq
  match q, hq with
  | 0, _ => exact hp3.cell 0 (by simp)
  | 1, _ => exact hp3.cell 1 (by simp)
 ·intro p hp
  simp only [List.mem_cons, List.not_mem_nil, or_false] at hp
  rcases hp with rfl | rfl
  ·refine ⟨hs1, by simp [hn], hnil, ?_⟩
   have := hone (tds.map (·.b))
   rw [List.map_map] at this; exact this
  ·refine ⟨?_, rfl, (fun h => by cases h), hone [nb]⟩
   intro q hq
   exact ⟨W.heap.size, 0, rfl, hp2.lt, by rw [Nat.zero_add]; exact hp2.cell q hq⟩
end Go.Proofs.YtekegfbjbainhaaGreat


namespace Go.Proofs.YtekegfbjbainhaaGreat
open Go.RowKit
attribute [local go_sem ↓] Go.wp_at_zero Go.wp_at_succ
set_option maxRecDepth 100000 in
set_option maxHeartbeats 8000000 in
theorem commit_ok (sb N : Nat) (en tr : SlR) (mp : Option Nat) (es : List MEn) (xs : List EnP) (its : List ItR) (tds : List Nd) (w : World) (h : StoAt w sb N en tr mp es xs its tds) (h40 : tds.length < 40) (hN : N ≤ 700000) :
  Calls Tryz.prog 44 #[.pointer (some ⟨sb, 0, none⟩)] w fun e w' => ∃ (tr' : SlR) (mp' : Option Nat) (es' : List MEn) (nd : Nd) (N' : Nat), e = .returned (.tuple #[.agg (commitC tds.length (rootB its) (tds.length + 1) (sumF 42 (tds.map rootOf ++ [rootB its]))).toArray, .int .i64 0]) ∧
   StoAt w' sb N' en tr' mp' es' xs its (tds ++ [nd]) ∧ rootOf nd = rootB its ∧ N' ≤ N + 500 ∧ Frame (KMut sb mp es) w w' ∧ (∀ k, stoF sb en tr' mp' es' xs (tds ++ [nd]) k → k < w.heap.size → stoF sb en tr mp es xs tds k) ∧ (∀ k, KMut sb mp' es' k → k < w.heap.size → KMut sb mp es k) ∧
   ∃ (L : List (List Nd)) (ℓ : Nat), TreeRep (grownN its) L ∧ L.length = ℓ + 1 ∧ L[ℓ]? = some [nd] ∧ LvSt es (keyF xs) w.heap.size (KMut sb mp' es') w' L := by
 have hsb := RowV.lt h.row
 obtain ⟨htn, htc, htm, hta⟩ := owns_cap (a := tr.a) (n' := tr.n) (cap := tr.cap) h.own
 have hA : Below w.heap.size w (w.alloc (.cells #[.int .i64 0, .int .u8 0, .int .u8 0, .int .u8 0, .int .u8 0, .int .u8 0, .int .u8 0, .int .u8 0, .int .u8 0, .int .i64 0, .int .u8 0, .int .u8 0, .int .u8 0, .int .u8 0, .int .u8 0, .int .u8 0, .int .u8 0, .int .u8 0] 103)) := (Below.refl _ _).alloc (Nat.le_refl _) _
 have hAd : Below w.heap.size w ((w.alloc (.cells #[.int .i64 0, .int .u8 0, .int .u8 0, .int .u8 0, .int .u8 0, .int .u8 0, .int .u8 0, .int .u8 0, .int .u8 0, .int .i64 0, .int .u8 0, .int .u8 0, .int .u8 0, .int .u8 0, .int .u8 0, .int .u8 0, .int .u8 0, .int .u8 0] 103)).drew) := ⟨hA.os, hA.tape, hA.output, hA.size, hA.block⟩
 have h0 := h.below hAd
 have c2 : (w.alloc (.cells #[.int .i64 0, .int .u8 0, .int .u8 0, .int .u8 0, .int .u8 0, .int .u8 0, .int .u8 0, .int .u8 0, .int .u8 0, .int .i64 0, .int .u8 0, .int .u8 0, .int .u8 0, .int .u8 0, .int .u8 0, .int .u8 0, .int .u8 0, .int .u8 0] 103)).cell? ⟨sb, 2, none⟩ = some (.slice tr.a tr.n tr.cap) := RowV.cell (h.below hA).row 2 (by simp)
 have c0 : (w.alloc (.cells #[.int .i64 0, .int .u8 0, .int .u8 0, .int .u8 0, .int .u8 0, .int .u8 0, .int .u8 0, .int .u8 0, .int .u8 0, .int .i64 0, .int .u8 0, .int .u8 0, .int .u8 0, .int .u8 0, .int .u8 0, .int .u8 0, .int .u8 0, .int .u8 0] 103)).cell? ⟨sb, 0, none⟩ = some (.slice en.a en.n en.cap) := RowV.cell (h.below hA).row 0 (by simp)
 have hres0 : RowV ((w.alloc (.cells #[.int .i64 0, .int .u8 0, .int .u8 0, .int .u8 0, .int .u8 0, .int .u8 0, .int .u8 0, .int .u8 0, .int .u8 0, .int .i64 0, .int .u8 0, .int .u8 0, .int .u8 0, .int .u8 0, .int .u8 0, .int .u8 0, .int .u8 0, .int .u8 0] 103)).drew) w.heap.size 103 zero18 := RowV.new w _ _
 have HTC : Hid (Calls _ _ _ _ _) := tree_any sb N en tr mp es xs its _ h0.row h0.known (by omega) h0.ent h0.len h0.ok h0.norm h0.entf
 have H0 : Hid (StoAt ((w.alloc (.cells #[.int .i64 0, .int .u8 0, .int .u8 0, .int .u8 0, .int .u8 0, .int .u8 0, .int .u8 0, .int .u8 0, .int .u8 0, .int .i64 0, .int .u8 0, .int .u8 0, .int .u8 0, .int .u8 0, .int .u8 0, .int .u8 0, .int .u8 0, .int .u8 0] 103)).drew) sb N en tr mp es xs its tds) := h0
 have HLT : Hid (∀ k, stoF sb en tr mp es xs tds k → k < w.heap.size) := h.lt
 have HTN : Hid (tr.n = tds.length) := htn
 have h40I : ¬ (40 : Int) ≤ (tr.n : Int) := by rw [htn]; omega
 have htnI : (tr.n : Int) ≤ 40 := by rw [htn]; omega
 have HNIL : Hid (tr.a = none → tr.n = 0 ∧ tr.cap = 0) := fun e => by
  rcases hta with ⟨_, h1, h2⟩ | ⟨g, h1, _⟩
  ·exact ⟨by omega, h2⟩
  ·rw [e] at h1; cases h1
 have HAD : Hid (Below w.heap.size w ((w.alloc (.cells #[.int .i64 0, .int .u8 0, .int .u8 0, .int .u8 0, .int .u8 0, .int .u8 0, .int .u8 0, .int .u8 0, .int .u8 0, .int .i64 0, .int .u8 0, .int .u8 0, .int .u8 0, .int .u8 0, .int .u8 0, .int .u8 0, .int .u8 0, .int .u8 0] 103)).drew)) := hAd
 have HRES : Hid (RowV ((w.alloc (.cells #[.int .i64 0, .int .u8 0, .int .u8 0, .int .u8 0, .int .u8 0, .int .u8 0, .int .u8 0, .int .u8 0, .int .u8 0, .int .i64 0, .int .u8 0, .int .u8 0, .int .u8 0, .int .u8 0, .int .u8 0, .int .u8 0, .int .u8 0, .int .u8 0] 103)).drew) w.heap.size 103 zero18) := hres0
 have HNRM : Hid (∀ x ∈ its, x.below = 0) := h.norm
 clear h0 hA hAd hres0 htn htc htm hta
 unfold SlR.val at HTC
 go_enter Tryz.func44, Tryz.ntmps44
 go_wp2
 go_region_with (go_at_call 81; refine HTC.out.mono ?_; rintro e w1 ⟨o, nd, M, mp1, es1, rfl, hst, hM, hgr, hlv⟩)
 have HST : Hid (TrSt ((w.alloc (.cells #[.int .i64 0, .int .u8 0, .int .u8 0, .int .u8 0, .int .u8 0, .int .u8 0, .int .u8 0, .int .u8 0, .int .u8 0, .int .i64 0, .int .u8 0, .int .u8 0, .int .u8 0, .int .u8 0, .int .u8 0, .int .u8 0, .int .u8 0, .int .u8 0] 103)).drew) sb en tr mp es (keyF xs) w1 M mp1 es1 o [nd]) := hst
 have HLV : Hid (∃ (L : List (List Nd)) (ℓ : Nat), TreeRep (grownN its) L ∧ L.length = ℓ + 1 ∧ L[ℓ]? = some [nd] ∧ LvSt es (keyF xs) (w.heap.size + 1) (KMut sb mp1 es1) w1 L) := by
  obtain ⟨L, ℓ, q1, q2, q3, q4⟩ := hlv
  exact ⟨L, ℓ, q1, q2, q3, q4.less (by show _ ≤ (w.alloc _).heap.size; simp)⟩
 clear hlv
 have HMU : Hid (∀ k, KMut sb mp1 es1 k → k < w.heap.size → KMut sb mp es k) := fun k hk hlt => hst.muts k hk (by show _ < (w.alloc _).heap.size; simp; omega)
 have HRO : Hid (rootOf nd = rootB its) := by
  have e := growP_root HNRM.out
  rw [← hgr] at e
  exact e
 have hc2 : w1.cell? ⟨sb, 2, none⟩ = some (.slice tr.a tr.n tr.cap) := RowV.cell hst.row 2 (by simp)
 have HCC : Hid (Calls _ _ _ _ _) := concat_trees w1 tr tds nd.b (by omega) ((SlV.ofOwn (s := tr) H0.out.own).1.frame hst.frame (fun x hx => H0.out.trf x.block (by show (Value.slice tr.a tr.n tr.cap).ownBlock = _; rw [hx]; rfl))) HTN.out HNIL.out
 have hres1 : RowV w1 w.heap.size 103 zero18 := HRES.out.of_block (hst.frame.block _ HRES.out.lt (fun hm => by have := HLT.out _ (Or.inl hm); omega))
 have hf2 : ∀ (w2 : World), Below w1.heap.size w1 w2 → w2.cell? ⟨sb, 2, none⟩ = some (.slice tr.a tr.n tr.cap) ∧ w2.frozen? ⟨sb, 2, none⟩ = false := fun w2 hb => by
  have hr := RowV.below hst.row (RowV.lt hst.row) hb
  exact ⟨RowV.cell hr 2 (by simp), RowV.frozen hr 2⟩
 have HF2 : Hid (∀ (w2 : World), Below w1.heap.size w1 w2 → w2.cell? ⟨sb, 2, none⟩ = some (.slice tr.a tr.n tr.cap) ∧ w2.frozen? ⟨sb, 2, none⟩ = false) := hf2
 have HRES1 : Hid (RowV w1 w.heap.size 103 zero18) := hres1
 have HWN : Hid (sb < w.heap.size) := hsb
 clear hst hgr hf2 hres1 HRES HTC
 go_wp2_with (go_at_call 82; refine HCC.out.mono ?_; rintro e w2 ⟨s, rfl, ho2, hb2⟩; obtain ⟨k0, k1⟩ := HF2.out w2 hb2)
 obtain ⟨hsto, hfr, hfoot⟩ := commit_fin H0.out HAD.out HLT.out HST.out hb2 ho2
 have hres3 : RowV (w2.setCell ⟨sb, 2, none⟩ s.val) w.heap.size 103 zero18 := (HRES1.out.below HRES1.out.lt hb2).other (by exact Nat.ne_of_gt hsb) _
 unfold SlR.val at hsto hfr hres3
 have HLV3 : Hid (∃ (L : List (List Nd)) (ℓ : Nat), TreeRep (grownN its) L ∧ L.length = ℓ + 1 ∧ L[ℓ]? = some [nd] ∧ LvSt es (keyF xs) (w.heap.size + 1) (KMut sb mp1 es1) (w2.setCell ⟨sb, 2, none⟩ (.slice s.a s.n s.cap)) L) := by
  obtain ⟨L, ℓ, q1, q2, q3, q4⟩ := HLV.out
  exact ⟨L, ℓ, q1, q2, q3, (q4.below hb2).next ((Frame.refl (fun k => k = sb) _).setCell (p := ⟨sb, 2, none⟩) rfl _) (fun k hk => Or.inl hk) (fun k hk _ => hk)⟩
 clear HLV
 have HKS : Hid (∀ k, KFoot es k ∨ keyF xs k → k < w.heap.size) := fun k g => HLT.out k (by
  rcases g with g | ⟨x, hx, y, hy, e⟩
  ·exact Or.inr (Or.inr (Or.inl g))
  ·exact Or.inr (Or.inl (Or.inr ⟨x, hx, Or.inl ⟨y, hy, e⟩⟩)))
 generalize w2.setCell ⟨sb, 2, none⟩ (.slice s.a s.n s.cap) = w3 at *
 obtain ⟨x0, x1, x2, x3, x4, x5, x6, x7, hy⟩ := list8 (digB (codeB nd.level nd.its)) rfl
 have hrw := (hsto.nds nd (by simp)).1.row
 rw [ndC_list nd hy] at hrw
 have g0 : w3.cell? ⟨nd.b, 2, none⟩ = some (.int .u8 (x0.toNat : Int)) := hrw.cell 2 (by simp)
 have g1 : w3.cell? ⟨nd.b, 3, none⟩ = some (.int .u8 (x1.toNat : Int)) := hrw.cell 3 (by simp)
 have g2 : w3.cell? ⟨nd.b, 4, none⟩ = some (.int .u8 (x2.toNat : Int)) := hrw.cell 4 (by simp)
 have g3 : w3.cell? ⟨nd.b, 5, none⟩ = some (.int .u8 (x3.toNat : Int)) := hrw.cell 5 (by simp)
 have g4 : w3.cell? ⟨nd.b, 6, none⟩ = some (.int .u8 (x4.toNat : Int)) := hrw.cell 6 (by simp)
 have g5 : w3.cell? ⟨nd.b, 7, none⟩ = some (.int .u8 (x5.toNat : Int)) := hrw.cell 7 (by simp)
 have g6 : w3.cell? ⟨nd.b, 8, none⟩ = some (.int .u8 (x6.toNat : Int)) := hrw.cell 8 (by simp)
 have g7 : w3.cell? ⟨nd.b, 9, none⟩ = some (.int .u8 (x7.toNat : Int)) := hrw.cell 9 (by simp)
 obtain ⟨hssl, hssn⟩ := SlV.ofOwn (s := s) hsto.own
 have hb3d : Below w3.heap.size w3 w3.drew := ⟨rfl, rfl, rfl, Nat.le_refl _, fun _ _ => rfl⟩
 have HHC : Hid (Calls _ _ _ _ _) := head_any sb s (tds ++ [nd]) w3.drew (RowV.cell hsto.row 2 (by simp)) hssl hssn (by simp; omega) (fun x hx => (hsto.nds x hx).1.below hb3d)
 have hrt : (tds ++ [nd]).map rootOf = tds.map rootOf ++ [rootB its] := by rw [List.map_append]; simp [HRO.out]
 rw [hrt] at HHC
 obtain ⟨s0, s1, s2, s3, s4, s5, s6, s7, hss⟩ := list8 (sumF 42 (tds.map rootOf ++ [rootB its])) (sumF_length 41 _)
 obtain ⟨m, hm⟩ : ∃ m, m = tds.length + 1 := ⟨_, rfl⟩
 have HHV : Hid (Value.agg (headC (tds ++ [nd]).length (sumF 42 (tds.map rootOf ++ [rootB its]))).toArray = .agg #[.int .i64 (m : Int), .int .u8 (s0.toNat : Int), .int .u8 (s1.toNat : Int), .int .u8 (s2.toNat : Int), .int .u8 (s3.toNat : Int), .int .u8 (s4.toNat : Int), .int .u8 (s5.toNat : Int), .int .u8 (s6.toNat : Int), .int .u8 (s7.toNat : Int)]) := by
  unfold Hid
  rw [hss, List.length_append, List.length_singleton, ← hm]; rfl
 have HCV : Hid (commitC tds.length (rootB its) (tds.length + 1) (sumF 42 (tds.map rootOf ++ [rootB its])) = comP tr.n m x0 x1 x2 x3 x4 x5 x6 x7 s0 s1 s2 s3 s4 s5 s6 s7) := by
  unfold Hid
  have e1 : rootB its = [x0, x1, x2, x3, x4, x5, x6, x7] := by rw [← HRO.out]; exact hy
  rw [hss, e1, HTN.out, hm]; rfl
 have HSTO : Hid (StoAt w3 sb M en ⟨s.a, s.n, s.cap⟩ mp1 es1 xs its (tds ++ [nd])) := hsto
 have HFR : Hid (Frame (KMut sb mp es) w w3) := hfr
 have hzz : ((w.alloc (.cells #[.int .i64 0, .int .u8 0, .int .u8 0, .int .u8 0, .int .u8 0, .int .u8 0, .int .u8 0, .int .u8 0, .int .u8 0, .int .i64 0, .int .u8 0, .int .u8 0, .int .u8 0, .int .u8 0, .int .u8 0, .int .u8 0, .int .u8 0, .int .u8 0] 103)).drew).heap.size = w.heap.size + 1 := by show (w.alloc _).heap.size = _; simp
 rw [hzz] at hfoot
 have HFT : Hid (∀ k, stoF sb en s mp1 es1 xs (tds ++ [nd]) k → k < w.heap.size + 1 → stoF sb en tr mp es xs tds k) := hfoot
 clear hzz
 have HRES3 : Hid (RowV w3 w.heap.size 103 zero18) := hres3
 have HRW3 : Hid (RowV w3 nd.b 142 [nd.la.val, nd.by_.val, .int .u8 (x0.toNat : Int), .int .u8 (x1.toNat : Int), .int .u8 (x2.toNat : Int), .int .u8 (x3.toNat : Int), .int .u8 (x4.toNat : Int), .int .u8 (x5.toNat : Int), .int .u8 (x6.toNat : Int), .int .u8 (x7.toNat : Int), nd.be.val]) := hrw
 clear hsto hfr hfoot hres3 hrw hy hss hm hrt hssl hssn hb3d ho2 hb2 HST H0 HRES1 HF2 HCC hc2 c2 c0 k0 k1
 go_wp2
 go_region_with (first
  | (go_at_call 83; refine HHC.out.mono ?_; rintro e w8 ⟨rfl, hb8⟩; rw [HHV.out]; have hres8 : RowV w8 w.heap.size 103 zero18 := RowV.below (w := w3.drew) HRES3.out HRES3.out.lt hb8; rename_i K hK; refine hK _ _ ?_; clear hK K; go_loud (refine wpAny_take (i := 7) (v := .agg #[(.int .i64 (tr.n : Int)), (.int .u8 (x0.toNat : Int)), (.int .u8 (x1.toNat : Int)), (.int .u8 (x2.toNat : Int)), (.int .u8 (x3.toNat : Int)), (.int .u8 (x4.toNat : Int)), (.int .u8 (x5.toNat : Int)), (.int .u8 (x6.toNat : Int)), (.int .u8 (x7.toNat : Int)), (.int .i64 (m : Int)), (.int .u8 (s0.toNat : Int)), (.int .u8 (s1.toNat : Int)), (.int .u8 (s2.toNat : Int)), (.int .u8 (s3.toNat : Int)), (.int .u8 (s4.toNat : Int)), (.int .u8 (s5.toNat : Int)), (.int .u8 (s6.toNat : Int)), (.int .u8 (s7.toNat : Int))]) rfl (by kernel_rfl) (by kernel_rfl) (by kernel_rfl) (fun _ _ _ h => h) (Or.inl ⟨by rfl, ?_⟩) ?_); go_loud (focus (intro ww; go_simp; done)); go_loud (refine wpAny_ready (rs := [8]) (by kernel_rfl) (List.cons_ne_nil _ _) ?_; refine AllReady.cons rfl (fun K' hK' => ?_) AllReady.nil; refine step_storeP (by rfl) 103 (.tmp 2) (.tmp 48) (by rfl) w.heap.size (by rfl) (comP tr.n m x0 x1 x2 x3 x4 x5 x6 x7 s0 s1 s2 s3 s4 s5 s6 s7) (by rfl) hres8 rfl Tryz.sizeCommit comP_one ?_; intro w9 hR9 hf9; refine hK' _ _ ?_; clear hK' K'))
  | (go_at_call 83; refine HHC.out.mono ?_; rintro e w8 ⟨rfl, hb8⟩; rw [HHV.out]; have hres8 : RowV w8 w.heap.size 103 zero18 := RowV.below (w := w3.drew) HRES3.out HRES3.out.lt hb8; rename_i K hK; refine hK _ _ ?_; clear hK K; have hrw8 := RowV.below (w := w3.drew) HRW3.out HRW3.out.lt hb8; refine wpAny_ready (rs := [4]) ?_ (List.cons_ne_nil _ _) ?_; kernel_rfl; have g0' : w8.cell? ⟨nd.b, 2, none⟩ = some (.int .u8 (x0.toNat : Int)) := RowV.cell hrw8 2 (by simp); have g1' : w8.cell? ⟨nd.b, 3, none⟩ = some (.int .u8 (x1.toNat : Int)) := RowV.cell hrw8 3 (by simp); have g2' : w8.cell? ⟨nd.b, 4, none⟩ = some (.int .u8 (x2.toNat : Int)) := RowV.cell hrw8 4 (by simp); have g3' : w8.cell? ⟨nd.b, 5, none⟩ = some (.int .u8 (x3.toNat : Int)) := RowV.cell hrw8 5 (by simp); have g4' : w8.cell? ⟨nd.b, 6, none⟩ = some (.int .u8 (x4.toNat : Int)) := RowV.cell hrw8 6 (by simp); have g5' : w8.cell? ⟨nd.b, 7, none⟩ = some (.int .u8 (x5.toNat : Int)) := RowV.cell hrw8 7 (by simp); have g6' : w8.cell? ⟨nd.b, 8, none⟩ = some (.int .u8 (x6.toNat : Int)) := RowV.cell hrw8 8 (by simp); have g7' : w8.cell? ⟨nd.b, 9, none⟩ = some (.int .u8 (x7.toNat : Int)) := RowV.cell hrw8 9 (by simp); refine AllReady.cons rfl (fun K2 hK2 => ?_) AllReady.nil; go_simp; refine hK2 _ _ ?_; clear hK2 K2; go_loud (refine wpAny_take (i := 7) (v := .agg #[(.int .i64 (tr.n : Int)), (.int .u8 (x0.toNat : Int)), (.int .u8 (x1.toNat : Int)), (.int .u8 (x2.toNat : Int)), (.int .u8 (x3.toNat : Int)), (.int .u8 (x4.toNat : Int)), (.int .u8 (x5.toNat : Int)), (.int .u8 (x6.toNat : Int)), (.int .u8 (x7.toNat : Int)), (.int .i64 (m : Int)), (.int .u8 (s0.toNat : Int)), (.int .u8 (s1.toNat : Int)), (.int .u8 (s2.toNat : Int)), (.int .u8 (s3.toNat : Int)), (.int .u8 (s4.toNat : Int)), (.int .u8 (s5.toNat : Int)), (.int .u8 (s6.toNat : Int)), (.int .u8 (s7.toNat : Int))]) rfl (by kernel_rfl) (by kernel_rfl) (by kernel_rfl) (fun _ _ _ h => h) (Or.inl ⟨by rfl, ?_⟩) ?_); go_loud (focus (intro ww; go_simp; done)); go_loud (refine wpAny_ready (rs := [8]) (by kernel_rfl) (List.cons_ne_nil _ _) ?_; refine AllReady.cons rfl (fun K' hK' => ?_) AllReady.nil; refine step_storeP (by rfl) 103 (.tmp 2) (.tmp 48) (by rfl) w.heap.size (by rfl) (comP tr.n m x0 x1 x2 x3 x4 x5 x6 x7 s0 s1 s2 s3 s4 s5 s6 s7) (by rfl) hres8 rfl Tryz.sizeCommit comP_one ?_; intro w9 hR9 hf9; refine hK' _ _ ?_; clear hK' K')))
 all_goals
  go_wp2
  rw [HCV.out]
  refine ret_agg2 (k := 2) (k2 := 3) (cs := comP tr.n m x0 x1 x2 x3 x4 x5 x6 x7 s0 s1 s2 s3 s4 s5 s6 s7) rfl rfl rfl hR9 Tryz.underlying103 rfl Tryz.sizeCommit rfl ⟨s, mp1, es1, nd, M, rfl, ?_, HRO.out, hM, ?_, fun k hk hlt => HFT.out k hk (by omega), HMU.out, ?_⟩
  ·have hb8' : Below w3.heap.size w3 w8 := ⟨hb8.os, hb8.tape, hb8.output, hb8.size, hb8.block⟩
   exact (HSTO.out.below hb8').frame hf9 (fun k hk e => by have := HLT.out k (HFT.out k hk (by omega)); omega)
  ·have hb8' : Below w3.heap.size w3 w8 := ⟨hb8.os, hb8.tape, hb8.output, hb8.size, hb8.block⟩
   exact (HFR.out.trans (Frame.of_below_all hb8')).inside hf9 (fun k hlt e => by omega)
  ·have hb8' : Below w3.heap.size w3 w8 := ⟨hb8.os, hb8.tape, hb8.output, hb8.size, hb8.block⟩
   obtain ⟨L, ℓ, q1, q2, q3, q4⟩ := HLV3.out
   exact ⟨L, ℓ, q1, q2, q3, ((q4.below hb8').frame hf9 (fun nds hn x hx k hk e => by have := HKS.out k (q4.foot nds hn x hx k hk (by omega)); omega)).less (by omega)⟩
end Go.Proofs.YtekegfbjbainhaaGreat


namespace Go.Proofs.YtekegfbjbainhaaGreat
open Go.RowKit
set_option maxRecDepth 100000 in
set_option maxHeartbeats 1000000 in
theorem put_arg (sv : Value) (ak av : Option Addr) (nk ck nv cv : Nat) (w : World) (hnk : nk ≤ maxLen) (hnv : nv ≤ maxLen) (hbad : ((decide (1 ≤ nk) && decide (nk ≤ 12)) && decide (nv ≤ 12)) = false) :
  Calls Tryz.prog 40 #[sv, .slice ak nk ck, .slice av nv cv] w fun e w' => e = .returned (.int .i64 1) ∧ w' = w := by
 have HIK : Hid (Calls _ _ _ _ _) := isKey_any ak nk ck w hnk
 have HIV : Hid (Calls _ _ _ _ _) := isValue_any av nv cv w hnv
 clear hnk hnv
 generalize (decide (1 ≤ nk) && decide (nk ≤ 12)) = bk at *
 generalize decide (nv ≤ 12) = bv at *
 cases bk
 ·go_enter Tryz.func40, Tryz.ntmps40
  go_wp2_with (go_at_call 27; refine HIK.out.mono ?_; rintro e w1 ⟨rfl, rfl⟩)
  go_ret
  exact ⟨rfl, rfl⟩
 ·obtain rfl : bv = false := by simpa using hbad
  go_enter Tryz.func40, Tryz.ntmps40
  go_wp2_with (first | (go_at_call 27; refine HIK.out.mono ?_; rintro e w1 ⟨rfl, hw1⟩; obtain rfl : w = w1 := hw1.symm) | (go_at_call 78; refine HIV.out.mono ?_; rintro e w2 ⟨rfl, hw2⟩; obtain rfl : w = w2 := hw2.symm))
  go_ret
  exact ⟨rfl, rfl⟩
set_option maxRecDepth 100000 in
set_option maxHeartbeats 1000000 in
theorem put_full (sb : Nat) (en tr : SlR) (mp : Option Nat) (xs : List EnP) (its : List ItR) (sk sv : SlR) (key : List UInt8) (w : World) (hR : StoRow w sb en mp tr) (hE : EntAt w en xs its) (hr : Rising its) (h60 : xs.length = 60) (hK : BS w sk key)
  (hk1 : 1 ≤ key.length) (hk2 : key.length ≤ 12) (hv2 : sv.n ≤ 12) (hfull : thereB its key = false) :
  Calls Tryz.prog 40 #[.pointer (some ⟨sb, 0, none⟩), sk.val, sv.val] w fun e w' => e = .returned (.int .i64 2) ∧ Below w.heap.size w w' := by
 have hsb := hR.lt
 have h0 : w.cell? ⟨sb, 0, none⟩ = some (.slice en.a en.n en.cap) := hR.cell 0 (by simp)
 obtain ⟨hen, hnc, hcm, had⟩ := owns_cap (a := en.a) (n' := en.n) (cap := en.cap) hE.own
 have hsl := (SlV.ofOwn (s := en) hE.own).1
 have HIK : Hid (Calls _ _ _ _ _) := isKey_any sk.a sk.n sk.cap w (by rw [hK.n]; unfold maxLen; omega)
 have HIV : Hid (Calls _ _ _ _ _) := isValue_any sv.a sv.n sv.cap w (by unfold maxLen; omega)
 have hkb : (decide (1 ≤ sk.n) && decide (sk.n ≤ 12)) = true := by rw [hK.n]; simp [hk1, hk2]
 have hvb : decide (sv.n ≤ 12) = true := by simp [hv2]
 rw [hkb] at HIK
 rw [hvb] at HIV
 have HF : Hid (Calls _ _ _ _ _) := find_any en xs its sk key w hen hE.len (by omega) hsl hE.ok hr hK
 rw [hfull] at HF
 generalize placeN its key = i at *
 rw [h60] at hen
 unfold SlR.val at HF ⊢
 rw [hen] at h0 HF
 clear hkb hvb hfull hcm hk1 hk2 hv2 had hE hR hr hK hnc hsl h60 hen
 go_enter Tryz.func40, Tryz.ntmps40
 go_wp2_with fail
 refine HIK.out.mono ?_
 rintro e w1 ⟨rfl, hw1⟩
 obtain rfl : w = w1 := hw1.symm
 clear hw1
 go_wp2_with fail
 refine HIV.out.mono ?_
 rintro e w1 ⟨rfl, hw1⟩
 obtain rfl : w = w1 := hw1.symm
 clear hw1
 go_wp2_with fail
 refine HF.out.mono ?_
 rintro e w1 ⟨rfl, hB1⟩
 have d0 : w1.cell? ⟨sb, 0, none⟩ = some (.slice en.a 60 en.cap) := by rw [hB1.cell (p := ⟨sb, 0, none⟩) hsb]; exact h0
 go_wp2
 go_ret
 exact ⟨rfl, hB1⟩
set_option maxRecDepth 100000 in
theorem del_arg (sv : Value) (ak : Option Addr) (nk ck : Nat) (w : World) (hnk : nk ≤ maxLen) (hbad : (decide (1 ≤ nk) && decide (nk ≤ 12)) = false) :
  Calls Tryz.prog 42 #[sv, .slice ak nk ck] w fun e w' => e = .returned (.int .i64 1) ∧ w' = w := by
 have HIK : Hid (Calls _ _ _ _ _) := isKey_any ak nk ck w hnk
 rw [hbad] at HIK
 clear hnk hbad
 go_enter Tryz.func42, Tryz.ntmps42
 go_wp2_with (go_at_call 27; refine HIK.out.mono ?_; rintro e w1 ⟨rfl, rfl⟩)
 go_ret
 exact ⟨rfl, rfl⟩
set_option maxRecDepth 100000 in
set_option maxHeartbeats 1000000 in
theorem del_none (sb : Nat) (en tr : SlR) (mp : Option Nat) (xs : List EnP) (its : List ItR) (sk : SlR) (key : List UInt8) (w : World) (hR : StoRow w sb en mp tr) (hE : EntAt w en xs its) (hr : Rising its) (h60 : xs.length ≤ 60) (hK : BS w sk key)
  (hk1 : 1 ≤ key.length) (hk2 : key.length ≤ 12) (hno : thereB its key = false) :
  Calls Tryz.prog 42 #[.pointer (some ⟨sb, 0, none⟩), sk.val] w fun e w' => e = .returned (.int .i64 3) ∧ Below w.heap.size w w' := by
 have hsb := hR.lt
 have h0 : w.cell? ⟨sb, 0, none⟩ = some (.slice en.a en.n en.cap) := hR.cell 0 (by simp)
 obtain ⟨hen, hnc, hcm, had⟩ := owns_cap (a := en.a) (n' := en.n) (cap := en.cap) hE.own
 have hsl := (SlV.ofOwn (s := en) hE.own).1
 have HIK : Hid (Calls _ _ _ _ _) := isKey_any sk.a sk.n sk.cap w (by rw [hK.n]; unfold maxLen; omega)
 have hkb : (decide (1 ≤ sk.n) && decide (sk.n ≤ 12)) = true := by rw [hK.n]; simp [hk1, hk2]
 rw [hkb] at HIK
 have HF : Hid (Calls _ _ _ _ _) := find_any en xs its sk key w hen hE.len (by omega) hsl hE.ok hr hK
 rw [hno] at HF
 generalize placeN its key = i at *
 unfold SlR.val at HF ⊢
 clear hkb hno hcm hk1 hk2 had hE hR hr hK hnc hsl h60 hen
 go_enter Tryz.func42, Tryz.ntmps42
 go_wp2_with (first | (go_at_call 27; refine HIK.out.mono ?_; rintro e w1 ⟨rfl, hw1⟩; obtain rfl : w = w1 := hw1.symm; clear hw1) | (go_at_call 29; refine HF.out.mono ?_; rintro e w2 ⟨rfl, hB1⟩))
 go_ret
 exact ⟨rfl, hB1⟩
theorem concat_del (W : World) (en bs : SlR) (xs : List EnP) (i j : Nat) (hi : i ≤ xs.length) (hj : j ≤ xs.length) (h60 : xs.length ≤ 60) (h8 : ∀ x ∈ xs, x.d.length = 8) (hs : SlV W en.a (ensC xs)) (hn1 : en.a = none → i = 0 ∧ en.cap = 0)
  (hb : SlV W bs.a (ensC (xs.drop j))) (hbn : bs.n = xs.length - j) (hn2 : bs.a = none → bs.n = 0 ∧ bs.cap = 0) :
  Calls Tryz.prog 79 #[.slice (some ⟨W.heap.size, 0, none⟩) 2 2] ((W.alloc (.cells #[.slice en.a i en.cap, .slice bs.a bs.n bs.cap] 67)).drew)
   fun e w' => ∃ s : SlR, e = .returned (.slice s.a s.n s.cap) ∧ w'.ownsRow W.heap.size 74 10 s.val (putX xs i [] j).length (ensC (putX xs i [] j)) ∧ Below W.heap.size W w' := by
 have hB : Below W.heap.size W ((W.alloc (.cells #[.slice en.a i en.cap, .slice bs.a bs.n bs.cap] 67)).drew) := by
  have h1 := (Frame.refl (fun _ => False) W).alloc (.cells #[.slice en.a i en.cap, .slice bs.a bs.n bs.cap] 67)
  exact h1.drew.below (Nat.le_refl _) (fun k hk => by cases hk)
 have hp3 : RowV ((W.alloc (.cells #[.slice en.a i en.cap, .slice bs.a bs.n bs.cap] 67)).drew) W.heap.size 67 [.slice en.a i en.cap, .slice bs.a bs.n bs.cap] := RowV.new W 67 _
 have hs1 := hs.below_all hB
 have hb1 := hb.below_all hB
 generalize ((W.alloc (.cells #[.slice en.a i en.cap, .slice bs.a bs.n bs.cap] 67)).drew) = X at *
 have ht8 : ∀ x ∈ xs.take i, x.d.length = 8 := fun x hx => h8 x (List.mem_of_mem_take hx)
 have hd8 : ∀ x ∈ xs.drop j, x.d.length = 8 := fun x hx => h8 x (List.mem_of_mem_drop hx)
 have hpn : pN [(⟨en.a, i, en.cap⟩, ensC (xs.take i)), (bs, ensC (xs.drop j))] = (putX xs i [] j).length := by
  simp [pN, putX, hbn]; omega
 have hpc : pC [(⟨en.a, i, en.cap⟩, ensC (xs.take i)), (bs, ensC (xs.drop j))] = ensC (putX xs i [] j) := by
  simp [pC, putX, ensC]
 have hcall := concatE_any W.heap.size 2 [(⟨en.a, i, en.cap⟩, ensC (xs.take i)), (bs, ensC (xs.drop j))] X rfl (by simp) (by rw [hpn]; simp [putX]; omega) ?_ hp3.lt ?_
 ·refine hcall.mono ?_
  rintro e w' ⟨s, rfl, ho, hb2⟩
  refine ⟨s, rfl, ?_, hB.trans (hb2.mono hB.size)⟩
  rw [hpn, hpc] at ho
  exact owns_base ho (fun k hk => Nat.le_trans hB.size (ho.lt k hk).1)
 ·intro q hq
  match q, hq with
  | 0, _ => exact hp3.cell 0 (by simp)
  | 1, _ => exact hp3.cell 1 (by simp)
 ·intro p hp
  simp only [List.mem_cons, List.not_mem_nil, or_false] at hp
  rcases hp with rfl | rfl
  ·refine ⟨?_, ?_, hn1, ensC_one _⟩
   ·show SlV X en.a (ensC (xs.take i))
    rw [ensC_take xs h8 i hi]; exact hs1.take _
   ·show (ensC (xs.take i)).length = i * 10
    rw [ensC_length _ ht8, List.length_take, Nat.min_eq_left hi]
  ·refine ⟨hb1, ?_, hn2, ensC_one _⟩
   show (ensC (xs.drop j)).length = bs.n * 10
   rw [ensC_length _ hd8, List.length_drop, hbn]
theorem idx_del {α : Type} (l : List α) (i j : Nat) (hi : i ≤ l.length) (q : Nat) : (l.take i ++ l.drop j)[q]? = if q < i then l[q]? else l[j + (q - i)]? := by
 have hti : (l.take i).length = i := by rw [List.length_take]; omega
 by_cases hq : q < i
 ·rw [if_pos hq, List.getElem?_append_left (by omega), List.getElem?_take_of_lt hq]
 ·rw [if_neg hq, List.getElem?_append_right (by omega), hti, List.getElem?_drop]
theorem del_fin {w W w4 : World} {sb : Nat} {en tr s4 : SlR} {mp : Option Nat} {xs : List EnP} {its : List ItR} {i j : Nat} (hR : StoRow w sb en mp tr) (hd : ∀ k, entF en xs k → k ≠ sb) (hE : EntAt w en xs its) (hWB : Below w.heap.size w W) (hi : i ≤ xs.length)
  (ho : w4.ownsRow W.heap.size 74 10 s4.val (putX xs i [] j).length (ensC (putX xs i [] j))) (hb4 : Below W.heap.size W w4) :
  StoRow (w4.setCell ⟨sb, 0, none⟩ s4.val) sb s4 mp tr ∧ EntAt (w4.setCell ⟨sb, 0, none⟩ s4.val) s4 (putX xs i [] j) (its.take i ++ its.drop j) ∧ Frame (fun k => k = sb) w (w4.setCell ⟨sb, 0, none⟩ s4.val) ∧
   (∀ k, entF s4 (putX xs i [] j) k → k < w.heap.size → entF en xs k) := by
 have hB4 : Below w.heap.size w w4 := hWB.trans (hb4.mono hWB.size)
 have hfoot : ∀ k, entF s4 (putX xs i [] j) k → k < w.heap.size → entF en xs k := fun k h hlt => by
  rcases h with h | ⟨x, hx, h⟩
  ·have := (ho.lt k h).1; have := hWB.size; omega
  ·refine Or.inr ⟨x, ?_, h⟩
   unfold putX at hx
   simp only [List.append_nil, List.mem_append] at hx
   rcases hx with hx | hx
   ·exact List.mem_of_mem_take hx
   ·exact List.mem_of_mem_drop hx
 refine ⟨by simpa using (RowV.below hR (RowV.lt hR) hB4).set 0 s4.val, ?_, (Frame.of_below_all (S := fun k => k = sb) hB4).setCell (p := ⟨sb, 0, none⟩) rfl _, hfoot⟩
 have h4 : EntAt w4 s4 (putX xs i [] j) (its.take i ++ its.drop j) := by
  refine ⟨owns_base ho (fun k hk => Nat.zero_le _), ?_, ?_⟩
  ·have := hE.len
   simp [putX]; omega
  ·intro q h1 h2
   have hl := hE.len
   have g1 : (putX xs i [] j)[q]? = (if q < i then xs[q]? else xs[j + (q - i)]?) := by unfold putX; rw [List.append_nil]; exact idx_del xs i j hi q
   have g2 := idx_del its i j (by omega) q
   have e1 : (putX xs i [] j)[q]? = some (putX xs i [] j)[q] := List.getElem?_eq_getElem h1
   have e2 := List.getElem?_eq_getElem h2
   rw [g1] at e1
   rw [g2] at e2
   by_cases hq : q < i
   ·rw [if_pos hq] at e1 e2
    obtain ⟨p1, p2⟩ := List.getElem?_eq_some_iff.1 e1
    obtain ⟨p3, p4⟩ := List.getElem?_eq_some_iff.1 e2
    rw [← p4]
    have := (hE.ok q p1 p3).below hB4
    rw [p2] at this; exact this
   ·rw [if_neg hq] at e1 e2
    obtain ⟨p1, p2⟩ := List.getElem?_eq_some_iff.1 e1
    obtain ⟨p3, p4⟩ := List.getElem?_eq_some_iff.1 e2
    rw [← p4]
    have := (hE.ok _ p1 p3).below hB4
    rw [p2] at this; exact this
 refine h4.frame ((Frame.refl (fun k => k = sb) w4).setCell (p := ⟨sb, 0, none⟩) rfl _) (fun k hk e => ?_)
 exact hd k (hfoot k hk (by rw [e]; exact RowV.lt hR)) e
set_option maxRecDepth 100000 in
set_option maxHeartbeats 4000000 in
theorem del_some (sb g n cap : Nat) (tr : SlR) (mp : Option Nat) (xs : List EnP) (its : List ItR) (sk : SlR) (key : List UInt8) (w : World) (hR : StoRow w sb ⟨some ⟨g, 0, none⟩, n, cap⟩ mp tr) (hd : ∀ k, entF ⟨some ⟨g, 0, none⟩, n, cap⟩ xs k → k ≠ sb) (hE : EntAt w ⟨some ⟨g, 0, none⟩, n, cap⟩ xs its) (hr : Rising its) (h60 : xs.length ≤ 60) (hK : BS w sk key)
  (hk1 : 1 ≤ key.length) (hk2 : key.length ≤ 12) (ht : thereB its key = true) :
  Calls Tryz.prog 42 #[.pointer (some ⟨sb, 0, none⟩), sk.val] w fun e w' => e = .returned (.int .i64 0) ∧
   ∃ en' xs', StoRow w' sb en' mp tr ∧ EntAt w' en' xs' (delN its key) ∧ Frame (fun k => k = sb) w w' ∧ (∀ k, entF en' xs' k → k < w.heap.size → entF ⟨some ⟨g, 0, none⟩, n, cap⟩ xs k) := by
 have hsb := hR.lt
 have h0 : w.cell? ⟨sb, 0, none⟩ = some (.slice (some ⟨g, 0, none⟩) n cap) := hR.cell 0 (by simp)
 obtain ⟨hen, hnc, hcm, _⟩ := owns_cap (a := some ⟨g, 0, none⟩) (n' := n) (cap := cap) hE.own
 have hsl : SlV w (some ⟨g, 0, none⟩) (ensC xs) := (SlV.ofOwn (s := ⟨some ⟨g, 0, none⟩, n, cap⟩) hE.own).1
 have HIK : Hid (Calls _ _ _ _ _) := isKey_any sk.a sk.n sk.cap w (by rw [hK.n]; unfold maxLen; omega)
 have hkb : (decide (1 ≤ sk.n) && decide (sk.n ≤ 12)) = true := by rw [hK.n]; simp [hk1, hk2]
 rw [hkb] at HIK
 have HF : Hid (Calls _ _ _ _ _) := find_any ⟨some ⟨g, 0, none⟩, n, cap⟩ xs its sk key w hen hE.len (by omega) hsl hE.ok hr hK
 have hi := thereB_lt ht
 rw [hE.len, ← hen] at hi
 rw [ht] at HF
 have HDEL : Hid (delN its key = its.take (placeN its key) ++ its.drop (placeN its key + 1)) := rfl
 generalize placeN its key = i at *
 have HEN : Hid (n = xs.length) := hen
 have HCT : Hid (∀ (W : World), Below w.heap.size w W → SlV W (cutS (some ⟨g, 0, none⟩) cap (i + 1) 10) (ensC (xs.drop (i + 1)))) := fun W hW => by
  have h1 := SlV.cut (n := n) (cap := cap) (i := i + 1) (size := 10) (hsl.below_all hW) (by rw [ensC_length _ hE.d8, HEN.out]) (by omega) (by omega)
  rw [ensC_drop _ hE.d8 _ (by have := HEN.out; omega)]; exact h1
 have H8 : Hid (∀ x ∈ xs, x.d.length = 8) := hE.d8
 unfold maxLen at hcm
 have hiI : (i : Int) + 1 ≤ n := by omega
 have hic : (i : Int) ≤ cap := by omega
 have hnI : (n : Int) ≤ cap := by omega
 have hcI : (cap : Int) ≤ 9223372036854775807 := by omega
 have HNC : Hid (n ≤ cap) := by unfold Hid; omega
 have HII : Hid (i < n) := hi
 unfold SlR.val at HF ⊢
 clear hkb ht hcm hk1 hk2 hnc hen hi
 obtain ⟨m, hm⟩ : ∃ m : Nat, m = i + 1 := ⟨_, rfl⟩
 have hmI : (i : Int) + 1 = (m : Int) := by omega
 have HM : Hid (m = i + 1) := hm
 rw [← hm] at HCT HDEL
 have hmn : (m : Int) ≤ n := by omega
 have hmN : m ≤ n := by omega
 have hmx : (m : Int) ≤ 9223372036854775807 := by omega
 have hwr : IntKind.i64.wrap (m : Int) = (m : Int) := by simp only [IntKind.wrap_i64]; omega
 have hi9 : (i : Int) ≤ 1000 := by have := HEN.out; omega
 clear hm hiI
 by_cases hcj : cap = m
 ·have HCT2 : Hid (∀ (W : World), Below w.heap.size w W → SlV W (some ⟨g, 0, none⟩) (ensC (xs.drop m))) := fun W hW => by have := HCT.out W hW; unfold cutS at this; rw [if_pos hcj] at this; exact this
  obtain rfl : n = cap := by have := HNC.out; omega
  subst hcj
  clear hnI hmn hmN
  go_enter Tryz.func42, Tryz.ntmps42
  go_wp2_with (first | (go_at_call 27; refine HIK.out.mono ?_; rintro e w1 ⟨rfl, hw1⟩; obtain rfl : w = w1 := hw1.symm; clear hw1) | (go_at_call 29; refine HF.out.mono ?_; rintro e w2 ⟨rfl, hB1⟩; have d0 : w2.cell? ⟨sb, 0, none⟩ = some (.slice (some ⟨g, 0, none⟩) n n) := (by rw [hB1.cell (p := ⟨sb, 0, none⟩) hsb]; exact h0)))
  have HCC : Hid (Calls _ _ _ _ _) := concat_del w2 ⟨some ⟨g, 0, none⟩, n, n⟩ ⟨some ⟨g, 0, none⟩, 0, 0⟩ xs i n (by have := HEN.out; have := HII.out; omega) (by have := HEN.out; have := HII.out; have := HM.out; omega) h60 H8.out (hsl.below_all hB1) (fun h => by cases h) (HCT2.out w2 hB1) (by have := HEN.out; have := HM.out; simp only; omega) (fun h => by cases h)
  have HWs : Hid (w2.frozen? ⟨sb, 0, none⟩ = false) := (hR.below hsb hB1).frozen 0
  have HIX : Hid (i ≤ xs.length) := by have := HEN.out; have := HII.out; unfold Hid; omega
  clear h60
  go_region_with (go_at_call 79; refine HCC.out.mono ?_; rintro e w4 ⟨s4, rfl, ho4, hb4⟩; have r0 : w4.cell? ⟨sb, 0, none⟩ = some (.slice (some ⟨g, 0, none⟩) n n) := (by rw [hb4.cell (p := ⟨sb, 0, none⟩) (Nat.lt_of_lt_of_le hsb hB1.size)]; exact d0); have r1 : w4.frozen? ⟨sb, 0, none⟩ = false := (by rw [hb4.frozen (p := ⟨sb, 0, none⟩) (Nat.lt_of_lt_of_le hsb hB1.size)]; exact HWs.out))
  all_goals
   go_wp2
   go_ret
   have hfin := del_fin hR hd hE hB1 HIX.out ho4 hb4
   refine ⟨rfl, s4, _, hfin.1, ?_, hfin.2.2.1, hfin.2.2.2⟩
   rw [HDEL.out]; exact hfin.2.1
 ·have HCT2 : Hid (∀ (W : World), Below w.heap.size w W → SlV W (some ⟨g, m * 10, none⟩) (ensC (xs.drop m))) := fun W hW => by have := HCT.out W hW; unfold cutS at this; rw [if_neg hcj] at this; simpa [Addr.add_mid] using this
  have hnc : n ≤ cap := HNC.out
  go_enter Tryz.func42, Tryz.ntmps42
  go_wp2_with (first | (go_at_call 27; refine HIK.out.mono ?_; rintro e w1 ⟨rfl, hw1⟩; obtain rfl : w = w1 := hw1.symm; clear hw1) | (go_at_call 29; refine HF.out.mono ?_; rintro e w2 ⟨rfl, hB1⟩; have d0 : w2.cell? ⟨sb, 0, none⟩ = some (.slice (some ⟨g, 0, none⟩) n cap) := (by rw [hB1.cell (p := ⟨sb, 0, none⟩) hsb]; exact h0)))
  have HCC : Hid (Calls _ _ _ _ _) := concat_del w2 ⟨some ⟨g, 0, none⟩, n, cap⟩ ⟨some ⟨g, m * 10, none⟩, n - m, cap - m⟩ xs i m (by have := HEN.out; have := HII.out; omega) (by have := HEN.out; have := HII.out; have := HM.out; omega) h60 H8.out (hsl.below_all hB1) (fun h => by cases h) (HCT2.out w2 hB1) (by have := HEN.out; have := HM.out; simp only; omega) (fun h => by cases h)
  have HWs : Hid (w2.frozen? ⟨sb, 0, none⟩ = false) := (hR.below hsb hB1).frozen 0
  have HIX : Hid (i ≤ xs.length) := by have := HEN.out; have := HII.out; unfold Hid; omega
  clear h60
  go_region_with (go_at_call 79; refine HCC.out.mono ?_; rintro e w4 ⟨s4, rfl, ho4, hb4⟩; have r0 : w4.cell? ⟨sb, 0, none⟩ = some (.slice (some ⟨g, 0, none⟩) n cap) := (by rw [hb4.cell (p := ⟨sb, 0, none⟩) (Nat.lt_of_lt_of_le hsb hB1.size)]; exact d0); have r1 : w4.frozen? ⟨sb, 0, none⟩ = false := (by rw [hb4.frozen (p := ⟨sb, 0, none⟩) (Nat.lt_of_lt_of_le hsb hB1.size)]; exact HWs.out))
  all_goals
   go_wp2
   go_ret
   have hfin := del_fin hR hd hE hB1 HIX.out ho4 hb4
   refine ⟨rfl, s4, _, hfin.1, ?_, hfin.2.2.1, hfin.2.2.2⟩
   rw [HDEL.out]; exact hfin.2.1
end Go.Proofs.YtekegfbjbainhaaGreat
