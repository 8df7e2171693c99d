import Derived.Test.YtekegfbjbainhaaGreatKJoin5
import Derived.Lib.AppendZerosOnto
set_option linter.unusedVariables false
set_option linter.unusedSimpArgs false

namespace Go.Proofs.YtekegfbjbainhaaGreat
open Go.RowKit
set_option maxRecDepth 100000 in
set_option maxHeartbeats 1000000 in
theorem find_any (en : SlR) (xs : List EnP) (its : List ItR) (sk : SlR) (key : List UInt8) (w : World) (hn : en.n = xs.length) (hl : its.length = xs.length) (h60 : xs.length ≤ 60) (hs : SlE w en.a xs)
  (hok : ∀ i (h1 : i < xs.length) (h2 : i < its.length), EnOk w xs[i] its[i]) (hr : Rising its) (hk : BS w sk key) :
  Calls Tryz.prog 29 #[en.val, sk.val] w fun e w' => e = .returned (.tuple #[.int .i64 (placeN its key : Int), .bool (thereB its key)]) ∧ Below w.heap.size w w' := by
 have HC : Hid (Calls _ _ _ _ _) := bsearch_any en.a en.cap en.n xs its sk key w hn hl h60 hs hok hr hk
 clear hok hs hr hk hn hl h60
 unfold SlR.val at *
 generalize thereB its key = pt at *
 generalize placeN its key = pp at *
 go_enter Tryz.func29, Tryz.ntmps29
 go_wp2_with fail
 refine HC.out.mono ?_
 rintro e w1 ⟨rfl, hb1⟩
 go_wp2
 go_ret2
 exact ⟨rfl, hb1⟩
set_option maxRecDepth 100000 in
set_option maxHeartbeats 1000000 in
theorem clone_any (s : SlR) (l : List UInt8) (w : World) (h : BS w s l) (hl : l.length ≤ 1000) :
  Calls Tryz.prog 30 #[s.val] w fun e w' => ∃ s' : SlR, e = .returned s'.val ∧ BS w' s' l ∧ (∀ x, s'.a = some x → w.heap.size ≤ x.block) ∧ Below w.heap.size w w' := by
 obtain ⟨a, n, cap⟩ := s
 obtain ⟨hs, hn, hnil, _⟩ := h
 simp only at hs hn hnil
 unfold SlR.val
 have he := fun w => run_eql_slice_nil (P := Tryz.prog) w 38 5 a n cap Tryz.underlying38
 cases a with
 | none =>
  obtain rfl : l = [] := by
   cases l with
   | nil => rfl
   | cons y r => obtain ⟨b, o, ha, _⟩ := hs 0 (by simp); cases ha
  obtain rfl : n = 0 := by simpa using hn
  obtain rfl := hnil rfl
  clear hs hn hnil hl
  go_enter Tryz.func30, Tryz.ntmps30
  go_wp2
  go_ret
  exact ⟨⟨none, 0, 0⟩, rfl, ⟨SlB.nil _ _, rfl, fun _ => rfl, (fun x hx => by cases hx)⟩, (fun x hx => by cases hx), Below.refl _ _⟩
 | some x =>
  have hb1 : OwnB (w.alloc (.cells #[] 5)) w.heap.size (.slice (some ⟨w.heap.size, 0, none⟩) 0 0) [] := OwnB.built w w.heap.size [] (Nat.le_refl _) (by simp [maxLen])
  have hs1 : SlB (w.alloc (.cells #[] 5)) (some x) l := hs.below ((Below.refl _ _).alloc (Nat.le_refl _) _) (Nat.le_refl _)
  have HN : Hid (n = l.length) := hn
  clear hn hs
  go_enter Tryz.func30, Tryz.ntmps30
  go_wp2_with (at_builtin; refine wp_appendB (by rfl) (.tmp 5) (.tmp 6) (by rfl) w.heap.size _ [] (by rfl) hb1 (some x) n cap l (by rfl) HN.out hs1 (fun h => by cases h) (by simp; omega) (by simp) ?_; intro a' n' cap' w4 hn' ho' hs' hf' hat'; clear hn')
  go_ret
  obtain ⟨_, hn2, hnil2⟩ := ho'.sl
  have hbk : ∀ y, a' = some y → (Value.slice a' n' cap').ownBlock = some y.block := fun y hy => by rw [hy]; rfl
  refine ⟨⟨a', n', cap'⟩, rfl, ⟨hs', hn2, hnil2, fun y hy => (ho'.lt _ (hbk y hy)).2⟩, fun y hy => ?_, ?_⟩
  ·exact (ho'.lt _ (hbk y hy)).1
  ·exact ((Below.refl _ _).alloc (Nat.le_refl _) _).trans (hf'.below (by simp) (fun k hk => by simp [Value.ownBlock] at hk; omega))
def pN (ps : List (SlR × List Value)) : Nat := (ps.map (·.1.n)).sum
def pC (ps : List (SlR × List Value)) : List Value := ps.flatMap (·.2)
structure PartAt (w : World) (size : Nat) (p : SlR × List Value) : Prop where
 sl : SlV w p.1.a p.2
 len : p.2.length = p.1.n * size
 nil : p.1.a = none → p.1.n = 0 ∧ p.1.cap = 0
 one : ∀ u ∈ p.2, u.oneCell' = true
theorem pN_snoc (ps : List (SlR × List Value)) (k : Nat) (h : k < ps.length) : pN (ps.take (k + 1)) = pN (ps.take k) + ps[k].1.n := by
 unfold pN; rw [List.take_succ_eq_append_getElem h, List.map_append, List.sum_append]; simp
theorem pC_snoc (ps : List (SlR × List Value)) (k : Nat) (h : k < ps.length) : pC (ps.take (k + 1)) = pC (ps.take k) ++ ps[k].2 := by
 unfold pC; rw [List.take_succ_eq_append_getElem h, List.flatMap_append]; simp
theorem pN_le (ps : List (SlR × List Value)) (k : Nat) : pN (ps.take k) ≤ pN ps := by
 conv => rhs; rw [← List.take_append_drop k ps]
 unfold pN; rw [List.map_append, List.sum_append]; omega
theorem Tryz.infoEntry : (Tryz.prog.info? 74).map (fun i => (i.zero, i.size, i.bytes)) = some (some (.agg #[.slice none 0 0, .slice none 0 0, .int .u8 0, .int .u8 0, .int .u8 0, .int .u8 0, .int .u8 0, .int .u8 0, .int .u8 0, .int .u8 0]), 10, 56) := by kernel_rfl
theorem Tryz.infoNodeP : (Tryz.prog.info? 138).map (fun i => (i.zero, i.size, i.bytes)) = some (some (.pointer none), 1, 8) := by kernel_rfl
theorem zeroCells_size (z : Array Value) (n : Nat) : (Builtin.zeroCells z n).size = n * z.size := by
 unfold Builtin.zeroCells
 simp [Array.size_flatten, List.sum_replicate_nat]
theorem grown_room (w : World) (e : TypeId) (z : Value) (size n : Nat) (hz : z.cells.size = size) (hn : n ≤ maxLen) :
  (w.drew.alloc (.cells (Builtin.zeroCells z.cells n ++ Builtin.zeroCells z.cells (grownCap w n 0 e - n)) e)).ownsRow w.heap.size e size (.slice (some ⟨w.heap.size, 0, none⟩) 0 (grownCap w n 0 e)) 0 [] := by
 refine ⟨by simp, Or.inr ⟨w.heap.size, grownCap w n 0 e, Builtin.zeroCells z.cells n ++ Builtin.zeroCells z.cells (grownCap w n 0 e - n), rfl, Nat.le_refl _, ?_, Nat.zero_le _, grownCap_le_maxLen w n 0 e hn, ?_, by simp⟩⟩
 ·show (w.heap.push _)[w.heap.size]? = _
  simp
 ·rw [Array.size_append, zeroCells_size, zeroCells_size, hz, ← Nat.add_mul]
  have := grownCap_ge w n 0 e
  rw [Nat.add_sub_cancel' this]
set_option maxRecDepth 100000 in
set_option maxHeartbeats 1000000 in
theorem growE_any (n : Nat) (w : World) (hn : n ≤ 100000) :
  Calls Tryz.prog 115 #[.slice none 0 0, .int .i64 (n : Int)] w fun e w' => ∃ s : SlR, e = .returned s.val ∧ w'.ownsRow w.heap.size 74 10 s.val 0 [] ∧ Below w.heap.size w w' := by
 by_cases h0 : n = 0
 ·subst h0
  go_enter Tryz.func115, Tryz.ntmps115
  go_wp2
  go_ret
  exact ⟨⟨none, 0, 0⟩, rfl, World.ownsRow_nil _ _ _ _, Below.refl _ _⟩
 ·have hI : (0 : Int) < n := by omega
  have hI2 : ¬ (n : Int) < 0 := by omega
  have hI3 : (n : Int) ≤ 100000 := by omega
  obtain ⟨i, hi, hz, hsize, hby⟩ := info_parts Tryz.infoEntry
  have hr := fun (w : World) (ty : TypeId) => Lib.run_append_nil_zeros (P := Tryz.prog) w 67 3 ty 74 i _ .i64 .i64 Tryz.underlying67 Tryz.underlying3 hi hz n (by omega) (by rw [hsize]; decide) (by omega) (by rw [hby]; omega)
  have HRH : Hid (World.ownsRow _ _ _ _ _ _ _) := grown_room w 74 (.agg #[.slice none 0 0, .slice none 0 0, .int .u8 0, .int .u8 0, .int .u8 0, .int .u8 0, .int .u8 0, .int .u8 0, .int .u8 0, .int .u8 0]) 10 n rfl (by unfold maxLen; omega)
  have HGE := grownCap_ge w n 0 74
  have HGM := grownCap_le_maxLen w n 0 74 (by unfold maxLen; omega)
  unfold maxLen at HGM
  have HB : Hid (Below w.heap.size w (w.drew.alloc (.cells (Builtin.zeroCells (Value.cells (.agg #[.slice none 0 0, .slice none 0 0, .int .u8 0, .int .u8 0, .int .u8 0, .int .u8 0, .int .u8 0, .int .u8 0, .int .u8 0, .int .u8 0])) n ++ Builtin.zeroCells (Value.cells (.agg #[.slice none 0 0, .slice none 0 0, .int .u8 0, .int .u8 0, .int .u8 0, .int .u8 0, .int .u8 0, .int .u8 0, .int .u8 0, .int .u8 0])) (grownCap w n 0 74 - n)) 74))) := by
   exact ((Frame.refl (fun _ => False) w).drew.alloc _).below (Nat.le_refl _) (fun k hk => by cases hk)
  have hc0 : (0 : Int) ≤ (grownCap w n 0 74 : Int) := by omega
  have hcm : (grownCap w n 0 74 : Int) ≤ 9223372036854775807 := by omega
  have hw : ∃ w1 : World, ∃ gc : Nat, (∀ ty, (Builtin.append_ #[67, 3] ty #[.slice none 0 0, .int .i64 (n : Int)]).run Tryz.prog w = .ok (.slice (some ⟨w.heap.size, 0, none⟩) n gc) w1) ∧ n ≤ gc ∧ (gc : Int) ≤ 9223372036854775807 ∧
    w1.ownsRow w.heap.size 74 10 (.slice (some ⟨w.heap.size, 0, none⟩) 0 gc) 0 [] ∧ Below w.heap.size w w1 :=
   ⟨_, _, fun ty => hr w ty, HGE, hcm, HRH.out, HB.out⟩
  obtain ⟨w1, gc, hrun, hge, hgm, hown, hbel⟩ := hw
  have HRUN : Hid (∀ ty, _) := hrun
  have HOWN : Hid (World.ownsRow _ _ _ _ _ _ _) := hown
  have HBEL : Hid (Below _ _ _) := hbel
  clear hr HRH HGE HGM HB hc0 hcm hrun hown hbel hi hz hsize hby
  have hg0 : (0 : Int) ≤ gc := by omega
  go_enter Tryz.func115, Tryz.ntmps115
  go_wp2_with (at_builtin; refine Lib.wpList_append_run _ rfl _ _ _ _ rfl _ _ rfl rfl _ _ (HRUN.out _) ?_)
  go_ret
  exact ⟨⟨some ⟨w.heap.size, 0, none⟩, 0, gc⟩, rfl, HOWN.out, HBEL.out⟩
set_option maxRecDepth 100000 in
set_option maxHeartbeats 1000000 in
theorem concatE_any (pb m : Nat) (ps : List (SlR × List Value)) (w : World) (hm : m = ps.length) (h3 : ps.length ≤ 3) (hN : pN ps ≤ 1000) (hc : ∀ i (h : i < ps.length), w.cell? ⟨pb, i, none⟩ = some ps[i].1.val) (hpb : pb < w.heap.size) (hp : ∀ p ∈ ps, PartAt w 10 p) :
  Calls Tryz.prog 79 #[.slice (some ⟨pb, 0, none⟩) m m] w fun e w' => ∃ s : SlR, e = .returned s.val ∧ w'.ownsRow w.heap.size 74 10 s.val (pN ps) (pC ps) ∧ Below w.heap.size w w' := by
 have hle := fun k => pN_le ps k
 have HLE : Hid (∀ k, pN (ps.take k) ≤ pN ps) := hle
 have HC : Hid (∀ (wr : World), Below w.heap.size w wr → ∀ i (h : i < m), ∃ a n c cs, wr.cell? ⟨pb, i, none⟩ = some (.slice a n c) ∧ pN (ps.take (i + 1)) = pN (ps.take i) + n ∧ pC (ps.take (i + 1)) = pC (ps.take i) ++ cs ∧ SlV wr a cs ∧ cs.length = n * 10 ∧ (a = none → n = 0 ∧ c = 0) ∧ (∀ u ∈ cs, u.oneCell' = true)) := fun wr hB i h => by
  have hi : i < ps.length := by omega
  have q := hp ps[i] (List.getElem_mem hi)
  exact ⟨_, _, _, ps[i].2, by rw [hB.cell (p := ⟨pb, i, none⟩) hpb]; exact hc i hi, pN_snoc ps i hi, pC_snoc ps i hi, q.sl.below_all hB, q.len, q.nil, q.one⟩
 have HEN : Hid (pN (ps.take m) = pN ps) := by unfold Hid; rw [hm, List.take_length]
 have HEC : Hid (pC (ps.take m) = pC ps) := by unfold Hid; rw [hm, List.take_length]
 have hm3 : m ≤ 3 := by omega
 have HG : Hid (∀ n (w : World), n ≤ 100000 → _) := fun n w h => growE_any n w h
 have HNB : Hid (pN ps ≤ 1000) := hN
 have h0n : pN (ps.take 0) = 0 := by simp [pN]
 have h0c : pC (ps.take 0) = [] := by simp [pC]
 have H0N : Hid (pN (ps.take 0) = 0) := h0n
 have H0C : Hid (pC (ps.take 0) = []) := h0c
 clear hle hp hc hm h3 hN h0n h0c
 go_enter Tryz.func79, Tryz.ntmps79
 go_wp2
 go_loop [3, 5, 11] (fun sz _ ix => ∃ k q : Nat, k ≤ m ∧ ix = .int .i64 k ∧ sz = .int .i64 q ∧ q ≤ 1000 ∧ Hid (q = pN (ps.take k))) (fun _ _ ix => m - (intOf ix).toNat)
 case atStart => exact ⟨0, 0, by omega, by simp, by simp, by omega, by unfold Hid; exact H0N.out.symm⟩
 case round =>
  obtain ⟨k, q, hk, rfl, rfl, hq, HQ⟩ := hrel
  by_cases hlt : k < m
  ·have hltI : (k : Int) < m := by omega
   obtain ⟨a, n, c, cs, hcell, hsn, _⟩ := HC.out w (Below.refl _ _) k hlt
   have hqn : q + n ≤ 1000 := by have := HLE.out (k + 1); have := HNB.out; have := HQ.out; omega
   have HSN : Hid (pN (ps.take (k + 1)) = pN (ps.take k) + n) := hsn
   have hqI : ¬ ((q : Int) + n < 0) := by omega
   have hqI2 : (q : Int) + n ≤ 1000 := by omega
   clear hsn
   go_wp2
   go_round
   case rel => exact ⟨k + 1, q + n, by omega, by go_num, by go_num, hqn, by unfold Hid; rw [HSN.out, ← HQ.out]⟩
   case measure => simp [intOf]; omega
  ·obtain rfl : k = m := by omega
   go_wp2_with fail
   refine (HG.out q w (by omega)).mono ?_
   rintro e w1 ⟨s, rfl, ho1, hb1⟩
   have HO1 : Hid (World.ownsRow _ _ _ _ _ _ _) := ho1
   clear ho1
   unfold SlR.val
   go_wp2
   go_loopw [6, 8, 27] (fun sv _ ix wr => ∃ (j : Nat) (s' : SlR), j ≤ k ∧ ix = .int .i64 j ∧ sv = s'.val ∧ Hid (wr.ownsRow w.heap.size 74 10 s'.val (pN (ps.take j)) (pC (ps.take j))) ∧ Below w.heap.size w wr) (fun _ _ ix _ => k - (intOf ix).toNat)
   case atStart => exact ⟨0, s, by omega, by simp, rfl, by rw [H0N.out, H0C.out]; exact HO1, hb1⟩
   case round =>
    obtain ⟨j, s', hj, rfl, rfl, HO, hB⟩ := hrel
    by_cases hlt2 : j < k
    ·have hltI : (j : Int) < k := by omega
     obtain ⟨a, n, c, cs, hcell, hsn, hsc, hsl, hcl, hnil, hone⟩ := HC.out wr hB j hlt2
     have HSN : Hid (pN (ps.take (j + 1)) = pN (ps.take j) + n) := hsn
     have HSC : Hid (pC (ps.take (j + 1)) = pC (ps.take j) ++ cs) := hsc
     have HSL : Hid (SlV wr a cs) := hsl
     have HCL : Hid (cs.length = n * 10) := hcl
     have HNIL : Hid (a = none → n = 0 ∧ c = 0) := hnil
     have HONE : Hid (∀ u ∈ cs, u.oneCell' = true) := hone
     have HQN : Hid (pN (ps.take j) + n ≤ 1000) := by have := HLE.out (j + 1); have := HNB.out; unfold Hid; omega
     clear hsn hsc hsl hcl hnil hone
     unfold SlR.val
     go_wp2_with (at_builtin; refine wp_appendV (by rfl) (.tmp 31) (.tmp 32) 67 (by rfl) w.heap.size 74 _ 10 56 Tryz.underlying67 Tryz.infoEntry rfl (by decide) (.slice s'.a s'.n s'.cap) (pN (ps.take j)) (pC (ps.take j)) (by rfl) HO.out a n c cs (by rfl) HCL.out HSL.out HNIL.out HONE.out (by have := HQN.out; unfold maxLen; omega) (by have := HQN.out; omega) hB.size ?_; intro v3 w3 ho3 hf3 hat3; obtain ⟨a3, c3, hv3, _⟩ := owns_form ho3; subst hv3)
     refine ⟨⟨j + 1, ⟨a3, _, c3⟩, by omega, by go_num, rfl, ?_, ?_⟩, by simp [intOf]; omega⟩
     ·unfold Hid; rw [HSN.out, HSC.out]; exact ho3
     ·exact hB.trans (hf3.below hB.size (fun k hk => (HO.out.lt k hk).1))
    ·obtain rfl : j = k := by omega
     unfold SlR.val
     go_wp2
     go_ret
     refine ⟨s', rfl, ?_, hB⟩
     rw [← HEN.out, ← HEC.out]; exact HO.out
set_option maxRecDepth 100000 in
set_option maxHeartbeats 1000000 in
theorem growN_any (n : Nat) (w : World) (hn : n ≤ 100000) :
  Calls Tryz.prog 118 #[.slice none 0 0, .int .i64 (n : Int)] w fun e w' => ∃ s : SlR, e = .returned s.val ∧ w'.ownsRow w.heap.size 138 1 s.val 0 [] ∧ Below w.heap.size w w' := by
 by_cases h0 : n = 0
 ·subst h0
  go_enter Tryz.func118, Tryz.ntmps118
  go_wp2
  go_ret
  exact ⟨⟨none, 0, 0⟩, rfl, World.ownsRow_nil _ _ _ _, Below.refl _ _⟩
 ·have hI : (0 : Int) < n := by omega
  have hI2 : ¬ (n : Int) < 0 := by omega
  have hI3 : (n : Int) ≤ 100000 := by omega
  obtain ⟨i, hi, hz, hsize, hby⟩ := info_parts Tryz.infoNodeP
  have hr := fun (w : World) (ty : TypeId) => Lib.run_append_nil_zeros (P := Tryz.prog) w 128 3 ty 138 i _ .i64 .i64 Tryz.underlying128 Tryz.underlying3 hi hz n (by omega) (by rw [hsize]; decide) (by omega) (by rw [hby]; omega)
  have HRH : Hid (World.ownsRow _ _ _ _ _ _ _) := grown_room w 138 (.pointer none) 1 n rfl (by unfold maxLen; omega)
  have HGE := grownCap_ge w n 0 138
  have HGM := grownCap_le_maxLen w n 0 138 (by unfold maxLen; omega)
  unfold maxLen at HGM
  have HB : Hid (Below w.heap.size w (w.drew.alloc (.cells (Builtin.zeroCells (Value.cells (.pointer none)) n ++ Builtin.zeroCells (Value.cells (.pointer none)) (grownCap w n 0 138 - n)) 138))) := by
   exact ((Frame.refl (fun _ => False) w).drew.alloc _).below (Nat.le_refl _) (fun k hk => by cases hk)
  have hc0 : (0 : Int) ≤ (grownCap w n 0 138 : Int) := by omega
  have hcm : (grownCap w n 0 138 : Int) ≤ 9223372036854775807 := by omega
  have hw : ∃ w1 : World, ∃ gc : Nat, (∀ ty, (Builtin.append_ #[128, 3] ty #[.slice none 0 0, .int .i64 (n : Int)]).run Tryz.prog w = .ok (.slice (some ⟨w.heap.size, 0, none⟩) n gc) w1) ∧ n ≤ gc ∧ (gc : Int) ≤ 9223372036854775807 ∧
    w1.ownsRow w.heap.size 138 1 (.slice (some ⟨w.heap.size, 0, none⟩) 0 gc) 0 [] ∧ Below w.heap.size w w1 :=
   ⟨_, _, fun ty => hr w ty, HGE, hcm, HRH.out, HB.out⟩
  obtain ⟨w1, gc, hrun, hge, hgm, hown, hbel⟩ := hw
  have HRUN : Hid (∀ ty, _) := hrun
  have HOWN : Hid (World.ownsRow _ _ _ _ _ _ _) := hown
  have HBEL : Hid (Below _ _ _) := hbel
  clear hr HRH HGE HGM HB hc0 hcm hrun hown hbel hi hz hsize hby
  have hg0 : (0 : Int) ≤ gc := by omega
  go_enter Tryz.func118, Tryz.ntmps118
  go_wp2_with (at_builtin; refine Lib.wpList_append_run _ rfl _ _ _ _ rfl _ _ rfl rfl _ _ (HRUN.out _) ?_)
  go_ret
  exact ⟨⟨some ⟨w.heap.size, 0, none⟩, 0, gc⟩, rfl, HOWN.out, HBEL.out⟩
set_option maxRecDepth 100000 in
set_option maxHeartbeats 1000000 in
theorem concatN_any (pb m : Nat) (ps : List (SlR × List Value)) (w : World) (hm : m = ps.length) (h3 : ps.length ≤ 3) (hN : pN ps ≤ 1000) (hc : ∀ i (h : i < ps.length), w.cell? ⟨pb, i, none⟩ = some ps[i].1.val) (hpb : pb < w.heap.size) (hp : ∀ p ∈ ps, PartAt w 1 p) :
  Calls Tryz.prog 82 #[.slice (some ⟨pb, 0, none⟩) m m] w fun e w' => ∃ s : SlR, e = .returned s.val ∧ w'.ownsRow w.heap.size 138 1 s.val (pN ps) (pC ps) ∧ Below w.heap.size w w' := by
 have hle := fun k => pN_le ps k
 have HLE : Hid (∀ k, pN (ps.take k) ≤ pN ps) := hle
 have HC : Hid (∀ (wr : World), Below w.heap.size w wr → ∀ i (h : i < m), ∃ a n c cs, wr.cell? ⟨pb, i, none⟩ = some (.slice a n c) ∧ pN (ps.take (i + 1)) = pN (ps.take i) + n ∧ pC (ps.take (i + 1)) = pC (ps.take i) ++ cs ∧ SlV wr a cs ∧ cs.length = n * 1 ∧ (a = none → n = 0 ∧ c = 0) ∧ (∀ u ∈ cs, u.oneCell' = true)) := fun wr hB i h => by
  have hi : i < ps.length := by omega
  have q := hp ps[i] (List.getElem_mem hi)
  exact ⟨_, _, _, ps[i].2, by rw [hB.cell (p := ⟨pb, i, none⟩) hpb]; exact hc i hi, pN_snoc ps i hi, pC_snoc ps i hi, q.sl.below_all hB, q.len, q.nil, q.one⟩
 have HEN : Hid (pN (ps.take m) = pN ps) := by unfold Hid; rw [hm, List.take_length]
 have HEC : Hid (pC (ps.take m) = pC ps) := by unfold Hid; rw [hm, List.take_length]
 have hm3 : m ≤ 3 := by omega
 have HG : Hid (∀ n (w : World), n ≤ 100000 → _) := fun n w h => growN_any n w h
 have HNB : Hid (pN ps ≤ 1000) := hN
 have h0n : pN (ps.take 0) = 0 := by simp [pN]
 have h0c : pC (ps.take 0) = [] := by simp [pC]
 have H0N : Hid (pN (ps.take 0) = 0) := h0n
 have H0C : Hid (pC (ps.take 0) = []) := h0c
 clear hle hp hc hm h3 hN h0n h0c
 go_enter Tryz.func82, Tryz.ntmps82
 go_wp2
 go_loop [3, 5, 11] (fun sz _ ix => ∃ k q : Nat, k ≤ m ∧ ix = .int .i64 k ∧ sz = .int .i64 q ∧ q ≤ 1000 ∧ Hid (q = pN (ps.take k))) (fun _ _ ix => m - (intOf ix).toNat)
 case atStart => exact ⟨0, 0, by omega, by simp, by simp, by omega, by unfold Hid; exact H0N.out.symm⟩
 case round =>
  obtain ⟨k, q, hk, rfl, rfl, hq, HQ⟩ := hrel
  by_cases hlt : k < m
  ·have hltI : (k : Int) < m := by omega
   obtain ⟨a, n, c, cs, hcell, hsn, _⟩ := HC.out w (Below.refl _ _) k hlt
   have hqn : q + n ≤ 1000 := by have := HLE.out (k + 1); have := HNB.out; have := HQ.out; omega
   have HSN : Hid (pN (ps.take (k + 1)) = pN (ps.take k) + n) := hsn
   have hqI : ¬ ((q : Int) + n < 0) := by omega
   have hqI2 : (q : Int) + n ≤ 1000 := by omega
   clear hsn
   go_wp2
   go_round
   case rel => exact ⟨k + 1, q + n, by omega, by go_num, by go_num, hqn, by unfold Hid; rw [HSN.out, ← HQ.out]⟩
   case measure => simp [intOf]; omega
  ·obtain rfl : k = m := by omega
   go_wp2_with fail
   refine (HG.out q w (by omega)).mono ?_
   rintro e w1 ⟨s, rfl, ho1, hb1⟩
   have HO1 : Hid (World.ownsRow _ _ _ _ _ _ _) := ho1
   clear ho1
   unfold SlR.val
   go_wp2
   go_loopw [6, 8, 27] (fun sv _ ix wr => ∃ (j : Nat) (s' : SlR), j ≤ k ∧ ix = .int .i64 j ∧ sv = s'.val ∧ Hid (wr.ownsRow w.heap.size 138 1 s'.val (pN (ps.take j)) (pC (ps.take j))) ∧ Below w.heap.size w wr) (fun _ _ ix _ => k - (intOf ix).toNat)
   case atStart => exact ⟨0, s, by omega, by simp, rfl, by rw [H0N.out, H0C.out]; exact HO1, hb1⟩
   case round =>
    obtain ⟨j, s', hj, rfl, rfl, HO, hB⟩ := hrel
    by_cases hlt2 : j < k
    ·have hltI : (j : Int) < k := by omega
     obtain ⟨a, n, c, cs, hcell, hsn, hsc, hsl, hcl, hnil, hone⟩ := HC.out wr hB j hlt2
     have HSN : Hid (pN (ps.take (j + 1)) = pN (ps.take j) + n) := hsn
     have HSC : Hid (pC (ps.take (j + 1)) = pC (ps.take j) ++ cs) := hsc
     have HSL : Hid (SlV wr a cs) := hsl
     have HCL : Hid (cs.length = n * 1) := hcl
     have HNIL : Hid (a = none → n = 0 ∧ c = 0) := hnil
     have HONE : Hid (∀ u ∈ cs, u.oneCell' = true) := hone
     have HQN : Hid (pN (ps.take j) + n ≤ 1000) := by have := HLE.out (j + 1); have := HNB.out; unfold Hid; omega
     clear hsn hsc hsl hcl hnil hone
     unfold SlR.val
     go_wp2_with (at_builtin; refine wp_appendV (by rfl) (.tmp 31) (.tmp 32) 128 (by rfl) w.heap.size 138 _ 1 8 Tryz.underlying128 Tryz.infoNodeP rfl (by decide) (.slice s'.a s'.n s'.cap) (pN (ps.take j)) (pC (ps.take j)) (by rfl) HO.out a n c cs (by rfl) HCL.out HSL.out HNIL.out HONE.out (by have := HQN.out; unfold maxLen; omega) (by have := HQN.out; omega) hB.size ?_; intro v3 w3 ho3 hf3 hat3; obtain ⟨a3, c3, hv3, _⟩ := owns_form ho3; subst hv3)
     refine ⟨⟨j + 1, ⟨a3, _, c3⟩, by omega, by go_num, rfl, ?_, ?_⟩, by simp [intOf]; omega⟩
     ·unfold Hid; rw [HSN.out, HSC.out]; exact ho3
     ·exact hB.trans (hf3.below hB.size (fun k hk => (HO.out.lt k hk).1))
    ·obtain rfl : j = k := by omega
     unfold SlR.val
     go_wp2
     go_ret
     refine ⟨s', rfl, ?_, hB⟩
     rw [← HEN.out, ← HEC.out]; exact HO.out
end Go.Proofs.YtekegfbjbainhaaGreat


namespace Go.Proofs.YtekegfbjbainhaaGreat
open Go.RowKit
def cutS (ad : Option Addr) (cap i size : Nat) : Option Addr := if cap = i then ad else ad.map (fun x => x.add (i * size))
theorem cutS_none {ad : Option Addr} {cap i size : Nat} (h : cutS ad cap i size = none) : ad = none := by
 unfold cutS at h
 split at h
 ·exact h
 ·simpa using h
theorem cutS_block {ad : Option Addr} {cap i size : Nat} {x : Addr} (h : cutS ad cap i size = some x) : ∃ y, ad = some y ∧ y.block = x.block := by
 unfold cutS at h
 split at h
 ·exact ⟨x, h, rfl⟩
 ·cases ad with
  | none => cases h
  | some y =>
   simp at h
   refine ⟨y, rfl, ?_⟩
   rw [← h]; unfold Addr.add; split <;> rfl
theorem SlV.cut {w : World} {ad : Option Addr} {cs : List Value} {n cap i size : Nat} (h : SlV w ad cs) (hl : cs.length = n * size) (hi : i ≤ n) (hc : n ≤ cap) : SlV w (cutS ad cap i size) (cs.drop (i * size)) := fun j hj => by
 have hlen : (cs.drop (i * size)).length = cs.length - i * size := List.length_drop
 by_cases e : cap = i
 ·exfalso
  have : n = i := by omega
  rw [hlen, hl, this] at hj; simp at hj
 ·obtain ⟨b, o, ha, hb, hcell⟩ := h (i * size + j) (by rw [hlen] at hj; omega)
  refine ⟨b, o + i * size, ?_, hb, ?_⟩
  ·unfold cutS; rw [if_neg e, ha]; simp [Addr.add_mid]
  ·rw [Nat.add_assoc, hcell]; simp
theorem SlV.take {w : World} {ad : Option Addr} {cs : List Value} (h : SlV w ad cs) (k : Nat) : SlV w ad (cs.take k) := fun j hj => by
 have h2 : j < cs.length := by rw [List.length_take] at hj; omega
 obtain ⟨b, o, ha, hb, hc⟩ := h j h2
 exact ⟨b, o, ha, hb, by rw [hc]; simp⟩
theorem run_sliceLo {P : Program} {w : World} (t e : TypeId) (ad : Option Addr) (n cap i size : Nat) (ht : P.underlying t = some (.slice e)) (hs : (P.info? e).map (·.size) = some size) (hin : i ≤ n) (hnc : n ≤ cap) :
  (Instr.slice t (.slice ad n cap) (some (.int .i64 (i : Int))) none none).run P w = .ok (.slice (cutS ad cap i size) (n - i) (cap - i)) w := by
 have h1 : (i : Int) ≤ n := by omega
 have hso : (Go.sizeOf e).run P w = .ok size w := by
  cases hi : P.info? e with
  | none => simp [hi] at hs
  | some inf => simp [hi] at hs; simp [sizeOf, typeInfo, hi, hs]
 simp [Instr.slice, run_underlying ht, Instr.sliceBounds, Instr.sliceBound, asIntOf, h1, hin, Result.andThen, hso, cutS]
theorem run_sliceLH {P : Program} {w : World} (t e : TypeId) (ad : Option Addr) (n cap i j size : Nat) (ht : P.underlying t = some (.slice e)) (hs : (P.info? e).map (·.size) = some size) (hij : i ≤ j) (hjc : j ≤ cap) :
  (Instr.slice t (.slice ad n cap) (some (.int .i64 (i : Int))) (some (.int .i64 (j : Int))) none).run P w = .ok (.slice (cutS ad cap i size) (j - i) (cap - i)) w := by
 have h1 : (i : Int) ≤ j := by omega
 have h2 : (j : Int) ≤ cap := by omega
 have hso : (Go.sizeOf e).run P w = .ok size w := by
  cases hi : P.info? e with
  | none => simp [hi] at hs
  | some inf => simp [hi] at hs; simp [sizeOf, typeInfo, hi, hs]
 simp [Instr.slice, run_underlying ht, Instr.sliceBounds, Instr.sliceBound, asIntOf, h1, h2, hij, hjc, Result.andThen, hso, cutS]
theorem wp_sliceLo {P : Program} {ops : Array Oper} {rest : List Oper} {o : Oper} {a : Act} {w : World} {Q : Exit → Act → World → Prop} (hgd : o.guard = none) (t e : TypeId) (x lo : Operand) (ho : o.op = .slice t x (some lo) none none)
  (ad : Option Addr) (n cap i size : Nat) (hx : a.eval x = .slice ad n cap) (hlo : a.eval lo = .int .i64 (i : Int)) (ht : P.underlying t = some (.slice e)) (hs : (P.info? e).map (·.size) = some size) (hin : i ≤ n) (hnc : n ≤ cap)
  (h : wpList P ops Q rest (a.put o.dst (.slice (cutS ad cap i size) (n - i) (cap - i))) w) : wpList P ops Q (o :: rest) a w := by
 refine wpList_plain hgd fun K hK => ?_
 have hr := run_sliceLo (w := w) t e ad n cap i size ht hs hin hnc
 unfold Oper.wp execOp
 simp only [ho, Option.map, hx, hlo]
 go_simp
 exact hK _ _ h
theorem wp_sliceLH {P : Program} {ops : Array Oper} {rest : List Oper} {o : Oper} {a : Act} {w : World} {Q : Exit → Act → World → Prop} (hgd : o.guard = none) (t e : TypeId) (x lo hi : Operand) (ho : o.op = .slice t x (some lo) (some hi) none)
  (ad : Option Addr) (n cap i j size : Nat) (hx : a.eval x = .slice ad n cap) (hlo : a.eval lo = .int .i64 (i : Int)) (hhi : a.eval hi = .int .i64 (j : Int)) (ht : P.underlying t = some (.slice e)) (hs : (P.info? e).map (·.size) = some size) (hij : i ≤ j) (hjc : j ≤ cap)
  (h : wpList P ops Q rest (a.put o.dst (.slice (cutS ad cap i size) (j - i) (cap - i))) w) : wpList P ops Q (o :: rest) a w := by
 refine wpList_plain hgd fun K hK => ?_
 have hr := run_sliceLH (w := w) t e ad n cap i j size ht hs hij hjc
 unfold Oper.wp execOp
 simp only [ho, Option.map, hx, hlo, hhi]
 go_simp
 exact hK _ _ h
structure EntAt (w : World) (en : SlR) (xs : List EnP) (its : List ItR) : Prop where
 own : w.ownsRow 0 74 10 en.val xs.length (ensC xs)
 len : its.length = xs.length
 ok : ∀ i (h1 : i < xs.length) (h2 : i < its.length), EnOk w xs[i] its[i]
def entF (en : SlR) (xs : List EnP) (k : Nat) : Prop := en.val.ownBlock = some k ∨ ∃ x ∈ xs, (∃ y, x.k.a = some y ∧ y.block = k) ∨ (∃ y, x.v.a = some y ∧ y.block = k)
theorem EntAt.frame {w w' : World} {S : Nat → Prop} {en : SlR} {xs : List EnP} {its : List ItR} (h : EntAt w en xs its) (hf : Frame S w w') (hS : ∀ k, entF en xs k → ¬ S k) : EntAt w' en xs its :=
 ⟨owns_frame h.own hf (fun k hk => hS k (Or.inl hk)), h.len, fun i h1 h2 => (h.ok i h1 h2).frame hf (fun y hy => hS _ (Or.inr ⟨_, List.getElem_mem h1, Or.inl ⟨y, hy, rfl⟩⟩)) (fun y hy => hS _ (Or.inr ⟨_, List.getElem_mem h1, Or.inr ⟨y, hy, rfl⟩⟩))⟩
theorem EntAt.below {w w' : World} {en : SlR} {xs : List EnP} {its : List ItR} (h : EntAt w en xs its) (hf : Below w.heap.size w w') : EntAt w' en xs its :=
 ⟨owns_below h.own hf, h.len, fun i h1 h2 => (h.ok i h1 h2).below hf⟩
theorem EntAt.d8 {w : World} {en : SlR} {xs : List EnP} {its : List ItR} (h : EntAt w en xs its) : ∀ x ∈ xs, x.d.length = 8 := fun x hx => by
 obtain ⟨i, hi, rfl⟩ := List.getElem_of_mem hx
 rw [(h.ok i hi (by have := h.len; omega)).dig]; rfl
def putX (xs : List EnP) (i : Nat) (e : List EnP) (j : Nat) : List EnP := xs.take i ++ e ++ xs.drop j
theorem ensC_take (xs : List EnP) (h8 : ∀ x ∈ xs, x.d.length = 8) (k : Nat) (hk : k ≤ xs.length) : ensC (xs.take k) = (ensC xs).take (k * 10) := (flat_take enC 10 xs (fun x hx => enC_length x (h8 x hx)) k hk).symm
theorem ensC_drop (xs : List EnP) (h8 : ∀ x ∈ xs, x.d.length = 8) (k : Nat) (hk : k ≤ xs.length) : ensC (xs.drop k) = (ensC xs).drop (k * 10) := (flat_drop enC 10 xs (fun x hx => enC_length x (h8 x hx)) k hk).symm
end Go.Proofs.YtekegfbjbainhaaGreat


namespace Go.Proofs.YtekegfbjbainhaaGreat
open Go.RowKit
theorem Frame.inside {S T : Nat → Prop} {a b c : World} (h : Frame S a b) (k : Frame T b c) (hT : ∀ x, x < a.heap.size → T x → S x) : Frame S a c :=
 ⟨k.os.trans h.os, k.tape.trans h.tape, k.output.trans h.output, Nat.le_trans h.size k.size, fun i hi hs => (k.block i (Nat.lt_of_lt_of_le hi h.size) (fun ht => hs (hT i hi ht))).trans (h.block i hi hs)⟩
set_option maxRecDepth 100000 in
set_option maxHeartbeats 1000000 in
theorem tEnd_any (level : Nat) (sk : SlR) (key : List UInt8) (w : World) (hlv : level ≤ 200) (hK : BS w sk key) (hk : key.length ≤ 200) :
  Calls Tryz.prog 156 #[.int .i64 (level : Int), sk.val] w fun e w' => e = .returned (.bool (endB level key)) ∧ Below w.heap.size w w' := by
 have hlvI : (level : Int) ≤ 200 := by omega
 have hb1 : OwnB (w.alloc (.cells #[.int .u8 (level : Int)] 5)) w.heap.size (.slice (some ⟨w.heap.size, 0, none⟩) 1 1) [bt level] := by
  have := OwnB.built w w.heap.size [bt level] (Nat.le_refl _) (by simp [maxLen])
  simp only [List.map_cons, List.map_nil] at this
  rw [bt_c (by omega)] at this
  exact this
 have hs1 : SlB (w.alloc (.cells #[.int .u8 (level : Int)] 5)) sk.a key := hK.sl.below ((Below.refl _ _).alloc (Nat.le_refl _) _) (Nat.le_refl _)
 obtain ⟨dd, hdd⟩ : ∃ dd, dd = digB (bt level :: key) := ⟨_, rfl⟩
 have hdl : dd.length = 8 := by rw [hdd]; rfl
 obtain ⟨x0, x1, x2, x3, x4, x5, x6, x7, rfl⟩ := list8 dd hdl
 have HE : Hid (endB level key = (decide (level < 6) && x7.toNat % 4 == 0)) := by
  unfold Hid endB; rw [← hdd]; rfl
 have HV : Hid (digV (bt level :: key) = .agg #[.int .u8 (x0.toNat : Int), .int .u8 (x1.toNat : Int), .int .u8 (x2.toNat : Int), .int .u8 (x3.toNat : Int), .int .u8 (x4.toNat : Int), .int .u8 (x5.toNat : Int), .int .u8 (x6.toNat : Int), .int .u8 (x7.toNat : Int)]) := by
  unfold Hid; rw [digV_eq, ← hdd]; rfl
 clear hdd hdl
 have h7 : (x7.toNat : Int) ≤ 255 := by have := x7.toNat_lt; omega
 have HN : Hid (sk.n = key.length) := hK.n
 have HNL : Hid (sk.a = none → sk.cap = 0) := hK.nil
 unfold SlR.val
 by_cases h6 : level < 6
 ·have H6 : ¬ (6 : Int) ≤ (level : Int) := by omega
  go_enter Tryz.func156, Tryz.ntmps156
  go_wp2_with (at_builtin; refine wp_appendB (by rfl) (.tmp 10) (.tmp 11) (by rfl) w.heap.size _ [bt level] (by rfl) hb1 sk.a sk.n sk.cap key (by rfl) HN.out hs1 HNL.out (by simp; omega) (by simp) ?_; intro a1 n1 c1 w1 hn1 ho1 hs1 hf1 hat1; clear hn1 hat1)
  obtain ⟨_, hn1, hnil1⟩ := ho1.sl
  refine (ofB_any a1 _ c1 (bt level :: key) _ (by rw [hn1]; simp) (by simp [maxLen]; omega) (by simpa using hs1)).mono ?_
  rintro e w2 ⟨rfl, hb2⟩
  rw [HV.out]
  go_wp2
  go_ret
  refine ⟨?_, ?_⟩
  ·rw [HE.out]
   show Ending.returned (.bool ((x7.toNat : Int) % 4 == 0)) = _
   rw [mod4_nat]; simp [h6]
  ·have h1 := hf1.below (B := w.heap.size) (by simp) (fun k hk => by simp [Value.ownBlock] at hk; omega)
   have z1 := h1.size
   simp only [World.size_alloc] at z1
   have h3 := (((Below.refl w.heap.size w).alloc (Nat.le_refl _) (.cells #[.int .u8 (level : Int)] 5)).trans h1).trans (hb2.mono (by omega))
   exact h3.alloc (by have := h3.size; omega) _
 ·have H6 : (6 : Int) ≤ (level : Int) := by omega
  go_enter Tryz.func156, Tryz.ntmps156
  go_wp2
  go_ret
  exact ⟨by rw [HE.out]; simp [h6], Below.refl _ _⟩
set_option maxRecDepth 100000 in
theorem entryKey_any (k v : SlR) (w : World) :
  Calls Tryz.prog 139 #[.agg #[k.val, v.val, .int .u8 0, .int .u8 0, .int .u8 0, .int .u8 0, .int .u8 0, .int .u8 0, .int .u8 0, .int .u8 0]] w fun e w' => e = .returned k.val ∧ Below w.heap.size w w' := by
 unfold SlR.val
 go_enter Tryz.func139, Tryz.ntmps139
 go_wp2
 go_ret
 exact ⟨rfl, by go_grown⟩
set_option maxRecDepth 100000 in
theorem nodeKey_any (nb : Nat) (k : SlR) (w : World) (h0 : w.cell? ⟨nb, 0, none⟩ = some k.val) :
  Calls Tryz.prog 141 #[.pointer (some ⟨nb, 0, none⟩)] w fun e w' => e = .returned k.val ∧ Below w.heap.size w w' := by
 unfold SlR.val at *
 go_enter Tryz.func141, Tryz.ntmps141
 go_wp2
 go_ret
 exact ⟨rfl, Below.refl _ _⟩
set_option maxRecDepth 100000 in
set_option maxHeartbeats 1000000 in
theorem counted_any (base : Nat) (v s : SlR) (l m : List UInt8) (w : World) (ho : OwnB w base v.val l) (hs : BS w s m) (hsb : ∀ x, s.a = some x → x.block < base) (hb : base ≤ w.heap.size) (hl : l.length ≤ 100000) (hm : m.length ≤ 200) :
  Calls Tryz.prog 160 #[v.val, s.val] w fun e w' => ∃ v' : SlR, e = .returned v'.val ∧ OwnB w' base v'.val (l ++ bt m.length :: m) ∧ Frame (fun k => v.val.ownBlock = some k) w w' := by
 have hb1 : SlB (w.alloc (.cells #[.int .u8 (m.length : Int)] 5)) (some ⟨w.heap.size, 0, none⟩) [bt m.length] := by
  refine SlB.of_row (t := 5) ?_
  rw [List.map_cons, List.map_nil, bt_c (by omega)]
  exact RowV.new w _ _
 have hmI : (m.length : Int) ≤ 200 := by omega
 have HN : Hid (s.n = m.length) := hs.n
 have h0 := hs.n
 have HNL : Hid (s.a = none → s.cap = 0) := hs.nil
 have ho1 : OwnB (w.alloc (.cells #[.int .u8 (m.length : Int)] 5)) base (.slice v.a v.n v.cap) l := ho.alloc _
 have hs1 : SlB (w.alloc (.cells #[.int .u8 (m.length : Int)] 5)) s.a m := hs.sl.below ((Below.refl _ _).alloc (Nat.le_refl _) _) (Nat.le_refl _)
 have HF0 : Hid (Frame (fun k => (Value.slice v.a v.n v.cap).ownBlock = some k) w (w.alloc (.cells #[.int .u8 (m.length : Int)] 5))) := (Frame.refl _ _).alloc _
 have HSB : Hid (∀ x, s.a = some x → ¬ (Value.slice v.a v.n v.cap).ownBlock = some x.block) := fun x hx e => by have := (ho.lt _ e).1; have := hsb x hx; omega
 obtain ⟨sa, sn, sc⟩ := s
 simp only at h0 HN HNL hs1 HSB
 subst h0
 unfold SlR.val at *
 simp only
 go_enter Tryz.func160, Tryz.ntmps160
 go_wp2_with (first
  | (at_builtin; refine wp_appendB (by rfl) (.tmp 5) (.tmp 9) (by rfl) base _ l (by rfl) ho1 (some ⟨w.heap.size, 0, none⟩) 1 1 [bt m.length] (by rfl) (by rfl) hb1 (fun h => by cases h) (by simp; omega) (by simp; omega) ?_; intro a1 n1 c1 w1 hn1 ho2 hs2 hf1 hat1; have hs3 : SlB w1 sa m := SlB.frame hs1 hf1 (fun x hx => HSB.out x hx); have hz1 := hf1.size; clear hn1)
  | (at_builtin; refine wp_appendB (by rfl) (.tmp 10) (.tmp 11) (by rfl) base _ (l ++ [bt m.length]) (by rfl) ho2 sa m.length sc m (by rfl) rfl hs3 HNL.out (by simp; omega) (by simp only [World.size_alloc] at hz1; omega) ?_; intro a2 n2 c2 w2 hn2 ho3 hs4 hf2 hat2; clear hn2))
 go_ret
 refine ⟨⟨a2, n2, c2⟩, rfl, by simpa using ho3, ?_⟩
 refine Frame.inside (HF0.out.trans hf1) hf2 (fun x hx e => ?_)
 rcases hat1 with h | h
 ·rw [← h]; exact e
 ·exfalso
  rw [h] at e
  simp only [World.size_alloc, Option.some.injEq] at e
  omega
end Go.Proofs.YtekegfbjbainhaaGreat


namespace Go.Proofs.YtekegfbjbainhaaGreat
open Go.RowKit
theorem wp_storeR {ops : Array Oper} {rest : List Oper} {o : Oper} {a : Act} {w : World} {Q : Exit → Act → World → Prop} (hgd : o.guard = none) (T : TypeId) (x y : Operand) (ho : o.op = .store T x y)
  (b : Nat) (hx : a.eval x = .pointer (some ⟨b, 0, none⟩)) (cs : List Value) (hy : a.eval y = .agg cs.toArray) {l : List Value} (hR : RowV w b T l) (hl : l.length = cs.length) (hi : (Tryz.prog.info? T).map (·.size) = some cs.length) (h1 : ∀ v ∈ cs, v.oneCell' = true)
  (h : ∀ w', RowV w' b T cs → Frame (fun k => k = b) w w' → w'.heap.size = w.heap.size → wpList Tryz.prog ops Q rest (a.put o.dst undef) w') : wpList Tryz.prog ops Q (o :: rest) a w := by
 refine wpList_store_mid hgd T x y ho b 0 cs.toArray hx hy (by simpa using hR.there cs.length hl.symm) (by simpa using hi) (all_oneCell_toArray h1) ?_
 exact h _ (hR.setAll _ hl.symm) (Frame.setCells (S := fun k => k = b) rfl _ _ _ (Frame.refl _ _)) (size_setCells _ _ _ _)
structure EnL (w : World) (level : Nat) (x : EnP) (it : ItR) : Prop where
 key : BS w x.k it.key
 val : level = 0 → BS w x.v it.more
 dig : level ≠ 0 → x.d = it.more
 d8 : x.d.length = 8
theorem EnL.below {w w' : World} {level : Nat} {x : EnP} {it : ItR} (h : EnL w level x it) (hb : Below w.heap.size w w') : EnL w' level x it := ⟨h.key.below hb, fun e => (h.val e).below hb, h.dig, h.d8⟩
theorem EnOk.toL {w : World} {x : EnP} {it : ItR} (h : EnOk w x it) : EnL w 0 x it := ⟨h.key, fun _ => h.val, fun e => absurd rfl e, by rw [h.dig]; rfl⟩
theorem Tryz.sizeEntryB : (Tryz.prog.info? 74).map (·.size) = some 10 := by kernel_rfl
theorem enC_one (x : EnP) : ∀ u ∈ enC x, u.oneCell' = true := fun u hu => ensC_one [x] u (by simpa [ensC] using hu)
def z10 : List Value := [.slice none 0 0, .slice none 0 0, .int .u8 0, .int .u8 0, .int .u8 0, .int .u8 0, .int .u8 0, .int .u8 0, .int .u8 0, .int .u8 0]
def BytSt (w : World) (xb : Nat) (P X : List Value) (W : World) : Prop := Below w.heap.size w W ∧ RowV W w.heap.size 171 P ∧ RowV W xb 74 X
theorem BytSt.next {w W W' : World} {xb : Nat} {P X : List Value} {v : Value} {l : List UInt8} (h : BytSt w xb P X W) (ho : OwnB W (w.heap.size + 1) v l) (hf : Frame (fun k => v.ownBlock = some k) W W') : BytSt w xb P X W' :=
 ⟨h.1.trans (hf.below h.1.size (fun k hk => by have := (ho.lt k hk).1; omega)), h.2.1.of_block (hf.block _ h.2.1.lt (fun e => owns_ne ho h.2.1 (by decide) e)), h.2.2.of_block (hf.block _ h.2.2.lt (fun e => owns_ne ho h.2.2 (by decide) e))⟩
theorem BytSt.enter {w wr w1 : World} {P X : List Value} {v : Value} {l : List UInt8} (hb : Below w.heap.size w wr) (hp : RowV wr w.heap.size 171 P) (ho : OwnB wr (w.heap.size + 1) v l) (hr : RowV w1 wr.heap.size 74 X)
  (hf : Frame (fun k => k = wr.heap.size) (wr.alloc (.cells z10.toArray 74)) w1) : BytSt w wr.heap.size P X w1 ∧ OwnB w1 (w.heap.size + 1) v l := by
 have h1 : Frame (fun k => k = wr.heap.size) wr w1 := Frame.trans ((Frame.refl _ _).alloc _) hf
 refine ⟨⟨hb.trans (h1.below hb.size (fun k hk => by have := hb.size; omega)), hp.of_block (h1.block _ hp.lt (fun e => by have := hp.lt; omega)), hr⟩, ?_⟩
 exact owns_frame ho h1 (fun k hk e => by have := (ho.lt k hk).2; omega)
theorem BytSt.cells {w W : World} {xb : Nat} {p0 p1 x0 x1 : Value} {X : List Value} (h : BytSt w xb [p0, p1] (x0 :: x1 :: X) W) : W.cell? ⟨w.heap.size, 0, none⟩ = some p0 ∧ W.cell? ⟨xb, 0, none⟩ = some x0 ∧ W.cell? ⟨xb, 1, none⟩ = some x1 :=
 ⟨h.2.1.cell 0 (by simp), h.2.2.cell 0 (by simp), h.2.2.cell 1 (by simp)⟩
theorem BytSt.dig {w W : World} {xb : Nat} {P : List Value} {x0 x1 : Value} {d : List UInt8} (h : BytSt w xb P (x0 :: x1 :: d.map u8c) W) : SlB W (some ⟨xb, 2, none⟩) d :=
 SlB.mk h.2.2.lt (fun i hi => by
  have := h.2.2.cell (2 + i) (by simp; omega)
  rw [this]
  have e : (x0 :: x1 :: d.map u8c)[2 + i]? = some (u8c d[i]) := by rw [Nat.add_comm]; simp [hi]
  rw [List.getElem?_eq_getElem (by simp; omega)] at e
  exact e)
set_option maxRecDepth 100000 in
set_option maxHeartbeats 2000000 in
theorem bytes_any (level : Nat) (a : Option Addr) (n cap : Nat) (xs : List EnP) (its : List ItR) (w : World) (hn : n = xs.length) (hl : its.length = xs.length) (h200 : xs.length ≤ 200) (hlv : level ≤ 200) (hok : ∀ x ∈ its, ItOk x) (hs : SlE w a xs)
  (hen : ∀ i (h1 : i < xs.length) (h2 : i < its.length), EnL w level xs[i] its[i]) :
  Calls Tryz.prog 150 #[.agg #[.int .i64 (level : Int), .slice a n cap]] w fun e w' => ∃ v : SlR, e = .returned v.val ∧ OwnB w' w.heap.size v.val (codeB level its) ∧ Below w.heap.size w w' := by
 have hb1 : OwnB ((w.alloc (.cells #[.int .i64 (level : Int), .slice a n cap] 171)).alloc (.cells #[.int .u8 (level : Int), .int .u8 (n : Int)] 5)) (w.heap.size + 1) (.slice (some ⟨w.heap.size + 1, 0, none⟩) 2 2) (prefB level n []) := by
  have := OwnB.built (w.alloc (.cells #[.int .i64 (level : Int), .slice a n cap] 171)) (w.heap.size + 1) [bt level, bt n] (by simp) (by simp [maxLen])
  simp only [World.size_alloc, List.map_cons, List.map_nil] at this
  rw [bt_c (by omega), bt_c (by omega)] at this
  exact this
 have hp1 : RowV ((w.alloc (.cells #[.int .i64 (level : Int), .slice a n cap] 171)).alloc (.cells #[.int .u8 (level : Int), .int .u8 (n : Int)] 5)) w.heap.size 171 [.int .i64 (level : Int), .slice a n cap] := (RowV.new w _ _).alloc _
 have hlvI : (level : Int) ≤ 200 := by omega
 have hnI : (n : Int) ≤ 200 := by omega
 have HN : Hid (n = its.length) := by unfold Hid; omega
 have HQ : Hid (∀ (wr : World), Below w.heap.size w wr → ∀ k (hk : k < n) (hk2 : k < its.length), ∃ b o, ∃ x : EnP, a = some ⟨b, o, none⟩ ∧ wr.rangeAt b (o + k * 10) (enC x) ∧ EnL w level x its[k]) := fun wr hB k hk hk2 => by
  have h8 : ∀ x ∈ xs, x.d.length = 8 := fun x hx => by
   obtain ⟨i, hi, rfl⟩ := List.getElem_of_mem hx
   exact (hen i hi (by omega)).d8
  obtain ⟨b, o, ha, hb, hc⟩ := SlE.range hs h8 k (by omega)
  refine ⟨b, o, xs[k]'(by omega), ha, fun j v hv => ?_, hen k (by omega) hk2⟩
  rw [hB.cell (p := ⟨b, o + k * 10 + j, none⟩) hb]
  exact hc j v hv
 have HOK : Hid (∀ x ∈ its, ItOk x) := hok
 have h2n : n ≤ 200 := by omega
 clear hn hl h200 hs hen hok
 go_enter Tryz.func150, Tryz.ntmps150
 go_wp2
 go_loopw [3, 5, 17] (fun b _ i wr => ∃ (k : Nat) (v : SlR), k ≤ n ∧ i = .int .i64 k ∧ b = v.val ∧ OwnB wr (w.heap.size + 1) v.val (prefB level n (its.take k)) ∧ Below w.heap.size w wr ∧ RowV wr w.heap.size 171 [.int .i64 (level : Int), .slice a n cap]) (fun _ _ i _ => n - (intOf i).toNat)
 case atStart => exact ⟨0, ⟨_, 2, 2⟩, by omega, by simp, rfl, by simp only [List.take_zero]; exact hb1, by go_grown, hp1⟩
 case round =>
  obtain ⟨k, v, hk, rfl, rfl, hown, hbel, hp⟩ := hrel
  have hc0 := hp.cell 0 (by simp)
  have hc1 := hp.cell 1 (by simp)
  simp only [List.getElem_cons_zero, List.getElem_cons_succ] at hc0 hc1
  by_cases hlt : k < n
  ·have hkl : k < its.length := by have := HN.out; omega
   obtain ⟨b, o, x, rfl, hx, hel⟩ := HQ.out wr hbel k hlt hkl
   obtain ⟨hkl12, hml12⟩ := HOK.out its[k] (List.getElem_mem hkl)
   have HX : Hid (wr.rangeAt b (o + k * 10) (enC x)) := hx
   have HLN : Hid ((prefB level n (its.take k)).length ≤ 6000) := by
    have := prefB_length level n (its.take k) (fun x hx => HOK.out x (List.mem_of_mem_take hx))
    rw [List.length_take] at this
    unfold Hid; omega
   have hltI : (k : Int) < n := by omega
   have HSZ : Hid ((Tryz.prog.info? 74).map (·.size) = some (enC x).length) := by unfold Hid; rw [enC_length x hel.d8]; exact Tryz.sizeEntryB
   have HRN : Hid (RowV (wr.alloc (.cells z10.toArray 74)) wr.heap.size 74 z10) := RowV.new wr _ _
   have HZL : Hid (z10.length = (enC x).length) := by unfold Hid; rw [enC_length x hel.d8]; rfl
   have HBA : Hid (Below w.heap.size w (wr.alloc (.cells z10.toArray 74))) := hbel.alloc hbel.size _
   have HPA : Hid (RowV (wr.alloc (.cells z10.toArray 74)) w.heap.size 171 [.int .i64 (level : Int), .slice (some ⟨b, o, none⟩) n cap]) := hp.alloc _
   have HOA : Hid (OwnB (wr.alloc (.cells z10.toArray 74)) (w.heap.size + 1) v.val (prefB level n (its.take k))) := hown.alloc _
   have HEL : Hid (EnL w level x its[k]) := hel
   have HOW : Hid (OwnB wr (w.heap.size + 1) v.val (prefB level n (its.take k))) := hown
   clear hx hb1 hp1 hel hown
   have hpR : RowV wr w.heap.size 171 [.int .i64 (level : Int), .slice (some ⟨b, o, none⟩) n cap] := hp
   have HPR : Hid (RowV wr w.heap.size 171 [.int .i64 (level : Int), .slice (some ⟨b, o, none⟩) n cap]) := hp
   clear hpR
   have HCA : Hid (∀ (W : World) (v' : SlR) (l : List UInt8), BytSt w wr.heap.size [.int .i64 (level : Int), .slice (some ⟨b, o, none⟩) n cap] (enC x) W → OwnB W (w.heap.size + 1) v'.val l → l.length ≤ 10000 →
     Calls Tryz.prog 160 #[v'.val, x.k.val] W fun e w' => ∃ v2 : SlR, e = .returned v2.val ∧ OwnB w' (w.heap.size + 1) v2.val (l ++ bt its[k].key.length :: its[k].key) ∧ BytSt w wr.heap.size [.int .i64 (level : Int), .slice (some ⟨b, o, none⟩) n cap] (enC x) w') := fun W v' l hst ho hl => by
    refine (counted_any (w.heap.size + 1) v' x.k l its[k].key W ho (HEL.out.key.below hst.1) (fun y hy => by have := HEL.out.key.lt y hy; omega) hst.2.1.lt (by omega) (by omega)).mono ?_
    rintro e w' ⟨v2, he, ho2, hf2⟩
    exact ⟨v2, he, ho2, hst.next ho hf2⟩
   have HCV : Hid (∀ (W : World) (v' : SlR) (l : List UInt8), level = 0 → BytSt w wr.heap.size [.int .i64 (level : Int), .slice (some ⟨b, o, none⟩) n cap] (enC x) W → OwnB W (w.heap.size + 1) v'.val l → l.length ≤ 10000 →
     Calls Tryz.prog 160 #[v'.val, x.v.val] W fun e w' => ∃ v2 : SlR, e = .returned v2.val ∧ OwnB w' (w.heap.size + 1) v2.val (l ++ bt its[k].more.length :: its[k].more) ∧ BytSt w wr.heap.size [.int .i64 (level : Int), .slice (some ⟨b, o, none⟩) n cap] (enC x) w') := fun W v' l h0 hst ho hl => by
    refine (counted_any (w.heap.size + 1) v' x.v l its[k].more W ho ((HEL.out.val h0).below hst.1) (fun y hy => by have := (HEL.out.val h0).lt y hy; omega) hst.2.1.lt (by omega) (by omega)).mono ?_
    rintro e w' ⟨v2, he, ho2, hf2⟩
    exact ⟨v2, he, ho2, hst.next ho hf2⟩
   unfold SlR.val
   go_wp2_with (first
    | (refine wpList_load_mid (by rfl) 74 (.tmp 19) (by rfl) b (o + k * 10) (by rfl) (enC x) _ HX.out Tryz.underlying74 (by rfl) HSZ.out ?_)
    | (refine wp_storeR (by rfl) 74 (.tmp 5) (.tmp 20) (by rfl) wr.heap.size (by rfl) (enC x) (by rfl) HRN.out HZL.out HSZ.out (enC_one x) ?_; intro w1 hr1 hf1 hz1; obtain ⟨hst1, ho1⟩ := BytSt.enter hbel HPR.out HOW.out hr1 hf1; have q0 : w1.cell? ⟨wr.heap.size, 0, none⟩ = some (.slice x.k.a x.k.n x.k.cap) := (BytSt.cells hst1).2.1; clear hz1 hf1))
   refine (HCA.out w1 v _ hst1 ho1 (by have := HLN.out; omega)).mono ?_
   rintro e w2 ⟨v2, rfl, ho2, hst2⟩
   have q1 : w2.cell? ⟨w.heap.size, 0, none⟩ = some (.int .i64 (level : Int)) := (BytSt.cells hst2).1
   have q2 : w2.cell? ⟨wr.heap.size, 1, none⟩ = some (.slice x.v.a x.v.n x.v.cap) := (BytSt.cells hst2).2.2
   unfold SlR.val
   by_cases hl0 : level = 0
   ·have hlI : ((level : Int) == 0) = true := by simp [hl0]
    have HPS : Hid (prefB level n (its.take (k + 1)) = (prefB level n (its.take k) ++ bt its[k].key.length :: its[k].key) ++ bt its[k].more.length :: its[k].more) := by
     unfold Hid; rw [prefB_snoc level n its k hkl]; simp [itB, hl0]
    have HL0 : Hid (level = 0) := hl0
    clear hl0
    go_wp2_with fail
    refine (HCV.out w2 v2 _ HL0.out hst2 ho2 (by have := HLN.out; simp; omega)).mono ?_
    rintro e w3 ⟨v3, rfl, ho3, hst3⟩
    unfold SlR.val
    go_wp2
    refine ⟨⟨k + 1, v3, by omega, by go_num, rfl, ?_, hst3.1, hst3.2.1⟩, by simp [intOf]; omega⟩
    rw [HPS.out]; exact ho3
   ·have hlI : ((level : Int) == 0) = false := by simp; omega
    have HPS : Hid (prefB level n (its.take (k + 1)) = (prefB level n (its.take k) ++ bt its[k].key.length :: its[k].key) ++ its[k].more) := by
     unfold Hid; rw [prefB_snoc level n its k hkl]; simp [itB, hl0]
    have HD : Hid (SlB w2 (some ⟨wr.heap.size, 2, none⟩) its[k].more) := by
     have h1 := BytSt.dig hst2
     rw [HEL.out.dig hl0] at h1; exact h1
    have HML : Hid (8 = its[k].more.length) := by unfold Hid; rw [← HEL.out.dig hl0]; exact HEL.out.d8.symm
    clear hl0
    go_wp2_with (at_builtin; refine wp_appendB (by rfl) (.tmp 32) (.tmp 34) (by rfl) (w.heap.size + 1) _ (prefB level n (its.take k) ++ bt its[k].key.length :: its[k].key) (by rfl) ho2 (some ⟨wr.heap.size, 2, none⟩) 8 8 its[k].more (by rfl) HML.out HD.out (fun h => by cases h) (by have := HLN.out; simp; omega) (by have := hst2.2.1.lt; omega) ?_; intro a3 n3 c3 w3 hn3 ho3 hs3 hf3 hat3; have hst3 := BytSt.next hst2 ho2 hf3; clear hn3 hat3)
    refine ⟨⟨k + 1, ⟨a3, n3, c3⟩, by omega, by go_num, rfl, ?_, hst3.1, hst3.2.1⟩, by simp [intOf]; omega⟩
    rw [HPS.out]; exact ho3
  ·have HE : Hid (prefB level n (its.take k) = codeB level its) := by
    unfold Hid prefB codeB
    rw [List.take_of_length_le (by have := HN.out; omega), HN.out]
   unfold SlR.val
   go_wp2
   go_ret
   refine ⟨v, rfl, ?_, hbel⟩
   rw [← HE.out]
   exact owns_base hown (fun q hq => by have := (hown.lt q hq).1; omega)
end Go.Proofs.YtekegfbjbainhaaGreat
