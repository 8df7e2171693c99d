
import Derived.Test.YtekegfbjbainhaaKJoin3
import Derived.Lib.AppendZerosOnto
set_option linter.unusedVariables false
set_option linter.unusedSimpArgs false
namespace Go.Proofs.Ytekegfbjbainhaa
open Go.RowKit
set_option maxRecDepth 100000 in
set_option maxHeartbeats 1000000 in
theorem find_any (en : SlR) (xs : List EnP) (its : List ItR) (sk : SlR) (key : List UInt8) (w : World) (hn : en.n = xs.length) (hl : its.length = xs.length) (h60 : xs.length ≤ 60) (hs : SlE w en.a xs)
  (hok : ∀ i (h1 : i < xs.length) (h2 : i < its.length), EnOk w xs[i] its[i]) (hr : Rising its) (hk : BS w sk key) :
  Calls Try.prog 39 #[en.val, sk.val] w fun e w' => e = .returned (.tuple #[.int .i64 (placeN its key : Int), .bool (thereB its key)]) ∧ Below w.heap.size w w' := by
 have HC : Hid (Calls _ _ _ _ _) := bsearch_any en.a en.cap en.n xs its sk key w hn hl h60 hs hok hr hk
 clear hok hs hr hk hn hl h60
 unfold SlR.val at *
 generalize thereB its key = pt at *
 generalize placeN its key = pp at *
 go_enter Try.func39, Try.ntmps39
 go_wp2_with fail
 refine HC.out.mono ?_
 rintro e w1 ⟨rfl, hb1⟩
 go_wp2
 go_ret2
 exact ⟨rfl, hb1⟩
set_option maxRecDepth 100000 in
set_option maxHeartbeats 1000000 in
theorem clone_any (s : SlR) (l : List UInt8) (w : World) (h : BS w s l) (hl : l.length ≤ 1000) :
  Calls Try.prog 40 #[s.val] w fun e w' => ∃ s' : SlR, e = .returned s'.val ∧ BS w' s' l ∧ (∀ x, s'.a = some x → w.heap.size ≤ x.block) ∧ Below w.heap.size w w' := by
 obtain ⟨a, n, cap⟩ := s
 obtain ⟨hs, hn, hnil, _⟩ := h
 simp only at hs hn hnil
 unfold SlR.val
 have he := fun w => run_eql_slice_nil (P := Try.prog) w 35 5 a n cap Try.underlying35
 cases a with
 | none =>
  obtain rfl : l = [] := by
   cases l with
   | nil => rfl
   | cons y r => obtain ⟨b, o, ha, _⟩ := hs 0 (by simp); cases ha
  obtain rfl : n = 0 := by simpa using hn
  obtain rfl := hnil rfl
  clear hs hn hnil hl
  go_enter Try.func40, Try.ntmps40
  go_wp2
  go_ret
  exact ⟨⟨none, 0, 0⟩, rfl, ⟨SlB.nil _ _, rfl, fun _ => rfl, (fun x hx => by cases hx)⟩, (fun x hx => by cases hx), Below.refl _ _⟩
 | some x =>
  have hb1 : OwnB (w.alloc (.cells #[] 5)) w.heap.size (.slice (some ⟨w.heap.size, 0, none⟩) 0 0) [] := OwnB.built w w.heap.size [] (Nat.le_refl _) (by simp [maxLen])
  have hs1 : SlB (w.alloc (.cells #[] 5)) (some x) l := hs.below ((Below.refl _ _).alloc (Nat.le_refl _) _) (Nat.le_refl _)
  have HN : Hid (n = l.length) := hn
  clear hn hs
  go_enter Try.func40, Try.ntmps40
  go_wp2_with (at_builtin; refine wp_appendB (by rfl) (.tmp 5) (.tmp 6) (by rfl) w.heap.size _ [] (by rfl) hb1 (some x) n cap l (by rfl) HN.out hs1 (fun h => by cases h) (by simp; omega) (by simp) ?_; intro a' n' cap' w4 hn' ho' hs' hf' hat'; clear hn')
  go_ret
  obtain ⟨_, hn2, hnil2⟩ := ho'.sl
  have hbk : ∀ y, a' = some y → (Value.slice a' n' cap').ownBlock = some y.block := fun y hy => by rw [hy]; rfl
  refine ⟨⟨a', n', cap'⟩, rfl, ⟨hs', hn2, hnil2, fun y hy => (ho'.lt _ (hbk y hy)).2⟩, fun y hy => ?_, ?_⟩
  ·exact (ho'.lt _ (hbk y hy)).1
  ·exact ((Below.refl _ _).alloc (Nat.le_refl _) _).trans (hf'.below (by simp) (fun k hk => by simp [Value.ownBlock] at hk; omega))
def pN (ps : List (SlR × List Value)) : Nat := (ps.map (·.1.n)).sum
def pC (ps : List (SlR × List Value)) : List Value := ps.flatMap (·.2)
structure PartAt (w : World) (size : Nat) (p : SlR × List Value) : Prop where
 sl : SlV w p.1.a p.2
 len : p.2.length = p.1.n * size
 nil : p.1.a = none → p.1.n = 0 ∧ p.1.cap = 0
 one : ∀ u ∈ p.2, u.oneCell' = true
theorem pN_snoc (ps : List (SlR × List Value)) (k : Nat) (h : k < ps.length) : pN (ps.take (k + 1)) = pN (ps.take k) + ps[k].1.n := by
 unfold pN; rw [List.take_succ_eq_append_getElem h, List.map_append, List.sum_append]; simp
theorem pC_snoc (ps : List (SlR × List Value)) (k : Nat) (h : k < ps.length) : pC (ps.take (k + 1)) = pC (ps.take k) ++ ps[k].2 := by
 unfold pC; rw [List.take_succ_eq_append_getElem h, List.flatMap_append]; simp
theorem pN_le (ps : List (SlR × List Value)) (k : Nat) : pN (ps.take k) ≤ pN ps := by
 conv => rhs; rw [← List.take_append_drop k ps]
 unfold pN; rw [List.map_append, List.sum_append]; omega
theorem Try.infoEntry : (Try.prog.info? 103).map (fun i => (i.zero, i.size, i.bytes)) = some (some (.agg #[.slice none 0 0, .slice none 0 0, .int .u8 0, .int .u8 0, .int .u8 0, .int .u8 0, .int .u8 0, .int .u8 0, .int .u8 0, .int .u8 0]), 10, 56) := by kernel_rfl
theorem Try.infoNodeP : (Try.prog.info? 96).map (fun i => (i.zero, i.size, i.bytes)) = some (some (.pointer none), 1, 8) := by kernel_rfl
theorem zeroCells_size (z : Array Value) (n : Nat) : (Builtin.zeroCells z n).size = n * z.size := by
 unfold Builtin.zeroCells
 simp [Array.size_flatten, List.sum_replicate_nat]
theorem grown_room (w : World) (e : TypeId) (z : Value) (size n : Nat) (hz : z.cells.size = size) (hn : n ≤ maxLen) :
  (w.drew.alloc (.cells (Builtin.zeroCells z.cells n ++ Builtin.zeroCells z.cells (grownCap w n 0 e - n)) e)).ownsRow w.heap.size e size (.slice (some ⟨w.heap.size, 0, none⟩) 0 (grownCap w n 0 e)) 0 [] := by
 refine ⟨by simp, Or.inr ⟨w.heap.size, grownCap w n 0 e, Builtin.zeroCells z.cells n ++ Builtin.zeroCells z.cells (grownCap w n 0 e - n), rfl, Nat.le_refl _, ?_, Nat.zero_le _, grownCap_le_maxLen w n 0 e hn, ?_, by simp⟩⟩
 ·show (w.heap.push _)[w.heap.size]? = _
  simp
 ·rw [Array.size_append, zeroCells_size, zeroCells_size, hz, ← Nat.add_mul]
  have := grownCap_ge w n 0 e
  rw [Nat.add_sub_cancel' this]
set_option maxRecDepth 100000 in
set_option maxHeartbeats 1000000 in
theorem growE_any (n : Nat) (w : World) (hn : n ≤ 100000) :
  Calls Try.prog 75 #[.slice none 0 0, .int .i64 (n : Int)] w fun e w' => ∃ s : SlR, e = .returned s.val ∧ w'.ownsRow w.heap.size 103 10 s.val 0 [] ∧ Below w.heap.size w w' := by
 by_cases h0 : n = 0
 ·subst h0
  go_enter Try.func75, Try.ntmps75
  go_wp2
  go_ret
  exact ⟨⟨none, 0, 0⟩, rfl, World.ownsRow_nil _ _ _ _, Below.refl _ _⟩
 ·have hI : (0 : Int) < n := by omega
  have hI2 : ¬ (n : Int) < 0 := by omega
  have hI3 : (n : Int) ≤ 100000 := by omega
  obtain ⟨i, hi, hz, hsize, hby⟩ := info_parts Try.infoEntry
  have hr := fun (w : World) (ty : TypeId) => Lib.run_append_nil_zeros (P := Try.prog) w 83 3 ty 103 i _ .i64 .i64 Try.underlying83 Try.underlying3 hi hz n (by omega) (by rw [hsize]; decide) (by omega) (by rw [hby]; omega)
  have HRH : Hid (World.ownsRow _ _ _ _ _ _ _) := grown_room w 103 (.agg #[.slice none 0 0, .slice none 0 0, .int .u8 0, .int .u8 0, .int .u8 0, .int .u8 0, .int .u8 0, .int .u8 0, .int .u8 0, .int .u8 0]) 10 n rfl (by unfold maxLen; omega)
  have HGE := grownCap_ge w n 0 103
  have HGM := grownCap_le_maxLen w n 0 103 (by unfold maxLen; omega)
  unfold maxLen at HGM
  have HB : Hid (Below w.heap.size w (w.drew.alloc (.cells (Builtin.zeroCells (Value.cells (.agg #[.slice none 0 0, .slice none 0 0, .int .u8 0, .int .u8 0, .int .u8 0, .int .u8 0, .int .u8 0, .int .u8 0, .int .u8 0, .int .u8 0])) n ++ Builtin.zeroCells (Value.cells (.agg #[.slice none 0 0, .slice none 0 0, .int .u8 0, .int .u8 0, .int .u8 0, .int .u8 0, .int .u8 0, .int .u8 0, .int .u8 0, .int .u8 0])) (grownCap w n 0 103 - n)) 103))) := by
   exact ((Frame.refl (fun _ => False) w).drew.alloc _).below (Nat.le_refl _) (fun k hk => by cases hk)
  have hc0 : (0 : Int) ≤ (grownCap w n 0 103 : Int) := by omega
  have hcm : (grownCap w n 0 103 : Int) ≤ 9223372036854775807 := by omega
  have hw : ∃ w1 : World, ∃ gc : Nat, (∀ ty, (Builtin.append_ #[83, 3] ty #[.slice none 0 0, .int .i64 (n : Int)]).run Try.prog w = .ok (.slice (some ⟨w.heap.size, 0, none⟩) n gc) w1) ∧ n ≤ gc ∧ (gc : Int) ≤ 9223372036854775807 ∧
    w1.ownsRow w.heap.size 103 10 (.slice (some ⟨w.heap.size, 0, none⟩) 0 gc) 0 [] ∧ Below w.heap.size w w1 :=
   ⟨_, _, fun ty => hr w ty, HGE, hcm, HRH.out, HB.out⟩
  obtain ⟨w1, gc, hrun, hge, hgm, hown, hbel⟩ := hw
  have HRUN : Hid (∀ ty, _) := hrun
  have HOWN : Hid (World.ownsRow _ _ _ _ _ _ _) := hown
  have HBEL : Hid (Below _ _ _) := hbel
  clear hr HRH HGE HGM HB hc0 hcm hrun hown hbel hi hz hsize hby
  have hg0 : (0 : Int) ≤ gc := by omega
  go_enter Try.func75, Try.ntmps75
  go_wp2_with (at_builtin; refine Lib.wpList_append_run _ rfl _ _ _ _ rfl _ _ rfl rfl _ _ (HRUN.out _) ?_)
  go_ret
  exact ⟨⟨some ⟨w.heap.size, 0, none⟩, 0, gc⟩, rfl, HOWN.out, HBEL.out⟩
set_option maxRecDepth 100000 in
set_option maxHeartbeats 1000000 in
theorem concatE_any (pb m : Nat) (ps : List (SlR × List Value)) (w : World) (hm : m = ps.length) (h3 : ps.length ≤ 3) (hN : pN ps ≤ 1000) (hc : ∀ i (h : i < ps.length), w.cell? ⟨pb, i, none⟩ = some ps[i].1.val) (hpb : pb < w.heap.size) (hp : ∀ p ∈ ps, PartAt w 10 p) :
  Calls Try.prog 54 #[.slice (some ⟨pb, 0, none⟩) m m] w fun e w' => ∃ s : SlR, e = .returned s.val ∧ w'.ownsRow w.heap.size 103 10 s.val (pN ps) (pC ps) ∧ Below w.heap.size w w' := by
 have hle := fun k => pN_le ps k
 have HLE : Hid (∀ k, pN (ps.take k) ≤ pN ps) := hle
 have HC : Hid (∀ (wr : World), Below w.heap.size w wr → ∀ i (h : i < m), ∃ a n c cs, wr.cell? ⟨pb, i, none⟩ = some (.slice a n c) ∧ pN (ps.take (i + 1)) = pN (ps.take i) + n ∧ pC (ps.take (i + 1)) = pC (ps.take i) ++ cs ∧ SlV wr a cs ∧ cs.length = n * 10 ∧ (a = none → n = 0 ∧ c = 0) ∧ (∀ u ∈ cs, u.oneCell' = true)) := fun wr hB i h => by
  have hi : i < ps.length := by omega
  have q := hp ps[i] (List.getElem_mem hi)
  exact ⟨_, _, _, ps[i].2, by rw [hB.cell (p := ⟨pb, i, none⟩) hpb]; exact hc i hi, pN_snoc ps i hi, pC_snoc ps i hi, q.sl.below_all hB, q.len, q.nil, q.one⟩
 have HEN : Hid (pN (ps.take m) = pN ps) := by unfold Hid; rw [hm, List.take_length]
 have HEC : Hid (pC (ps.take m) = pC ps) := by unfold Hid; rw [hm, List.take_length]
 have hm3 : m ≤ 3 := by omega
 have HG : Hid (∀ n (w : World), n ≤ 100000 → _) := fun n w h => growE_any n w h
 have HNB : Hid (pN ps ≤ 1000) := hN
 have h0n : pN (ps.take 0) = 0 := by simp [pN]
 have h0c : pC (ps.take 0) = [] := by simp [pC]
 have H0N : Hid (pN (ps.take 0) = 0) := h0n
 have H0C : Hid (pC (ps.take 0) = []) := h0c
 clear hle hp hc hm h3 hN h0n h0c
 go_enter Try.func54, Try.ntmps54
 go_wp2
 go_loop [3, 5, 11] (fun sz _ ix => ∃ k q : Nat, k ≤ m ∧ ix = .int .i64 k ∧ sz = .int .i64 q ∧ q ≤ 1000 ∧ Hid (q = pN (ps.take k))) (fun _ _ ix => m - (intOf ix).toNat)
 case atStart => exact ⟨0, 0, by omega, by simp, by simp, by omega, by unfold Hid; exact H0N.out.symm⟩
 case round =>
  obtain ⟨k, q, hk, rfl, rfl, hq, HQ⟩ := hrel
  by_cases hlt : k < m
  ·have hltI : (k : Int) < m := by omega
   obtain ⟨a, n, c, cs, hcell, hsn, _⟩ := HC.out w (Below.refl _ _) k hlt
   have hqn : q + n ≤ 1000 := by have := HLE.out (k + 1); have := HNB.out; have := HQ.out; omega
   have HSN : Hid (pN (ps.take (k + 1)) = pN (ps.take k) + n) := hsn
   have hqI : ¬ ((q : Int) + n < 0) := by omega
   have hqI2 : (q : Int) + n ≤ 1000 := by omega
   clear hsn
   go_wp2
   go_round
   case rel => exact ⟨k + 1, q + n, by omega, by go_num, by go_num, hqn, by unfold Hid; rw [HSN.out, ← HQ.out]⟩
   case measure => simp [intOf]; omega
  ·obtain rfl : k = m := by omega
   go_wp2_with fail
   refine (HG.out q w (by omega)).mono ?_
   rintro e w1 ⟨s, rfl, ho1, hb1⟩
   have HO1 : Hid (World.ownsRow _ _ _ _ _ _ _) := ho1
   clear ho1
   unfold SlR.val
   go_wp2
   go_loopw [6, 8, 27] (fun sv _ ix wr => ∃ (j : Nat) (s' : SlR), j ≤ k ∧ ix = .int .i64 j ∧ sv = s'.val ∧ Hid (wr.ownsRow w.heap.size 103 10 s'.val (pN (ps.take j)) (pC (ps.take j))) ∧ Below w.heap.size w wr) (fun _ _ ix _ => k - (intOf ix).toNat)
   case atStart => exact ⟨0, s, by omega, by simp, rfl, by rw [H0N.out, H0C.out]; exact HO1, hb1⟩
   case round =>
    obtain ⟨j, s', hj, rfl, rfl, HO, hB⟩ := hrel
    by_cases hlt2 : j < k
    ·have hltI : (j : Int) < k := by omega
     obtain ⟨a, n, c, cs, hcell, hsn, hsc, hsl, hcl, hnil, hone⟩ := HC.out wr hB j hlt2
     have HSN : Hid (pN (ps.take (j + 1)) = pN (ps.take j) + n) := hsn
     have HSC : Hid (pC (ps.take (j + 1)) = pC (ps.take j) ++ cs) := hsc
     have HSL : Hid (SlV wr a cs) := hsl
     have HCL : Hid (cs.length = n * 10) := hcl
     have HNIL : Hid (a = none → n = 0 ∧ c = 0) := hnil
     have HONE : Hid (∀ u ∈ cs, u.oneCell' = true) := hone
     have HQN : Hid (pN (ps.take j) + n ≤ 1000) := by have := HLE.out (j + 1); have := HNB.out; unfold Hid; omega
     clear hsn hsc hsl hcl hnil hone
     unfold SlR.val
     go_wp2_with (at_builtin; refine wp_appendV (by rfl) (.tmp 31) (.tmp 32) 83 (by rfl) w.heap.size 103 _ 10 56 Try.underlying83 Try.infoEntry rfl (by decide) (.slice s'.a s'.n s'.cap) (pN (ps.take j)) (pC (ps.take j)) (by rfl) HO.out a n c cs (by rfl) HCL.out HSL.out HNIL.out HONE.out (by have := HQN.out; unfold maxLen; omega) (by have := HQN.out; omega) hB.size ?_; intro v3 w3 ho3 hf3 hat3; obtain ⟨a3, c3, hv3, _⟩ := owns_form ho3; subst hv3)
     refine ⟨⟨j + 1, ⟨a3, _, c3⟩, by omega, by go_num, rfl, ?_, ?_⟩, by simp [intOf]; omega⟩
     ·unfold Hid; rw [HSN.out, HSC.out]; exact ho3
     ·exact hB.trans (hf3.below hB.size (fun k hk => (HO.out.lt k hk).1))
    ·obtain rfl : j = k := by omega
     unfold SlR.val
     go_wp2
     go_ret
     refine ⟨s', rfl, ?_, hB⟩
     rw [← HEN.out, ← HEC.out]; exact HO.out
set_option maxRecDepth 100000 in
set_option maxHeartbeats 1000000 in
theorem growN_any (n : Nat) (w : World) (hn : n ≤ 100000) :
  Calls Try.prog 78 #[.slice none 0 0, .int .i64 (n : Int)] w fun e w' => ∃ s : SlR, e = .returned s.val ∧ w'.ownsRow w.heap.size 96 1 s.val 0 [] ∧ Below w.heap.size w w' := by
 by_cases h0 : n = 0
 ·subst h0
  go_enter Try.func78, Try.ntmps78
  go_wp2
  go_ret
  exact ⟨⟨none, 0, 0⟩, rfl, World.ownsRow_nil _ _ _ _, Below.refl _ _⟩
 ·have hI : (0 : Int) < n := by omega
  have hI2 : ¬ (n : Int) < 0 := by omega
  have hI3 : (n : Int) ≤ 100000 := by omega
  obtain ⟨i, hi, hz, hsize, hby⟩ := info_parts Try.infoNodeP
  have hr := fun (w : World) (ty : TypeId) => Lib.run_append_nil_zeros (P := Try.prog) w 87 3 ty 96 i _ .i64 .i64 Try.underlying87 Try.underlying3 hi hz n (by omega) (by rw [hsize]; decide) (by omega) (by rw [hby]; omega)
  have HRH : Hid (World.ownsRow _ _ _ _ _ _ _) := grown_room w 96 (.pointer none) 1 n rfl (by unfold maxLen; omega)
  have HGE := grownCap_ge w n 0 96
  have HGM := grownCap_le_maxLen w n 0 96 (by unfold maxLen; omega)
  unfold maxLen at HGM
  have HB : Hid (Below w.heap.size w (w.drew.alloc (.cells (Builtin.zeroCells (Value.cells (.pointer none)) n ++ Builtin.zeroCells (Value.cells (.pointer none)) (grownCap w n 0 96 - n)) 96))) := by
   exact ((Frame.refl (fun _ => False) w).drew.alloc _).below (Nat.le_refl _) (fun k hk => by cases hk)
  have hc0 : (0 : Int) ≤ (grownCap w n 0 96 : Int) := by omega
  have hcm : (grownCap w n 0 96 : Int) ≤ 9223372036854775807 := by omega
  have hw : ∃ w1 : World, ∃ gc : Nat, (∀ ty, (Builtin.append_ #[87, 3] ty #[.slice none 0 0, .int .i64 (n : Int)]).run Try.prog w = .ok (.slice (some ⟨w.heap.size, 0, none⟩) n gc) w1) ∧ n ≤ gc ∧ (gc : Int) ≤ 9223372036854775807 ∧
    w1.ownsRow w.heap.size 96 1 (.slice (some ⟨w.heap.size, 0, none⟩) 0 gc) 0 [] ∧ Below w.heap.size w w1 :=
   ⟨_, _, fun ty => hr w ty, HGE, hcm, HRH.out, HB.out⟩
  obtain ⟨w1, gc, hrun, hge, hgm, hown, hbel⟩ := hw
  have HRUN : Hid (∀ ty, _) := hrun
  have HOWN : Hid (World.ownsRow _ _ _ _ _ _ _) := hown
  have HBEL : Hid (Below _ _ _) := hbel
  clear hr HRH HGE HGM HB hc0 hcm hrun hown hbel hi hz hsize hby
  have hg0 : (0 : Int) ≤ gc := by omega
  go_enter Try.func78, Try.ntmps78
  go_wp2_with (at_builtin; refine Lib.wpList_append_run _ rfl _ _ _ _ rfl _ _ rfl rfl _ _ (HRUN.out _) ?_)
  go_ret
  exact ⟨⟨some ⟨w.heap.size, 0, none⟩, 0, gc⟩, rfl, HOWN.out, HBEL.out⟩
set_option maxRecDepth 100000 in
set_option maxHeartbeats 1000000 in
theorem concatN_any (pb m : Nat) (ps : List (SlR × List Value)) (w : World) (hm : m = ps.length) (h3 : ps.length ≤ 3) (hN : pN ps ≤ 1000) (hc : ∀ i (h : i < ps.length), w.cell? ⟨pb, i, none⟩ = some ps[i].1.val) (hpb : pb < w.heap.size) (hp : ∀ p ∈ ps, PartAt w 1 p) :
  Calls Try.prog 56 #[.slice (some ⟨pb, 0, none⟩) m m] w fun e w' => ∃ s : SlR, e = .returned s.val ∧ w'.ownsRow w.heap.size 96 1 s.val (pN ps) (pC ps) ∧ Below w.heap.size w w' := by
 have hle := fun k => pN_le ps k
 have HLE : Hid (∀ k, pN (ps.take k) ≤ pN ps) := hle
 have HC : Hid (∀ (wr : World), Below w.heap.size w wr → ∀ i (h : i < m), ∃ a n c cs, wr.cell? ⟨pb, i, none⟩ = some (.slice a n c) ∧ pN (ps.take (i + 1)) = pN (ps.take i) + n ∧ pC (ps.take (i + 1)) = pC (ps.take i) ++ cs ∧ SlV wr a cs ∧ cs.length = n * 1 ∧ (a = none → n = 0 ∧ c = 0) ∧ (∀ u ∈ cs, u.oneCell' = true)) := fun wr hB i h => by
  have hi : i < ps.length := by omega
  have q := hp ps[i] (List.getElem_mem hi)
  exact ⟨_, _, _, ps[i].2, by rw [hB.cell (p := ⟨pb, i, none⟩) hpb]; exact hc i hi, pN_snoc ps i hi, pC_snoc ps i hi, q.sl.below_all hB, q.len, q.nil, q.one⟩
 have HEN : Hid (pN (ps.take m) = pN ps) := by unfold Hid; rw [hm, List.take_length]
 have HEC : Hid (pC (ps.take m) = pC ps) := by unfold Hid; rw [hm, List.take_length]
 have hm3 : m ≤ 3 := by omega
 have HG : Hid (∀ n (w : World), n ≤ 100000 → _) := fun n w h => growN_any n w h
 have HNB : Hid (pN ps ≤ 1000) := hN
 have h0n : pN (ps.take 0) = 0 := by simp [pN]
 have h0c : pC (ps.take 0) = [] := by simp [pC]
 have H0N : Hid (pN (ps.take 0) = 0) := h0n
 have H0C : Hid (pC (ps.take 0) = []) := h0c
 clear hle hp hc hm h3 hN h0n h0c
 go_enter Try.func56, Try.ntmps56
 go_wp2
 go_loop [3, 5, 11] (fun sz _ ix => ∃ k q : Nat, k ≤ m ∧ ix = .int .i64 k ∧ sz = .int .i64 q ∧ q ≤ 1000 ∧ Hid (q = pN (ps.take k))) (fun _ _ ix => m - (intOf ix).toNat)
 case atStart => exact ⟨0, 0, by omega, by simp, by simp, by omega, by unfold Hid; exact H0N.out.symm⟩
 case round =>
  obtain ⟨k, q, hk, rfl, rfl, hq, HQ⟩ := hrel
  by_cases hlt : k < m
  ·have hltI : (k : Int) < m := by omega
   obtain ⟨a, n, c, cs, hcell, hsn, _⟩ := HC.out w (Below.refl _ _) k hlt
   have hqn : q + n ≤ 1000 := by have := HLE.out (k + 1); have := HNB.out; have := HQ.out; omega
   have HSN : Hid (pN (ps.take (k + 1)) = pN (ps.take k) + n) := hsn
   have hqI : ¬ ((q : Int) + n < 0) := by omega
   have hqI2 : (q : Int) + n ≤ 1000 := by omega
   clear hsn
   go_wp2
   go_round
   case rel => exact ⟨k + 1, q + n, by omega, by go_num, by go_num, hqn, by unfold Hid; rw [HSN.out, ← HQ.out]⟩
   case measure => simp [intOf]; omega
  ·obtain rfl : k = m := by omega
   go_wp2_with fail
   refine (HG.out q w (by omega)).mono ?_
   rintro e w1 ⟨s, rfl, ho1, hb1⟩
   have HO1 : Hid (World.ownsRow _ _ _ _ _ _ _) := ho1
   clear ho1
   unfold SlR.val
   go_wp2
   go_loopw [6, 8, 27] (fun sv _ ix wr => ∃ (j : Nat) (s' : SlR), j ≤ k ∧ ix = .int .i64 j ∧ sv = s'.val ∧ Hid (wr.ownsRow w.heap.size 96 1 s'.val (pN (ps.take j)) (pC (ps.take j))) ∧ Below w.heap.size w wr) (fun _ _ ix _ => k - (intOf ix).toNat)
   case atStart => exact ⟨0, s, by omega, by simp, rfl, by rw [H0N.out, H0C.out]; exact HO1, hb1⟩
   case round =>
    obtain ⟨j, s', hj, rfl, rfl, HO, hB⟩ := hrel
    by_cases hlt2 : j < k
    ·have hltI : (j : Int) < k := by omega
     obtain ⟨a, n, c, cs, hcell, hsn, hsc, hsl, hcl, hnil, hone⟩ := HC.out wr hB j hlt2
     have HSN : Hid (pN (ps.take (j + 1)) = pN (ps.take j) + n) := hsn
     have HSC : Hid (pC (ps.take (j + 1)) = pC (ps.take j) ++ cs) := hsc
     have HSL : Hid (SlV wr a cs) := hsl
     have HCL : Hid (cs.length = n * 1) := hcl
     have HNIL : Hid (a = none → n = 0 ∧ c = 0) := hnil
     have HONE : Hid (∀ u ∈ cs, u.oneCell' = true) := hone
     have HQN : Hid (pN (ps.take j) + n ≤ 1000) := by have := HLE.out (j + 1); have := HNB.out; unfold Hid; omega
     clear hsn hsc hsl hcl hnil hone
     unfold SlR.val
     go_wp2_with (at_builtin; refine wp_appendV (by rfl) (.tmp 31) (.tmp 32) 87 (by rfl) w.heap.size 96 _ 1 8 Try.underlying87 Try.infoNodeP rfl (by decide) (.slice s'.a s'.n s'.cap) (pN (ps.take j)) (pC (ps.take j)) (by rfl) HO.out a n c cs (by rfl) HCL.out HSL.out HNIL.out HONE.out (by have := HQN.out; unfold maxLen; omega) (by have := HQN.out; omega) hB.size ?_; intro v3 w3 ho3 hf3 hat3; obtain ⟨a3, c3, hv3, _⟩ := owns_form ho3; subst hv3)
     refine ⟨⟨j + 1, ⟨a3, _, c3⟩, by omega, by go_num, rfl, ?_, ?_⟩, by simp [intOf]; omega⟩
     ·unfold Hid; rw [HSN.out, HSC.out]; exact ho3
     ·exact hB.trans (hf3.below hB.size (fun k hk => (HO.out.lt k hk).1))
    ·obtain rfl : j = k := by omega
     unfold SlR.val
     go_wp2
     go_ret
     refine ⟨s', rfl, ?_, hB⟩
     rw [← HEN.out, ← HEC.out]; exact HO.out
end Go.Proofs.Ytekegfbjbainhaa
