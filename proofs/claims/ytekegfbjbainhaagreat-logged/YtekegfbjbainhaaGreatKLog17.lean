
import Derived.Test.YtekegfbjbainhaaGreatKJoin17
import Derived.Test.YtekegfbjbainhaaGreatKJoin4
import Derived.Test.YtekegfbjbainhaaGreatKBook12
import Derived.Test.YtekegfbjbainhaaGreatKJoin5
import Derived.Deep.RegionHeld3
import Derived.Deep.RegionHeldLaw
set_option linter.unusedVariables false
set_option linter.unusedSimpArgs false
namespace Go.Proofs.YtekegfbjbainhaaGreat
open Go.RowKit
attribute [local go_sem ↓] Go.wp_at_zero Go.wp_at_succ
def pathF : Nat → Nat → List (List UInt8) → List (List UInt8)
 | 0, _, _ => []
 | f + 1, e, l => if l.length ≤ 1 then [] else if e < halfN l.length then pathF f e (l.take (halfN l.length)) ++ [sumF 42 (l.drop (halfN l.length))] else pathF f (e - halfN l.length) (l.drop (halfN l.length)) ++ [sumF 42 (l.take (halfN l.length))]
def extL : Nat → Nat → List (List UInt8) → Bool → List (List UInt8)
 | 0, _, _, _ => []
 | f + 1, m, l, own => if m = l.length then (if own = true then [] else [sumF 42 l]) else if m ≤ halfN l.length then extL f m (l.take (halfN l.length)) own ++ [sumF 42 (l.drop (halfN l.length))] else extL f (m - halfN l.length) (l.drop (halfN l.length)) false ++ [sumF 42 (l.take (halfN l.length))]
theorem pathF_8 : ∀ (f e : Nat) (l : List (List UInt8)), ∀ d ∈ pathF f e l, d.length = 8
 | 0, _, _, d, hd => by cases hd
 | f + 1, e, l, d, hd => by
  unfold pathF at hd
  split at hd
  ·cases hd
  ·split at hd
   ·rcases List.mem_append.1 hd with h | h
    ·exact pathF_8 f _ _ d h
    ·rw [List.mem_singleton.1 h]; exact sumF_length 41 _
   ·rcases List.mem_append.1 hd with h | h
    ·exact pathF_8 f _ _ d h
    ·rw [List.mem_singleton.1 h]; exact sumF_length 41 _
theorem extL_8 : ∀ (f m : Nat) (l : List (List UInt8)) (own : Bool), ∀ d ∈ extL f m l own, d.length = 8
 | 0, _, _, _, d, hd => by cases hd
 | f + 1, m, l, own, d, hd => by
  unfold extL at hd
  split at hd
  ·split at hd
   ·cases hd
   ·rw [List.mem_singleton.1 hd]; exact sumF_length 41 _
  ·split at hd
   ·rcases List.mem_append.1 hd with h | h
    ·exact extL_8 f _ _ _ d h
    ·rw [List.mem_singleton.1 h]; exact sumF_length 41 _
   ·rcases List.mem_append.1 hd with h | h
    ·exact extL_8 f _ _ _ d h
    ·rw [List.mem_singleton.1 h]; exact sumF_length 41 _
theorem pathF_len : ∀ (f e : Nat) (l : List (List UInt8)), (pathF f e l).length ≤ f
 | 0, _, _ => Nat.zero_le _
 | f + 1, e, l => by
  unfold pathF
  have h1 := pathF_len f e (l.take (halfN l.length))
  have h2 := pathF_len f (e - halfN l.length) (l.drop (halfN l.length))
  split
  ·simp
  ·split <;> simp <;> omega
theorem extL_len : ∀ (f m : Nat) (l : List (List UInt8)) (own : Bool), (extL f m l own).length ≤ f
 | 0, _, _, _ => Nat.zero_le _
 | f + 1, m, l, own => by
  unfold extL
  have h1 := extL_len f m (l.take (halfN l.length)) own
  have h2 := extL_len f (m - halfN l.length) (l.drop (halfN l.length)) false
  split
  ·split <;> simp
  ·split <;> simp <;> omega
def pathPost (W : World) (L : List (List UInt8)) (v : Ending) (w' : World) : Prop := ∃ s : SlR, v = .returned (.slice s.a s.n s.cap) ∧ w'.ownsRow W.heap.size 36 8 (.slice s.a s.n s.cap) L.length (digsC L) ∧ Below W.heap.size W w'
theorem digsC_snoc (L : List (List UInt8)) (d : List UInt8) : digsC (L ++ [d]) = digsC L ++ d.map u8c := by
 unfold digsC; rw [List.flatMap_append]; simp
set_option maxRecDepth 100000 in
set_option maxHeartbeats 4000000 in
theorem path_lo (l : List (List UInt8)) (b o cap : Nat) (e : Nat) (LR : List (List UInt8)) (w : World) (h2 : 2 ≤ l.length) (h40 : l.length ≤ 40) (hcap : l.length ≤ cap) (hc : cap ≤ 9223372036854775807) (hs : SlD w (some ⟨b, o, none⟩) l) (he : e < halfN l.length) (hLR : LR.length ≤ 100)
  (hIH : ∀ W, Below w.heap.size w W → Calls Tryz.prog 97 #[.int .i64 (e : Int), .slice (some ⟨b, o, none⟩) (halfN l.length) cap] W (pathPost W LR)) :
  Calls Tryz.prog 97 #[.int .i64 (e : Int), .slice (some ⟨b, o, none⟩) l.length cap] w (pathPost w (LR ++ [sumF 42 (l.drop (halfN l.length))])) := by
 have hhb := halfN_bd l.length h2
 obtain ⟨d0, d1, d2, d3, d4, d5, d6, d7, hdd⟩ := list8 (sumF 42 (l.drop (halfN l.length))) (sumF_length 41 _)
 have HHF : Hid (∀ w : World, Calls Tryz.prog 122 #[.int .i64 (l.length : Int)] w fun e w' => e = .returned (.int .i64 (halfN l.length : Int)) ∧ w' = w) := fun w => half_any _ _ (by omega)
 have HSM : Hid (∀ W, Below w.heap.size w W → Calls Tryz.prog 87 #[.slice (some ⟨b, o + halfN l.length * 8, none⟩) (l.length - halfN l.length) (cap - halfN l.length)] W fun e w' => e = .returned (dV [d0, d1, d2, d3, d4, d5, d6, d7]) ∧ Below W.heap.size W w') := fun W hW => by
  rw [← hdd]
  have h := sum_any 42 (l.drop (halfN l.length)) (some ⟨b, o + halfN l.length * 8, none⟩) (cap - halfN l.length) W (by simp; omega) (by simp; omega) (by omega) ((hs.below hW).drop _ (by omega))
  rw [List.length_drop] at h
  exact h
 rw [hdd]
 have HIH : Hid (∀ W, Below w.heap.size w W → Calls Tryz.prog 97 #[.int .i64 (e : Int), .slice (some ⟨b, o, none⟩) (halfN l.length) cap] W (pathPost W LR)) := hIH
 have HV : Hid (dV [d0, d1, d2, d3, d4, d5, d6, d7] = .agg #[Value.int .u8 (d0.toNat : Int), Value.int .u8 (d1.toNat : Int), Value.int .u8 (d2.toNat : Int), Value.int .u8 (d3.toNat : Int), Value.int .u8 (d4.toNat : Int), Value.int .u8 (d5.toNat : Int), Value.int .u8 (d6.toNat : Int), Value.int .u8 (d7.toNat : Int)]) := rfl
 have HLR : Hid (LR.length ≤ 100) := hLR
 generalize halfN l.length = k at *
 clear hIH hdd hs
 generalize l.length = n at *
 have hnI : (n : Int) ≤ 40 := by omega
 have hn2 : (2 : Int) ≤ n := by omega
 have hk1 : (1 : Int) ≤ k := by omega
 have hkn : (k : Int) < n := by omega
 have hcI : (cap : Int) ≤ 9223372036854775807 := by omega
 have hncI : (n : Int) ≤ cap := by omega
 have hkc : ¬ cap = k := by omega
 have hk0 : (0 : Int) ≤ k := by omega
 have hkcap : (k : Int) ≤ cap := by omega
 have hkn' : (k : Int) ≤ n := by omega
 have hn0 : (0 : Int) ≤ n := by omega
 have hwk : IntKind.i64.wrap (k : Int) = (k : Int) := Go.IntWalk.i64_in _ ⟨by omega, by omega⟩
 have heI : (e : Int) < k := by omega
 have hn1 : ((n : Int) == 1) = false := by rw [Bool.eq_false_iff]; simp only [ne_eq, beq_iff_eq]; omega
 go_enter Tryz.func97, Tryz.ntmps97
 go_wp2_with fail
 refine (HHF.out _).mono ?_
 rintro v w1 ⟨rfl, hw1⟩
 obtain rfl : w = w1 := hw1.symm
 clear hw1
 go_wp2
 go_region_held3 (fun _ => True) (trivial)
  ((first
   | (go_at_call 97; refine (HIH.out _ (by repeat' (first | (with_reducible exact Below.refl _ _) | (with_reducible refine Below.drew ?_)))).mono ?_; rintro v w2 hp2; unfold pathPost at hp2; obtain ⟨s2, rfl, ho2, hb2⟩ := hp2; have HB2 : Hid (Below w.heap.size w w2) := ⟨hb2.os, hb2.tape, hb2.output, hb2.size, hb2.block⟩)
   | (go_at_call 87; refine (HSM.out _ (by exact HB2.out)).mono ?_; rintro v w3 ⟨rfl, hb3⟩; rw [HV.out]; have HB3 : Hid (Below w.heap.size w w3) := HB2.out.trans (hb3.mono HB2.out.size); have HO3 : Hid (w3.ownsRow w.heap.size 36 8 (.slice s2.a s2.n s2.cap) LR.length (digsC LR)) := owns_below ho2 hb3)
   | (refine step_appendV (by rfl) (.tmp 19) (.tmp 24) 41 (by rfl) w.heap.size 36 _ 8 8 Tryz.underlying41 Tryz.infoDigP rfl (by decide) (.slice s2.a s2.n s2.cap) LR.length (digsC LR) (by rfl) (HO3.out.alloc (.cells #[Value.int .u8 (d0.toNat : Int), Value.int .u8 (d1.toNat : Int), Value.int .u8 (d2.toNat : Int), Value.int .u8 (d3.toNat : Int), Value.int .u8 (d4.toNat : Int), Value.int .u8 (d5.toNat : Int), Value.int .u8 (d6.toNat : Int), Value.int .u8 (d7.toNat : Int)] 36)) ⟨w3.heap.size, 0, none⟩ 1 1 ([d0, d1, d2, d3, d4, d5, d6, d7].map u8c) (by rfl) rfl (SlV.alloc_new w3 ([d0, d1, d2, d3, d4, d5, d6, d7].map u8c) 36) (u8c_one _) (by have := HLR.out; unfold maxLen; omega) (by have := HLR.out; omega) (by have := HB3.out.size; simp; omega) ?_; intro a4 n4 c4 w4 ho4 hf4 hat4)
   | fail))
 all_goals
  have HO4 : Hid (w4.ownsRow w.heap.size 36 8 (.slice a4 n4 c4) (LR ++ [[d0, d1, d2, d3, d4, d5, d6, d7]]).length (digsC (LR ++ [[d0, d1, d2, d3, d4, d5, d6, d7]]))) := by
   rw [digsC_snoc, List.length_append]
   exact ho4
  have HB4 : Hid (Below w.heap.size w w4) := (HB3.out.alloc HB3.out.size _).trans (hf4.below (by have := HB3.out.size; simp; omega) (fun q hq => (HO3.out.lt q hq).1))
  clear ho4 hf4 hat4 ho2 hb2 hb3
  go_wp2
  go_returns
  exact ⟨⟨a4, n4, c4⟩, rfl, HO4.out, HB4.out⟩
set_option maxRecDepth 100000 in
set_option maxHeartbeats 4000000 in
theorem path_hi (l : List (List UInt8)) (b o cap : Nat) (e : Nat) (LR : List (List UInt8)) (w : World) (h2 : 2 ≤ l.length) (h40 : l.length ≤ 40) (hcap : l.length ≤ cap) (hc : cap ≤ 9223372036854775807) (hs : SlD w (some ⟨b, o, none⟩) l) (he : halfN l.length ≤ e) (he2 : e < l.length) (hLR : LR.length ≤ 100)
  (hIH : ∀ W, Below w.heap.size w W → Calls Tryz.prog 97 #[.int .i64 ((e - halfN l.length : Nat) : Int), .slice (some ⟨b, o + halfN l.length * 8, none⟩) (l.length - halfN l.length) (cap - halfN l.length)] W (pathPost W LR)) :
  Calls Tryz.prog 97 #[.int .i64 (e : Int), .slice (some ⟨b, o, none⟩) l.length cap] w (pathPost w (LR ++ [sumF 42 (l.take (halfN l.length))])) := by
 have hhb := halfN_bd l.length h2
 obtain ⟨d0, d1, d2, d3, d4, d5, d6, d7, hdd⟩ := list8 (sumF 42 (l.take (halfN l.length))) (sumF_length 41 _)
 have HHF : Hid (∀ w : World, Calls Tryz.prog 122 #[.int .i64 (l.length : Int)] w fun e w' => e = .returned (.int .i64 (halfN l.length : Int)) ∧ w' = w) := fun w => half_any _ _ (by omega)
 have HSM : Hid (∀ W, Below w.heap.size w W → Calls Tryz.prog 87 #[.slice (some ⟨b, o, none⟩) (halfN l.length) cap] W fun e w' => e = .returned (dV [d0, d1, d2, d3, d4, d5, d6, d7]) ∧ Below W.heap.size W w') := fun W hW => by
  rw [← hdd]
  have h := sum_any 42 (l.take (halfN l.length)) (some ⟨b, o, none⟩) cap W (by simp; omega) (by simp; omega) (by omega) ((hs.below hW).take _ (by omega))
  rw [List.length_take, Nat.min_eq_left (by omega)] at h
  exact h
 rw [hdd]
 have HIH : Hid (∀ W, Below w.heap.size w W → Calls Tryz.prog 97 #[.int .i64 ((e - halfN l.length : Nat) : Int), .slice (some ⟨b, o + halfN l.length * 8, none⟩) (l.length - halfN l.length) (cap - halfN l.length)] W (pathPost W LR)) := hIH
 have HV : Hid (dV [d0, d1, d2, d3, d4, d5, d6, d7] = .agg #[Value.int .u8 (d0.toNat : Int), Value.int .u8 (d1.toNat : Int), Value.int .u8 (d2.toNat : Int), Value.int .u8 (d3.toNat : Int), Value.int .u8 (d4.toNat : Int), Value.int .u8 (d5.toNat : Int), Value.int .u8 (d6.toNat : Int), Value.int .u8 (d7.toNat : Int)]) := rfl
 have HLR : Hid (LR.length ≤ 100) := hLR
 generalize halfN l.length = k at *
 clear hIH hdd hs
 generalize l.length = n at *
 have hnI : (n : Int) ≤ 40 := by omega
 have hn2 : (2 : Int) ≤ n := by omega
 have hk1 : (1 : Int) ≤ k := by omega
 have hkn : (k : Int) < n := by omega
 have hcI : (cap : Int) ≤ 9223372036854775807 := by omega
 have hncI : (n : Int) ≤ cap := by omega
 have hkc : ¬ cap = k := by omega
 have hk0 : (0 : Int) ≤ k := by omega
 have hkcap : (k : Int) ≤ cap := by omega
 have hkn' : (k : Int) ≤ n := by omega
 have hn0 : (0 : Int) ≤ n := by omega
 have hwk : IntKind.i64.wrap (k : Int) = (k : Int) := Go.IntWalk.i64_in _ ⟨by omega, by omega⟩
 have heI : ¬ (e : Int) < k := by omega
 have hek : (e : Int) - k = ((e - k : Nat) : Int) := by omega
 generalize hqq : (e - k : Nat) = ek at *
 have hwe : IntKind.i64.wrap (ek : Int) = (ek : Int) := Go.IntWalk.i64_in _ ⟨by omega, by omega⟩
 have hwd : IntKind.i64.wrap ((e : Int) - (k : Int)) = (ek : Int) := by rw [hek]; exact hwe
 clear hqq
 have hn1 : ((n : Int) == 1) = false := by rw [Bool.eq_false_iff]; simp only [ne_eq, beq_iff_eq]; omega
 have heN : (e : Int) ≤ 40 := by omega
 go_enter Tryz.func97, Tryz.ntmps97
 go_wp2_with fail
 refine (HHF.out _).mono ?_
 rintro v w1 ⟨rfl, hw1⟩
 obtain rfl : w = w1 := hw1.symm
 clear hw1
 go_wp2
 go_region_held3 (fun _ => True) (trivial)
  ((first
   | (go_at_call 97; refine (HIH.out _ (by repeat' (first | (with_reducible exact Below.refl _ _) | (with_reducible refine Below.drew ?_)))).mono ?_; rintro v w2 hp2; unfold pathPost at hp2; obtain ⟨s2, rfl, ho2, hb2⟩ := hp2; have HB2 : Hid (Below w.heap.size w w2) := ⟨hb2.os, hb2.tape, hb2.output, hb2.size, hb2.block⟩)
   | (go_at_call 87; refine (HSM.out _ (by exact HB2.out)).mono ?_; rintro v w3 ⟨rfl, hb3⟩; rw [HV.out]; have HB3 : Hid (Below w.heap.size w w3) := HB2.out.trans (hb3.mono HB2.out.size); have HO3 : Hid (w3.ownsRow w.heap.size 36 8 (.slice s2.a s2.n s2.cap) LR.length (digsC LR)) := owns_below ho2 hb3)
   | (refine step_appendV (by rfl) (.tmp 32) (.tmp 37) 41 (by rfl) w.heap.size 36 _ 8 8 Tryz.underlying41 Tryz.infoDigP rfl (by decide) (.slice s2.a s2.n s2.cap) LR.length (digsC LR) (by rfl) (HO3.out.alloc (.cells #[Value.int .u8 (d0.toNat : Int), Value.int .u8 (d1.toNat : Int), Value.int .u8 (d2.toNat : Int), Value.int .u8 (d3.toNat : Int), Value.int .u8 (d4.toNat : Int), Value.int .u8 (d5.toNat : Int), Value.int .u8 (d6.toNat : Int), Value.int .u8 (d7.toNat : Int)] 36)) ⟨w3.heap.size, 0, none⟩ 1 1 ([d0, d1, d2, d3, d4, d5, d6, d7].map u8c) (by rfl) rfl (SlV.alloc_new w3 ([d0, d1, d2, d3, d4, d5, d6, d7].map u8c) 36) (u8c_one _) (by have := HLR.out; unfold maxLen; omega) (by have := HLR.out; omega) (by have := HB3.out.size; simp; omega) ?_; intro a4 n4 c4 w4 ho4 hf4 hat4)
   | fail))
 all_goals
  have HO4 : Hid (w4.ownsRow w.heap.size 36 8 (.slice a4 n4 c4) (LR ++ [[d0, d1, d2, d3, d4, d5, d6, d7]]).length (digsC (LR ++ [[d0, d1, d2, d3, d4, d5, d6, d7]]))) := by
   rw [digsC_snoc, List.length_append]
   exact ho4
  have HB4 : Hid (Below w.heap.size w w4) := (HB3.out.alloc HB3.out.size _).trans (hf4.below (by have := HB3.out.size; simp; omega) (fun q hq => (HO3.out.lt q hq).1))
  clear ho4 hf4 hat4 ho2 hb2 hb3
  go_wp2
  go_returns
  exact ⟨⟨a4, n4, c4⟩, rfl, HO4.out, HB4.out⟩
set_option maxRecDepth 100000 in
set_option maxHeartbeats 4000000 in
theorem incl_lo (l : List (List UInt8)) (b o cap : Nat) (e : Nat) (LR : List (List UInt8)) (w : World) (h2 : 2 ≤ l.length) (h40 : l.length ≤ 40) (hcap : l.length ≤ cap) (hc : cap ≤ 9223372036854775807) (hs : SlD w (some ⟨b, o, none⟩) l) (he : e < halfN l.length) (hLR : LR.length ≤ 100)
  (hIH : ∀ W, Below w.heap.size w W → Calls Tryz.prog 95 #[.slice (some ⟨b, o, none⟩) (halfN l.length) cap, .int .i64 (e : Int)] W (pathPost W LR)) :
  Calls Tryz.prog 95 #[.slice (some ⟨b, o, none⟩) l.length cap, .int .i64 (e : Int)] w (pathPost w (LR ++ [sumF 42 (l.drop (halfN l.length))])) := by
 have hhb := halfN_bd l.length h2
 obtain ⟨d0, d1, d2, d3, d4, d5, d6, d7, hdd⟩ := list8 (sumF 42 (l.drop (halfN l.length))) (sumF_length 41 _)
 have HHF : Hid (∀ w : World, Calls Tryz.prog 128 #[.int .i64 (l.length : Int)] w fun e w' => e = .returned (.int .i64 (halfN l.length : Int)) ∧ w' = w) := fun w => first_all _ _ (by omega) (by omega)
 have HSM : Hid (∀ W, Below w.heap.size w W → Calls Tryz.prog 119 #[.slice (some ⟨b, o + halfN l.length * 8, none⟩) (l.length - halfN l.length) (cap - halfN l.length)] W fun e w' => e = .returned (dV [d0, d1, d2, d3, d4, d5, d6, d7]) ∧ Below W.heap.size W w') := fun W hW => by
  rw [← hdd]
  have h := sumP_any 42 (l.drop (halfN l.length)) (some ⟨b, o + halfN l.length * 8, none⟩) (cap - halfN l.length) W (by simp; omega) (by simp; omega) (by simp; omega) (by omega) ((hs.below hW).drop _ (by omega))
  rw [List.length_drop] at h
  exact h
 rw [hdd]
 have HIH : Hid (∀ W, Below w.heap.size w W → Calls Tryz.prog 95 #[.slice (some ⟨b, o, none⟩) (halfN l.length) cap, .int .i64 (e : Int)] W (pathPost W LR)) := hIH
 have HV : Hid (dV [d0, d1, d2, d3, d4, d5, d6, d7] = .agg #[Value.int .u8 (d0.toNat : Int), Value.int .u8 (d1.toNat : Int), Value.int .u8 (d2.toNat : Int), Value.int .u8 (d3.toNat : Int), Value.int .u8 (d4.toNat : Int), Value.int .u8 (d5.toNat : Int), Value.int .u8 (d6.toNat : Int), Value.int .u8 (d7.toNat : Int)]) := rfl
 have HLR : Hid (LR.length ≤ 100) := hLR
 generalize halfN l.length = k at *
 clear hIH hdd hs
 generalize l.length = n at *
 have hnI : (n : Int) ≤ 40 := by omega
 have hn2 : (2 : Int) ≤ n := by omega
 have hk1 : (1 : Int) ≤ k := by omega
 have hkn : (k : Int) < n := by omega
 have hcI : (cap : Int) ≤ 9223372036854775807 := by omega
 have hncI : (n : Int) ≤ cap := by omega
 have hkc : ¬ cap = k := by omega
 have hk0 : (0 : Int) ≤ k := by omega
 have hkcap : (k : Int) ≤ cap := by omega
 have hkn' : (k : Int) ≤ n := by omega
 have hn0 : (0 : Int) ≤ n := by omega
 have hwk : IntKind.i64.wrap (k : Int) = (k : Int) := Go.IntWalk.i64_in _ ⟨by omega, by omega⟩
 have heI : (e : Int) < k := by omega
 have hn1 : ((n : Int) == 1) = false := by rw [Bool.eq_false_iff]; simp only [ne_eq, beq_iff_eq]; omega
 go_enter Tryz.func95, Tryz.ntmps95
 go_wp2_with fail
 refine (HHF.out _).mono ?_
 rintro v w1 ⟨rfl, hw1⟩
 obtain rfl : w = w1 := hw1.symm
 clear hw1
 go_wp2
 go_region_held3 (fun _ => True) (trivial)
  ((first
   | (go_at_call 95; refine (HIH.out _ (by repeat' (first | (with_reducible exact Below.refl _ _) | (with_reducible refine Below.drew ?_)))).mono ?_; rintro v w2 hp2; unfold pathPost at hp2; obtain ⟨s2, rfl, ho2, hb2⟩ := hp2; have HB2 : Hid (Below w.heap.size w w2) := ⟨hb2.os, hb2.tape, hb2.output, hb2.size, hb2.block⟩)
   | (go_at_call 119; refine (HSM.out _ (by exact HB2.out)).mono ?_; rintro v w3 ⟨rfl, hb3⟩; rw [HV.out]; have HB3 : Hid (Below w.heap.size w w3) := HB2.out.trans (hb3.mono HB2.out.size); have HO3 : Hid (w3.ownsRow w.heap.size 36 8 (.slice s2.a s2.n s2.cap) LR.length (digsC LR)) := owns_below ho2 hb3)
   | (refine step_appendV (by rfl) (.tmp 19) (.tmp 24) 41 (by rfl) w.heap.size 36 _ 8 8 Tryz.underlying41 Tryz.infoDigP rfl (by decide) (.slice s2.a s2.n s2.cap) LR.length (digsC LR) (by rfl) (HO3.out.alloc (.cells #[Value.int .u8 (d0.toNat : Int), Value.int .u8 (d1.toNat : Int), Value.int .u8 (d2.toNat : Int), Value.int .u8 (d3.toNat : Int), Value.int .u8 (d4.toNat : Int), Value.int .u8 (d5.toNat : Int), Value.int .u8 (d6.toNat : Int), Value.int .u8 (d7.toNat : Int)] 36)) ⟨w3.heap.size, 0, none⟩ 1 1 ([d0, d1, d2, d3, d4, d5, d6, d7].map u8c) (by rfl) rfl (SlV.alloc_new w3 ([d0, d1, d2, d3, d4, d5, d6, d7].map u8c) 36) (u8c_one _) (by have := HLR.out; unfold maxLen; omega) (by have := HLR.out; omega) (by have := HB3.out.size; simp; omega) ?_; intro a4 n4 c4 w4 ho4 hf4 hat4)
   | fail))
 all_goals
  have HO4 : Hid (w4.ownsRow w.heap.size 36 8 (.slice a4 n4 c4) (LR ++ [[d0, d1, d2, d3, d4, d5, d6, d7]]).length (digsC (LR ++ [[d0, d1, d2, d3, d4, d5, d6, d7]]))) := by
   rw [digsC_snoc, List.length_append]
   exact ho4
  have HB4 : Hid (Below w.heap.size w w4) := (HB3.out.alloc HB3.out.size _).trans (hf4.below (by have := HB3.out.size; simp; omega) (fun q hq => (HO3.out.lt q hq).1))
  clear ho4 hf4 hat4 ho2 hb2 hb3
  go_wp2
  go_returns
  exact ⟨⟨a4, n4, c4⟩, rfl, HO4.out, HB4.out⟩
set_option maxRecDepth 100000 in
set_option maxHeartbeats 4000000 in
theorem incl_hi (l : List (List UInt8)) (b o cap : Nat) (e : Nat) (LR : List (List UInt8)) (w : World) (h2 : 2 ≤ l.length) (h40 : l.length ≤ 40) (hcap : l.length ≤ cap) (hc : cap ≤ 9223372036854775807) (hs : SlD w (some ⟨b, o, none⟩) l) (he : halfN l.length ≤ e) (he2 : e < l.length) (hLR : LR.length ≤ 100)
  (hIH : ∀ W, Below w.heap.size w W → Calls Tryz.prog 95 #[.slice (some ⟨b, o + halfN l.length * 8, none⟩) (l.length - halfN l.length) (cap - halfN l.length), .int .i64 ((e - halfN l.length : Nat) : Int)] W (pathPost W LR)) :
  Calls Tryz.prog 95 #[.slice (some ⟨b, o, none⟩) l.length cap, .int .i64 (e : Int)] w (pathPost w (LR ++ [sumF 42 (l.take (halfN l.length))])) := by
 have hhb := halfN_bd l.length h2
 obtain ⟨d0, d1, d2, d3, d4, d5, d6, d7, hdd⟩ := list8 (sumF 42 (l.take (halfN l.length))) (sumF_length 41 _)
 have HHF : Hid (∀ w : World, Calls Tryz.prog 128 #[.int .i64 (l.length : Int)] w fun e w' => e = .returned (.int .i64 (halfN l.length : Int)) ∧ w' = w) := fun w => first_all _ _ (by omega) (by omega)
 have HSM : Hid (∀ W, Below w.heap.size w W → Calls Tryz.prog 119 #[.slice (some ⟨b, o, none⟩) (halfN l.length) cap] W fun e w' => e = .returned (dV [d0, d1, d2, d3, d4, d5, d6, d7]) ∧ Below W.heap.size W w') := fun W hW => by
  rw [← hdd]
  have h := sumP_any 42 (l.take (halfN l.length)) (some ⟨b, o, none⟩) cap W (by simp; omega) (by simp; omega) (by simp; omega) (by omega) ((hs.below hW).take _ (by omega))
  rw [List.length_take, Nat.min_eq_left (by omega)] at h
  exact h
 rw [hdd]
 have HIH : Hid (∀ W, Below w.heap.size w W → Calls Tryz.prog 95 #[.slice (some ⟨b, o + halfN l.length * 8, none⟩) (l.length - halfN l.length) (cap - halfN l.length), .int .i64 ((e - halfN l.length : Nat) : Int)] W (pathPost W LR)) := hIH
 have HV : Hid (dV [d0, d1, d2, d3, d4, d5, d6, d7] = .agg #[Value.int .u8 (d0.toNat : Int), Value.int .u8 (d1.toNat : Int), Value.int .u8 (d2.toNat : Int), Value.int .u8 (d3.toNat : Int), Value.int .u8 (d4.toNat : Int), Value.int .u8 (d5.toNat : Int), Value.int .u8 (d6.toNat : Int), Value.int .u8 (d7.toNat : Int)]) := rfl
 have HLR : Hid (LR.length ≤ 100) := hLR
 generalize halfN l.length = k at *
 clear hIH hdd hs
 generalize l.length = n at *
 have hnI : (n : Int) ≤ 40 := by omega
 have hn2 : (2 : Int) ≤ n := by omega
 have hk1 : (1 : Int) ≤ k := by omega
 have hkn : (k : Int) < n := by omega
 have hcI : (cap : Int) ≤ 9223372036854775807 := by omega
 have hncI : (n : Int) ≤ cap := by omega
 have hkc : ¬ cap = k := by omega
 have hk0 : (0 : Int) ≤ k := by omega
 have hkcap : (k : Int) ≤ cap := by omega
 have hkn' : (k : Int) ≤ n := by omega
 have hn0 : (0 : Int) ≤ n := by omega
 have hwk : IntKind.i64.wrap (k : Int) = (k : Int) := Go.IntWalk.i64_in _ ⟨by omega, by omega⟩
 have heI : ¬ (e : Int) < k := by omega
 have hek : (e : Int) - k = ((e - k : Nat) : Int) := by omega
 generalize hqq : (e - k : Nat) = ek at *
 have hwe : IntKind.i64.wrap (ek : Int) = (ek : Int) := Go.IntWalk.i64_in _ ⟨by omega, by omega⟩
 have hwd : IntKind.i64.wrap ((e : Int) - (k : Int)) = (ek : Int) := by rw [hek]; exact hwe
 clear hqq
 have hn1 : ((n : Int) == 1) = false := by rw [Bool.eq_false_iff]; simp only [ne_eq, beq_iff_eq]; omega
 have heN : (e : Int) ≤ 40 := by omega
 go_enter Tryz.func95, Tryz.ntmps95
 go_wp2_with fail
 refine (HHF.out _).mono ?_
 rintro v w1 ⟨rfl, hw1⟩
 obtain rfl : w = w1 := hw1.symm
 clear hw1
 go_wp2
 go_region_held3 (fun _ => True) (trivial)
  ((first
   | (go_at_call 95; refine (HIH.out _ (by repeat' (first | (with_reducible exact Below.refl _ _) | (with_reducible refine Below.drew ?_)))).mono ?_; rintro v w2 hp2; unfold pathPost at hp2; obtain ⟨s2, rfl, ho2, hb2⟩ := hp2; have HB2 : Hid (Below w.heap.size w w2) := ⟨hb2.os, hb2.tape, hb2.output, hb2.size, hb2.block⟩)
   | (go_at_call 119; refine (HSM.out _ (by exact HB2.out)).mono ?_; rintro v w3 ⟨rfl, hb3⟩; rw [HV.out]; have HB3 : Hid (Below w.heap.size w w3) := HB2.out.trans (hb3.mono HB2.out.size); have HO3 : Hid (w3.ownsRow w.heap.size 36 8 (.slice s2.a s2.n s2.cap) LR.length (digsC LR)) := owns_below ho2 hb3)
   | (refine step_appendV (by rfl) (.tmp 32) (.tmp 37) 41 (by rfl) w.heap.size 36 _ 8 8 Tryz.underlying41 Tryz.infoDigP rfl (by decide) (.slice s2.a s2.n s2.cap) LR.length (digsC LR) (by rfl) (HO3.out.alloc (.cells #[Value.int .u8 (d0.toNat : Int), Value.int .u8 (d1.toNat : Int), Value.int .u8 (d2.toNat : Int), Value.int .u8 (d3.toNat : Int), Value.int .u8 (d4.toNat : Int), Value.int .u8 (d5.toNat : Int), Value.int .u8 (d6.toNat : Int), Value.int .u8 (d7.toNat : Int)] 36)) ⟨w3.heap.size, 0, none⟩ 1 1 ([d0, d1, d2, d3, d4, d5, d6, d7].map u8c) (by rfl) rfl (SlV.alloc_new w3 ([d0, d1, d2, d3, d4, d5, d6, d7].map u8c) 36) (u8c_one _) (by have := HLR.out; unfold maxLen; omega) (by have := HLR.out; omega) (by have := HB3.out.size; simp; omega) ?_; intro a4 n4 c4 w4 ho4 hf4 hat4)
   | fail))
 all_goals
  have HO4 : Hid (w4.ownsRow w.heap.size 36 8 (.slice a4 n4 c4) (LR ++ [[d0, d1, d2, d3, d4, d5, d6, d7]]).length (digsC (LR ++ [[d0, d1, d2, d3, d4, d5, d6, d7]]))) := by
   rw [digsC_snoc, List.length_append]
   exact ho4
  have HB4 : Hid (Below w.heap.size w w4) := (HB3.out.alloc HB3.out.size _).trans (hf4.below (by have := HB3.out.size; simp; omega) (fun q hq => (HO3.out.lt q hq).1))
  clear ho4 hf4 hat4 ho2 hb2 hb3
  go_wp2
  go_returns
  exact ⟨⟨a4, n4, c4⟩, rfl, HO4.out, HB4.out⟩
end Go.Proofs.YtekegfbjbainhaaGreat
