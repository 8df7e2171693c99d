import Derived.Test.YtekegfbjbainhaaKJoin4
import Derived.Test.YtekegfbjbainhaaKJoin3
import Derived.Test.YtekegfbjbainhaaKJoin14
import Derived.Test.YtekegfbjbainhaaKPr8
import Derived.Deep.RegionHeld3
import Derived.Deep.RegionHeldLaw
import Derived.Test.YtekegfbjbainhaaKJoin13
set_option linter.unusedVariables false
set_option linter.unusedSimpArgs false

namespace Go.Proofs.Ytekegfbjbainhaa
open Go.RowKit
attribute [local go_sem ↓] Go.wp_at_zero Go.wp_at_succ
def pathF : Nat → Nat → List (List UInt8) → List (List UInt8)
 | 0, _, _ => []
 | f + 1, e, l => if l.length ≤ 1 then [] else if e < halfN l.length then pathF f e (l.take (halfN l.length)) ++ [sumF 42 (l.drop (halfN l.length))] else pathF f (e - halfN l.length) (l.drop (halfN l.length)) ++ [sumF 42 (l.take (halfN l.length))]
def extL : Nat → Nat → List (List UInt8) → Bool → List (List UInt8)
 | 0, _, _, _ => []
 | f + 1, m, l, own => if m = l.length then (if own = true then [] else [sumF 42 l]) else if m ≤ halfN l.length then extL f m (l.take (halfN l.length)) own ++ [sumF 42 (l.drop (halfN l.length))] else extL f (m - halfN l.length) (l.drop (halfN l.length)) false ++ [sumF 42 (l.take (halfN l.length))]
theorem pathF_8 : ∀ (f e : Nat) (l : List (List UInt8)), ∀ d ∈ pathF f e l, d.length = 8
 | 0, _, _, d, hd => by cases hd
 | f + 1, e, l, d, hd => by
  unfold pathF at hd
  split at hd
  ·cases hd
  ·split at hd
   ·rcases List.mem_append.1 hd with h | h
    ·exact pathF_8 f _ _ d h
    ·rw [List.mem_singleton.1 h]; exact sumF_length 41 _
   ·rcases List.mem_append.1 hd with h | h
    ·exact pathF_8 f _ _ d h
    ·rw [List.mem_singleton.1 h]; exact sumF_length 41 _
theorem extL_8 : ∀ (f m : Nat) (l : List (List UInt8)) (own : Bool), ∀ d ∈ extL f m l own, d.length = 8
 | 0, _, _, _, d, hd => by cases hd
 | f + 1, m, l, own, d, hd => by
  unfold extL at hd
  split at hd
  ·split at hd
   ·cases hd
   ·rw [List.mem_singleton.1 hd]; exact sumF_length 41 _
  ·split at hd
   ·rcases List.mem_append.1 hd with h | h
    ·exact extL_8 f _ _ _ d h
    ·rw [List.mem_singleton.1 h]; exact sumF_length 41 _
   ·rcases List.mem_append.1 hd with h | h
    ·exact extL_8 f _ _ _ d h
    ·rw [List.mem_singleton.1 h]; exact sumF_length 41 _
theorem pathF_len : ∀ (f e : Nat) (l : List (List UInt8)), (pathF f e l).length ≤ f
 | 0, _, _ => Nat.zero_le _
 | f + 1, e, l => by
  unfold pathF
  have h1 := pathF_len f e (l.take (halfN l.length))
  have h2 := pathF_len f (e - halfN l.length) (l.drop (halfN l.length))
  split
  ·simp
  ·split <;> simp <;> omega
theorem extL_len : ∀ (f m : Nat) (l : List (List UInt8)) (own : Bool), (extL f m l own).length ≤ f
 | 0, _, _, _ => Nat.zero_le _
 | f + 1, m, l, own => by
  unfold extL
  have h1 := extL_len f m (l.take (halfN l.length)) own
  have h2 := extL_len f (m - halfN l.length) (l.drop (halfN l.length)) false
  split
  ·split <;> simp
  ·split <;> simp <;> omega
def pathPost (W : World) (L : List (List UInt8)) (v : Ending) (w' : World) : Prop := ∃ s : SlR, v = .returned (.slice s.a s.n s.cap) ∧ w'.ownsRow W.heap.size 45 8 (.slice s.a s.n s.cap) L.length (digsC L) ∧ Below W.heap.size W w'
theorem digsC_snoc (L : List (List UInt8)) (d : List UInt8) : digsC (L ++ [d]) = digsC L ++ d.map u8c := by
 unfold digsC; rw [List.flatMap_append]; simp
set_option maxRecDepth 100000 in
set_option maxHeartbeats 4000000 in
theorem incl_lo (l : List (List UInt8)) (b o cap : Nat) (e : Nat) (LR : List (List UInt8)) (w : World) (h2 : 2 ≤ l.length) (h40 : l.length ≤ 40) (hcap : l.length ≤ cap) (hc : cap ≤ 9223372036854775807) (hs : SlD w (some ⟨b, o, none⟩) l) (he : e < halfN l.length) (hLR : LR.length ≤ 100)
  (hIH : ∀ W, Below w.heap.size w W → Calls Try.prog 46 #[.slice (some ⟨b, o, none⟩) (halfN l.length) cap, .int .i64 (e : Int)] W (pathPost W LR)) :
  Calls Try.prog 46 #[.slice (some ⟨b, o, none⟩) l.length cap, .int .i64 (e : Int)] w (pathPost w (LR ++ [sumF 42 (l.drop (halfN l.length))])) := by
 have hhb := halfN_bd l.length h2
 obtain ⟨d0, d1, d2, d3, d4, d5, d6, d7, hdd⟩ := list8 (sumF 42 (l.drop (halfN l.length))) (sumF_length 41 _)
 have HHF : Hid (∀ w : World, Calls Try.prog 66 #[.int .i64 (l.length : Int)] w fun e w' => e = .returned (.int .i64 (halfN l.length : Int)) ∧ w' = w) := fun w => first_all _ _ (by omega) (by omega)
 have HSM : Hid (∀ W, Below w.heap.size w W → Calls Try.prog 67 #[.slice (some ⟨b, o + halfN l.length * 8, none⟩) (l.length - halfN l.length) (cap - halfN l.length)] W fun e w' => e = .returned (dV [d0, d1, d2, d3, d4, d5, d6, d7]) ∧ Below W.heap.size W w') := fun W hW => by
  rw [← hdd]
  have h := sumP_any 42 (l.drop (halfN l.length)) (some ⟨b, o + halfN l.length * 8, none⟩) (cap - halfN l.length) W (by simp; omega) (by simp; omega) (by simp; omega) (by omega) ((hs.below hW).drop _ (by omega))
  rw [List.length_drop] at h
  exact h
 rw [hdd]
 have HIH : Hid (∀ W, Below w.heap.size w W → Calls Try.prog 46 #[.slice (some ⟨b, o, none⟩) (halfN l.length) cap, .int .i64 (e : Int)] W (pathPost W LR)) := hIH
 have HV : Hid (dV [d0, d1, d2, d3, d4, d5, d6, d7] = .agg #[Value.int .u8 (d0.toNat : Int), Value.int .u8 (d1.toNat : Int), Value.int .u8 (d2.toNat : Int), Value.int .u8 (d3.toNat : Int), Value.int .u8 (d4.toNat : Int), Value.int .u8 (d5.toNat : Int), Value.int .u8 (d6.toNat : Int), Value.int .u8 (d7.toNat : Int)]) := rfl
 have HLR : Hid (LR.length ≤ 100) := hLR
 generalize halfN l.length = k at *
 clear hIH hdd hs
 generalize l.length = n at *
 have hnI : (n : Int) ≤ 40 := by omega
 have hn2 : (2 : Int) ≤ n := by omega
 have hk1 : (1 : Int) ≤ k := by omega
 have hkn : (k : Int) < n := by omega
 have hcI : (cap : Int) ≤ 9223372036854775807 := by omega
 have hncI : (n : Int) ≤ cap := by omega
 have hkc : ¬ cap = k := by omega
 have hk0 : (0 : Int) ≤ k := by omega
 have hkcap : (k : Int) ≤ cap := by omega
 have hkn' : (k : Int) ≤ n := by omega
 have hn0 : (0 : Int) ≤ n := by omega
 have hwk : IntKind.i64.wrap (k : Int) = (k : Int) := Go.IntWalk.i64_in _ ⟨by omega, by omega⟩
 have heI : (e : Int) < k := by omega
 have hn1 : ((n : Int) == 1) = false := by rw [Bool.eq_false_iff]; simp only [ne_eq, beq_iff_eq]; omega
 go_enter Try.func46, Try.ntmps46
 go_wp2_with fail
 refine (HHF.out _).mono ?_
 rintro v w1 ⟨rfl, hw1⟩
 obtain rfl : w = w1 := hw1.symm
 clear hw1
 go_wp2
 go_region_held3 (fun _ => True) (trivial)
  ((first
   | (go_at_call 46; refine (HIH.out _ (by repeat' (first | (with_reducible exact Below.refl _ _) | (with_reducible refine Below.drew ?_)))).mono ?_; rintro v w2 hp2; unfold pathPost at hp2; obtain ⟨s2, rfl, ho2, hb2⟩ := hp2; have HB2 : Hid (Below w.heap.size w w2) := ⟨hb2.os, hb2.tape, hb2.output, hb2.size, hb2.block⟩)
   | (go_at_call 67; refine (HSM.out _ (by exact HB2.out)).mono ?_; rintro v w3 ⟨rfl, hb3⟩; rw [HV.out]; have HB3 : Hid (Below w.heap.size w w3) := HB2.out.trans (hb3.mono HB2.out.size); have HO3 : Hid (w3.ownsRow w.heap.size 45 8 (.slice s2.a s2.n s2.cap) LR.length (digsC LR)) := owns_below ho2 hb3)
   | (refine step_appendV (by rfl) (.tmp 19) (.tmp 24) 73 (by rfl) w.heap.size 45 _ 8 8 Try.underlying73 Try.infoDigP rfl (by decide) (.slice s2.a s2.n s2.cap) LR.length (digsC LR) (by rfl) (HO3.out.alloc (.cells #[Value.int .u8 (d0.toNat : Int), Value.int .u8 (d1.toNat : Int), Value.int .u8 (d2.toNat : Int), Value.int .u8 (d3.toNat : Int), Value.int .u8 (d4.toNat : Int), Value.int .u8 (d5.toNat : Int), Value.int .u8 (d6.toNat : Int), Value.int .u8 (d7.toNat : Int)] 45)) ⟨w3.heap.size, 0, none⟩ 1 1 ([d0, d1, d2, d3, d4, d5, d6, d7].map u8c) (by rfl) rfl (SlV.alloc_new w3 ([d0, d1, d2, d3, d4, d5, d6, d7].map u8c) 45) (u8c_one _) (by have := HLR.out; unfold maxLen; omega) (by have := HLR.out; omega) (by have := HB3.out.size; simp; omega) ?_; intro a4 n4 c4 w4 ho4 hf4 hat4)
   | fail))
 all_goals
  have HO4 : Hid (w4.ownsRow w.heap.size 45 8 (.slice a4 n4 c4) (LR ++ [[d0, d1, d2, d3, d4, d5, d6, d7]]).length (digsC (LR ++ [[d0, d1, d2, d3, d4, d5, d6, d7]]))) := by
   rw [digsC_snoc, List.length_append]
   exact ho4
  have HB4 : Hid (Below w.heap.size w w4) := (HB3.out.alloc HB3.out.size _).trans (hf4.below (by have := HB3.out.size; simp; omega) (fun q hq => (HO3.out.lt q hq).1))
  clear ho4 hf4 hat4 ho2 hb2 hb3
  go_wp2
  go_returns
  exact ⟨⟨a4, n4, c4⟩, rfl, HO4.out, HB4.out⟩
set_option maxRecDepth 100000 in
set_option maxHeartbeats 4000000 in
theorem incl_hi (l : List (List UInt8)) (b o cap : Nat) (e : Nat) (LR : List (List UInt8)) (w : World) (h2 : 2 ≤ l.length) (h40 : l.length ≤ 40) (hcap : l.length ≤ cap) (hc : cap ≤ 9223372036854775807) (hs : SlD w (some ⟨b, o, none⟩) l) (he : halfN l.length ≤ e) (he2 : e < l.length) (hLR : LR.length ≤ 100)
  (hIH : ∀ W, Below w.heap.size w W → Calls Try.prog 46 #[.slice (some ⟨b, o + halfN l.length * 8, none⟩) (l.length - halfN l.length) (cap - halfN l.length), .int .i64 ((e - halfN l.length : Nat) : Int)] W (pathPost W LR)) :
  Calls Try.prog 46 #[.slice (some ⟨b, o, none⟩) l.length cap, .int .i64 (e : Int)] w (pathPost w (LR ++ [sumF 42 (l.take (halfN l.length))])) := by
 have hhb := halfN_bd l.length h2
 obtain ⟨d0, d1, d2, d3, d4, d5, d6, d7, hdd⟩ := list8 (sumF 42 (l.take (halfN l.length))) (sumF_length 41 _)
 have HHF : Hid (∀ w : World, Calls Try.prog 66 #[.int .i64 (l.length : Int)] w fun e w' => e = .returned (.int .i64 (halfN l.length : Int)) ∧ w' = w) := fun w => first_all _ _ (by omega) (by omega)
 have HSM : Hid (∀ W, Below w.heap.size w W → Calls Try.prog 67 #[.slice (some ⟨b, o, none⟩) (halfN l.length) cap] W fun e w' => e = .returned (dV [d0, d1, d2, d3, d4, d5, d6, d7]) ∧ Below W.heap.size W w') := fun W hW => by
  rw [← hdd]
  have h := sumP_any 42 (l.take (halfN l.length)) (some ⟨b, o, none⟩) cap W (by simp; omega) (by simp; omega) (by simp; omega) (by omega) ((hs.below hW).take _ (by omega))
  rw [List.length_take, Nat.min_eq_left (by omega)] at h
  exact h
 rw [hdd]
 have HIH : Hid (∀ W, Below w.heap.size w W → Calls Try.prog 46 #[.slice (some ⟨b, o + halfN l.length * 8, none⟩) (l.length - halfN l.length) (cap - halfN l.length), .int .i64 ((e - halfN l.length : Nat) : Int)] W (pathPost W LR)) := hIH
 have HV : Hid (dV [d0, d1, d2, d3, d4, d5, d6, d7] = .agg #[Value.int .u8 (d0.toNat : Int), Value.int .u8 (d1.toNat : Int), Value.int .u8 (d2.toNat : Int), Value.int .u8 (d3.toNat : Int), Value.int .u8 (d4.toNat : Int), Value.int .u8 (d5.toNat : Int), Value.int .u8 (d6.toNat : Int), Value.int .u8 (d7.toNat : Int)]) := rfl
 have HLR : Hid (LR.length ≤ 100) := hLR
 generalize halfN l.length = k at *
 clear hIH hdd hs
 generalize l.length = n at *
 have hnI : (n : Int) ≤ 40 := by omega
 have hn2 : (2 : Int) ≤ n := by omega
 have hk1 : (1 : Int) ≤ k := by omega
 have hkn : (k : Int) < n := by omega
 have hcI : (cap : Int) ≤ 9223372036854775807 := by omega
 have hncI : (n : Int) ≤ cap := by omega
 have hkc : ¬ cap = k := by omega
 have hk0 : (0 : Int) ≤ k := by omega
 have hkcap : (k : Int) ≤ cap := by omega
 have hkn' : (k : Int) ≤ n := by omega
 have hn0 : (0 : Int) ≤ n := by omega
 have hwk : IntKind.i64.wrap (k : Int) = (k : Int) := Go.IntWalk.i64_in _ ⟨by omega, by omega⟩
 have heI : ¬ (e : Int) < k := by omega
 have hek : (e : Int) - k = ((e - k : Nat) : Int) := by omega
 generalize hqq : (e - k : Nat) = ek at *
 have hwe : IntKind.i64.wrap (ek : Int) = (ek : Int) := Go.IntWalk.i64_in _ ⟨by omega, by omega⟩
 have hwd : IntKind.i64.wrap ((e : Int) - (k : Int)) = (ek : Int) := by rw [hek]; exact hwe
 clear hqq
 have hn1 : ((n : Int) == 1) = false := by rw [Bool.eq_false_iff]; simp only [ne_eq, beq_iff_eq]; omega
 have heN : (e : Int) ≤ 40 := by omega
 go_enter Try.func46, Try.ntmps46
 go_wp2_with fail
 refine (HHF.out _).mono ?_
 rintro v w1 ⟨rfl, hw1⟩
 obtain rfl : w = w1 := hw1.symm
 clear hw1
 go_wp2
 go_region_held3 (fun _ => True) (trivial)
  ((first
   | (go_at_call 46; refine (HIH.out _ (by repeat' (first | (with_reducible exact Below.refl _ _) | (with_reducible refine Below.drew ?_)))).mono ?_; rintro v w2 hp2; unfold pathPost at hp2; obtain ⟨s2, rfl, ho2, hb2⟩ := hp2; have HB2 : Hid (Below w.heap.size w w2) := ⟨hb2.os, hb2.tape, hb2.output, hb2.size, hb2.block⟩)
   | (go_at_call 67; refine (HSM.out _ (by exact HB2.out)).mono ?_; rintro v w3 ⟨rfl, hb3⟩; rw [HV.out]; have HB3 : Hid (Below w.heap.size w w3) := HB2.out.trans (hb3.mono HB2.out.size); have HO3 : Hid (w3.ownsRow w.heap.size 45 8 (.slice s2.a s2.n s2.cap) LR.length (digsC LR)) := owns_below ho2 hb3)
   | (refine step_appendV (by rfl) (.tmp 32) (.tmp 37) 73 (by rfl) w.heap.size 45 _ 8 8 Try.underlying73 Try.infoDigP rfl (by decide) (.slice s2.a s2.n s2.cap) LR.length (digsC LR) (by rfl) (HO3.out.alloc (.cells #[Value.int .u8 (d0.toNat : Int), Value.int .u8 (d1.toNat : Int), Value.int .u8 (d2.toNat : Int), Value.int .u8 (d3.toNat : Int), Value.int .u8 (d4.toNat : Int), Value.int .u8 (d5.toNat : Int), Value.int .u8 (d6.toNat : Int), Value.int .u8 (d7.toNat : Int)] 45)) ⟨w3.heap.size, 0, none⟩ 1 1 ([d0, d1, d2, d3, d4, d5, d6, d7].map u8c) (by rfl) rfl (SlV.alloc_new w3 ([d0, d1, d2, d3, d4, d5, d6, d7].map u8c) 45) (u8c_one _) (by have := HLR.out; unfold maxLen; omega) (by have := HLR.out; omega) (by have := HB3.out.size; simp; omega) ?_; intro a4 n4 c4 w4 ho4 hf4 hat4)
   | fail))
 all_goals
  have HO4 : Hid (w4.ownsRow w.heap.size 45 8 (.slice a4 n4 c4) (LR ++ [[d0, d1, d2, d3, d4, d5, d6, d7]]).length (digsC (LR ++ [[d0, d1, d2, d3, d4, d5, d6, d7]]))) := by
   rw [digsC_snoc, List.length_append]
   exact ho4
  have HB4 : Hid (Below w.heap.size w w4) := (HB3.out.alloc HB3.out.size _).trans (hf4.below (by have := HB3.out.size; simp; omega) (fun q hq => (HO3.out.lt q hq).1))
  clear ho4 hf4 hat4 ho2 hb2 hb3
  go_wp2
  go_returns
  exact ⟨⟨a4, n4, c4⟩, rfl, HO4.out, HB4.out⟩
end Go.Proofs.Ytekegfbjbainhaa


namespace Go.Proofs.Ytekegfbjbainhaa
open Go.RowKit
theorem sumF_two (f : Nat) {l : List (List UInt8)} (h : 2 ≤ l.length) : sumF (f + 1) l = digB (1 :: (sumF f (l.take (halfN l.length)) ++ sumF f (l.drop (halfN l.length)))) := by
 match l, h with
 | [], h => simp at h
 | [x], h => simp at h
 | x :: y :: t, _ => rfl
theorem sumF_fuel : ∀ (f g : Nat) (l : List (List UInt8)), l.length < f → l.length < g → sumF f l = sumF g l
 | 0, _, l, h, _ => absurd h (Nat.not_lt_zero _)
 | _ + 1, 0, l, _, h => absurd h (Nat.not_lt_zero _)
 | f + 1, g + 1, [], _, _ => rfl
 | f + 1, g + 1, [x], _, _ => rfl
 | f + 1, g + 1, x :: y :: t, h1, h2 => by
  have h3 : 2 ≤ (x :: y :: t).length := by simp
  have hb := halfN_bd (x :: y :: t).length h3
  rw [sumF_two f h3, sumF_two g h3, sumF_fuel f g _ (by rw [List.length_take]; omega) (by rw [List.length_take]; omega), sumF_fuel f g _ (by rw [List.length_drop]; omega) (by rw [List.length_drop]; omega)]
theorem sum_two {l : List (List UInt8)} (h : 2 ≤ l.length) (h40 : l.length ≤ 40) : sumF 42 l = digB (1 :: (sumF 42 (l.take (halfN l.length)) ++ sumF 42 (l.drop (halfN l.length)))) := by
 have hb := halfN_bd l.length h
 rw [sumF_two 41 h, sumF_fuel 41 42 _ (by rw [List.length_take]; omega) (by rw [List.length_take]; omega), sumF_fuel 41 42 _ (by rw [List.length_drop]; omega) (by rw [List.length_drop]; omega)]
theorem path_thr : ∀ (f e : Nat) (l : List (List UInt8)), l.length ≤ f → l.length ≤ 40 → e < l.length → thrF e l.length (l[e]?.getD []) (pathF f e l).reverse = (sumF 42 l, true)
 | 0, e, l, hf, _, he => by omega
 | f + 1, e, l, hf, h40, he => by
  unfold pathF
  by_cases h1 : l.length ≤ 1
  ·rw [if_pos h1]
   match l, h1, he with
   | [], _, he => simp at he
   | [x], _, he =>
    have : e = 0 := by simp at he; omega
    subst this
    rfl
   | x :: y :: t, h1, _ => simp at h1
  ·rw [if_neg h1]
   have hb := halfN_bd l.length (by omega)
   by_cases h2 : e < halfN l.length
   ·rw [if_pos h2, List.reverse_append, List.reverse_singleton, List.singleton_append, thr_lt (by omega) h2]
    have ht : (l.take (halfN l.length)).length = halfN l.length := by rw [List.length_take]; omega
    have ih := path_thr f e (l.take (halfN l.length)) (by omega) (by omega) (by omega)
    rw [ht, List.getElem?_take, if_pos h2] at ih
    rw [ih, sum_two (by omega) h40]
   ·rw [if_neg h2, List.reverse_append, List.reverse_singleton, List.singleton_append, thr_ge (by omega) h2]
    have ht : (l.drop (halfN l.length)).length = l.length - halfN l.length := by rw [List.length_drop]
    have ih := path_thr f (e - halfN l.length) (l.drop (halfN l.length)) (by omega) (by omega) (by omega)
    rw [ht, List.getElem?_drop, show halfN l.length + (e - halfN l.length) = e by omega] at ih
    rw [ih, sum_two (by omega) h40]
theorem incl_own {l : List (List UInt8)} {e : Nat} (h40 : l.length ≤ 40) (he : e < l.length) : inclF (l.length : Int) (e : Int) (sumF 42 l) l[e] (pathF 42 e l).reverse = true := by
 have h := path_thr 42 e l (by omega) h40 he
 rw [List.getElem?_eq_getElem he] at h
 simp only [Option.getD_some] at h
 unfold inclF
 rw [if_neg (by omega)]
 simp only [Int.toNat_natCast, h]
 simp
set_option maxRecDepth 100000 in
theorem half_same : ∀ n : Fin 41, ∀ m : Fin 41, halfN n.val < m.val → m.val ≤ n.val → halfN m.val = halfN n.val := by decide +kernel
theorem ext_both : ∀ (f m : Nat) (l : List (List UInt8)) (own : Bool) (S : List UInt8), l.length ≤ f → l.length ≤ 40 → 1 ≤ m → m ≤ l.length → (own = true → S = sumF 42 (l.take m)) →
  bothF m l.length own S (extL f m l own).reverse = some (sumF 42 (l.take m), sumF 42 l)
 | 0, m, l, own, S, hf, _, h1, h2, _ => by omega
 | f + 1, m, l, own, S, hf, h40, h1, h2, hS => by
  unfold extL
  by_cases hm : m = l.length
  ·rw [if_pos hm]
   subst hm
   rw [List.take_length] at hS ⊢
   cases own with
   | true =>
    rw [if_pos rfl, ← hS rfl]
    unfold bothF
    simp
   | false =>
    rw [if_neg (by simp)]
    unfold bothF
    simp
  ·rw [if_neg hm]
   have hb := halfN_bd l.length (by omega)
   by_cases hh : m ≤ halfN l.length
   ·rw [if_pos hh, List.reverse_append, List.reverse_singleton, List.singleton_append]
    have ht : (l.take (halfN l.length)).length = halfN l.length := by rw [List.length_take]; omega
    have hmm : (l.take (halfN l.length)).take m = l.take m := by rw [List.take_take]; congr 1; omega
    have ih := ext_both f m (l.take (halfN l.length)) own S (by omega) (by omega) h1 (by omega) (fun e => by rw [hmm]; exact hS e)
    rw [ht, hmm] at ih
    unfold bothF
    rw [if_neg (fun e => hm e.1), if_neg hm, if_pos hh, ih, sum_two (l := l) (by omega) h40]
    rfl
   ·rw [if_neg hh, List.reverse_append, List.reverse_singleton, List.singleton_append]
    have ht : (l.drop (halfN l.length)).length = l.length - halfN l.length := by rw [List.length_drop]
    have ih := ext_both f (m - halfN l.length) (l.drop (halfN l.length)) false S (by omega) (by omega) (by omega) (by omega) (fun e => by cases e)
    rw [ht] at ih
    have hsame := half_same ⟨l.length, by omega⟩ ⟨m, by omega⟩ (by simp only; omega) (by simp only; omega)
    simp only at hsame
    have hml : (l.take m).length = m := by rw [List.length_take]; omega
    have e1 : sumF 42 (l.take m) = digB (1 :: (sumF 42 (l.take (halfN l.length)) ++ sumF 42 ((l.drop (halfN l.length)).take (m - halfN l.length)))) := by
     rw [sum_two (l := l.take m) (by omega) (by omega), hml, hsame, List.take_take, List.drop_take, Nat.min_eq_left (by omega)]
    unfold bothF
    rw [if_neg (fun e => hm e.1), if_neg hm, if_neg hh, ih, e1, sum_two (l := l) (by omega) h40]
    rfl
theorem ext_own {l : List (List UInt8)} {m : Nat} (h40 : l.length ≤ 40) (h1 : 1 ≤ m) (h2 : m ≤ l.length) : extF (m : Int) (l.length : Int) (sumF 42 (l.take m)) (sumF 42 l) (extL 42 m l true).reverse = true := by
 have h := ext_both 42 m l true (sumF 42 (l.take m)) (by omega) h40 h1 h2 (fun _ => rfl)
 unfold extF
 rw [if_neg (by omega), if_neg (by omega)]
 simp only [Int.toNat_natCast, h]
 simp [bothB]
end Go.Proofs.Ytekegfbjbainhaa


namespace Go.Proofs.Ytekegfbjbainhaa
open Go.RowKit
def hpA (l : List ItR) (key val : List UInt8) (i : Nat) : List ItR :=
 if i ≤ placeN l key then l.take i
 else l.take (placeN l key) ++ [⟨key, val, 0⟩] ++ (l.take i).drop (if thereB l key then placeN l key + 1 else placeN l key)
theorem place_ne {l : List ItR} {key : List UInt8} (hr : Rising l) {i : Nat} (hi : i < l.length) (hp : i ≠ placeN l key) : l[i].key ≠ key := by
 intro e
 rcases Nat.lt_or_gt_of_ne hp with h | h
 ·have := rising_place l key hr i hi
  unfold lessK at this
  rw [e, less_irrefl] at this
  simp at this; omega
 ·have h1 := rising_place l key hr (placeN l key) (by omega)
  have h2 := List.pairwise_iff_getElem.1 hr (placeN l key) i (by omega) hi h
  rw [e] at h2
  unfold lessK at h1
  rw [h2] at h1
  simp at h1
theorem place_eq {l : List ItR} {key : List UInt8} {i : Nat} (hi : i < l.length) (hp : i = placeN l key) : thereB l key = (l[i].key == key) := by
 subst hp
 unfold thereB
 rw [List.getElem?_eq_getElem hi]
 rfl
theorem hpA_zero (l : List ItR) (key val : List UInt8) : hpA l key val 0 = [] := by unfold hpA; simp
theorem hpA_low {l : List ItR} {key : List UInt8} (val : List UInt8) {i : Nat} (hi : i < l.length) (hp : i < placeN l key) : hpA l key val (i + 1) = hpA l key val i ++ [l[i]] := by
 unfold hpA
 rw [if_pos (by omega), if_pos (by omega), List.take_succ_eq_append_getElem hi]
theorem hpA_there {l : List ItR} {key : List UInt8} (val : List UInt8) {i : Nat} (hi : i < l.length) (hp : i = placeN l key) (ht : thereB l key = true) : hpA l key val (i + 1) = hpA l key val i ++ [⟨key, val, 0⟩] := by
 unfold hpA
 rw [if_neg (show ¬ i + 1 ≤ placeN l key by omega), if_pos (show i ≤ placeN l key by omega), ht, ← hp]
 simp
theorem hpA_new {l : List ItR} {key : List UInt8} (val : List UInt8) {i : Nat} (hi : i < l.length) (hp : i = placeN l key) (ht : thereB l key = false) : hpA l key val (i + 1) = hpA l key val i ++ [⟨key, val, 0⟩] ++ [l[i]] := by
 unfold hpA
 rw [if_neg (show ¬ i + 1 ≤ placeN l key by omega), if_pos (show i ≤ placeN l key by omega), ht, ← hp]
 have e : (l.take (i + 1)).drop i = [l[i]] := by
  rw [List.take_succ_eq_append_getElem hi, List.drop_append_of_le_length (by simp; omega), List.drop_eq_nil_of_le (by simp; omega)]
  rfl
 simp [e]
theorem hpA_up {l : List ItR} {key : List UInt8} (val : List UInt8) {i : Nat} (hi : i < l.length) (hp : placeN l key < i) : hpA l key val (i + 1) = hpA l key val i ++ [l[i]] := by
 unfold hpA
 rw [if_neg (show ¬ i + 1 ≤ placeN l key by omega), if_neg (show ¬ i ≤ placeN l key by omega), List.take_succ_eq_append_getElem hi, List.drop_append_of_le_length (by simp; split <;> omega)]
 simp
theorem hpA_end {l : List ItR} {key : List UInt8} (val : List UInt8) (hp : placeN l key < l.length) : hpA l key val l.length = putN l key val := by
 unfold hpA putN
 rw [if_neg (by omega), List.take_length]
theorem hpA_last {l : List ItR} {key : List UInt8} (val : List UInt8) (hp : ¬ placeN l key < l.length) : hpA l key val l.length ++ [⟨key, val, 0⟩] = putN l key val := by
 have h1 := placeN_le l key
 have ht : thereB l key = false := by
  cases h : thereB l key with
  | false => rfl
  | true => exact absurd (thereB_lt h) hp
 unfold hpA putN
 rw [if_pos (by omega), ht, show placeN l key = l.length by omega]
 simp
theorem hpA_len {l : List ItR} (key val : List UInt8) (i : Nat) (hi : i ≤ l.length) : (hpA l key val i).length ≤ i + 1 := by
 unfold hpA
 split
 ·simp; omega
 ·simp; split <;> omega
def htA (l : List ItR) (key : List UInt8) (i : Nat) : List ItR := (l.take i).filter (fun x => x.key != key)
theorem htA_succ {l : List ItR} {key : List UInt8} {i : Nat} (hi : i < l.length) : htA l key (i + 1) = htA l key i ++ (if l[i].key != key then [l[i]] else []) := by
 unfold htA
 rw [List.take_succ_eq_append_getElem hi, List.filter_append]
 congr 1
 by_cases h : (l[i].key != key) = true <;> simp [h]
theorem htA_len (l : List ItR) (key : List UInt8) (i : Nat) : (htA l key i).length ≤ l.length := by
 unfold htA
 exact Nat.le_trans (List.length_filter_le _ _) (List.length_take_le' _ _)
theorem htA_end {l : List ItR} {key : List UInt8} (hr : Rising l) : htA l key l.length = if thereB l key then delN l key else l := by
 unfold htA
 rw [List.take_length]
 cases ht : thereB l key with
 | true =>
  have hp := thereB_lt ht
  have he := place_eq hp rfl
  rw [ht] at he
  simp only [if_true]
  unfold delN
  have e : l = l.take (placeN l key) ++ l[placeN l key] :: l.drop (placeN l key + 1) := by
   rw [List.getElem_cons_drop, List.take_append_drop]
  have h1 : (l.take (placeN l key)).filter (fun x => x.key != key) = l.take (placeN l key) := by
   rw [List.filter_eq_self]
   intro x hx
   obtain ⟨i, hi, rfl⟩ := List.mem_iff_getElem.1 hx
   have hi' : i < placeN l key := by simp at hi; omega
   rw [List.getElem_take]
   simpa using place_ne hr (by omega) (by omega : i ≠ placeN l key)
  have h2 : (l.drop (placeN l key + 1)).filter (fun x => x.key != key) = l.drop (placeN l key + 1) := by
   rw [List.filter_eq_self]
   intro x hx
   obtain ⟨i, hi, rfl⟩ := List.mem_iff_getElem.1 hx
   rw [List.getElem_drop]
   simp at hi
   simpa using place_ne hr (by omega) (by omega : placeN l key + 1 + i ≠ placeN l key)
  have h0 : (l[placeN l key].key != key) = false := by rw [bne, ← he]; rfl
  have := congrArg (List.filter (fun x => x.key != key)) e
  rw [List.filter_append, List.filter_cons, h0, h1, h2] at this
  simpa using this
 | false =>
  simp only [Bool.false_eq_true, if_false]
  rw [List.filter_eq_self]
  intro x hx
  obtain ⟨i, hi, rfl⟩ := List.mem_iff_getElem.1 hx
  by_cases hp : i = placeN l key
  ·have := place_eq hi hp
   rw [ht] at this
   rw [bne, ← this]; rfl
  ·simpa using place_ne hr hi hp
theorem entsC_cells {w : World} {a : Option Addr} {el : List (SlR × SlR)} (h : SlV w a (entsC el)) (i : Nat) (hi : i < el.length) : ∃ b o, a = some ⟨b, o, none⟩ ∧ b < w.heap.size ∧ w.cell? ⟨b, o + i * 2, none⟩ = some el[i].1.val ∧ w.cell? ⟨b, o + i * 2 + 1, none⟩ = some el[i].2.val := by
 have g := fun j (hj : j < 2) => flat_get entC 2 el (fun _ _ => rfl) i hi j hj
 obtain ⟨b, o, ha, hb, c0⟩ := SlV.at h (g 0 (by omega))
 obtain ⟨b1, o1, ha1, _, c1⟩ := SlV.at h (g 1 (by omega))
 rw [ha] at ha1; cases ha1
 exact ⟨b, o, ha, hb, c0, by rw [Nat.add_assoc]; exact c1⟩
structure EnsK (w : World) (base : Nat) (v : SlR) (es : List (SlR × SlR)) (l : List ItR) : Prop where
 own : w.ownsRow base 37 2 v.val es.length (entsC es)
 len : es.length = l.length
 bs : ∀ i (h1 : i < es.length) (h2 : i < l.length), BS w es[i].1 l[i].key ∧ BS w es[i].2 l[i].more
def ensF (v : SlR) (es : List (SlR × SlR)) (k : Nat) : Prop := v.val.ownBlock = some k ∨ ∃ e ∈ es, blkOf e.1 k ∨ blkOf e.2 k
theorem EnsK.nil (w : World) (base : Nat) : EnsK w base ⟨none, 0, 0⟩ [] [] := ⟨World.ownsRow_nil _ _ _ _, rfl, fun i h => absurd h (Nat.not_lt_zero _)⟩
end Go.Proofs.Ytekegfbjbainhaa
