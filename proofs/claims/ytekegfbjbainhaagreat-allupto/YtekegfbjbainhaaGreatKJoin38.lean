import Derived.Test.YtekegfbjbainhaaGreatKJoin37
import Derived.Test.YtekegfbjbainhaaGreatKJoin4
import Derived.Test.YtekegfbjbainhaaGreatKJoin29
import Derived.Test.YtekegfbjbainhaaGreatKJoin5
import Derived.Deep.RegionHeld3
import Derived.Deep.RegionHeldLaw
set_option linter.unusedVariables false
set_option linter.unusedSimpArgs false

namespace Go.Proofs.YtekegfbjbainhaaGreat
open Go.RowKit
attribute [local go_sem ↓] Go.wp_at_zero Go.wp_at_succ
set_option maxRecDepth 100000 in
set_option maxHeartbeats 4000000 in
theorem exten_lo (l : List (List UInt8)) (b o cap : Nat) (m : Nat) (own : Bool) (LR : List (List UInt8)) (w : World) (h2 : 2 ≤ l.length) (h40 : l.length ≤ 40) (hcap : l.length ≤ cap) (hc : cap ≤ 9223372036854775807) (hs : SlD w (some ⟨b, o, none⟩) l) (hm : m ≤ halfN l.length) (hLR : LR.length ≤ 100)
  (hIH : ∀ W, Below w.heap.size w W → Calls Tryz.prog 100 #[.int .i64 (m : Int), .slice (some ⟨b, o, none⟩) (halfN l.length) cap, .bool own] W (pathPost W LR)) :
  Calls Tryz.prog 100 #[.int .i64 (m : Int), .slice (some ⟨b, o, none⟩) l.length cap, .bool own] w (pathPost w (LR ++ [sumF 42 (l.drop (halfN l.length))])) := by
 have hhb := halfN_bd l.length h2
 obtain ⟨d0, d1, d2, d3, d4, d5, d6, d7, hdd⟩ := list8 (sumF 42 (l.drop (halfN l.length))) (sumF_length 41 _)
 have HHF : Hid (∀ w : World, Calls Tryz.prog 122 #[.int .i64 (l.length : Int)] w fun e w' => e = .returned (.int .i64 (halfN l.length : Int)) ∧ w' = w) := fun w => half_any _ _ (by omega)
 have HSM : Hid (∀ W, Below w.heap.size w W → Calls Tryz.prog 87 #[.slice (some ⟨b, o + halfN l.length * 8, none⟩) (l.length - halfN l.length) (cap - halfN l.length)] W fun e w' => e = .returned (dV [d0, d1, d2, d3, d4, d5, d6, d7]) ∧ Below W.heap.size W w') := fun W hW => by
  rw [← hdd]
  have h := sum_any 42 (l.drop (halfN l.length)) (some ⟨b, o + halfN l.length * 8, none⟩) (cap - halfN l.length) W (by simp; omega) (by simp; omega) (by omega) ((hs.below hW).drop _ (by omega))
  rw [List.length_drop] at h
  exact h
 rw [hdd]
 have HIH : Hid (∀ W, Below w.heap.size w W → Calls Tryz.prog 100 #[.int .i64 (m : Int), .slice (some ⟨b, o, none⟩) (halfN l.length) cap, .bool own] W (pathPost W LR)) := hIH
 have HV : Hid (dV [d0, d1, d2, d3, d4, d5, d6, d7] = .agg #[Value.int .u8 (d0.toNat : Int), Value.int .u8 (d1.toNat : Int), Value.int .u8 (d2.toNat : Int), Value.int .u8 (d3.toNat : Int), Value.int .u8 (d4.toNat : Int), Value.int .u8 (d5.toNat : Int), Value.int .u8 (d6.toNat : Int), Value.int .u8 (d7.toNat : Int)]) := rfl
 have HLR : Hid (LR.length ≤ 100) := hLR
 generalize halfN l.length = k at *
 clear hIH hdd hs
 generalize l.length = n at *
 have hnI : (n : Int) ≤ 40 := by omega
 have hn2 : (2 : Int) ≤ n := by omega
 have hk1 : (1 : Int) ≤ k := by omega
 have hkn : (k : Int) < n := by omega
 have hcI : (cap : Int) ≤ 9223372036854775807 := by omega
 have hncI : (n : Int) ≤ cap := by omega
 have hkc : ¬ cap = k := by omega
 have hk0 : (0 : Int) ≤ k := by omega
 have hkcap : (k : Int) ≤ cap := by omega
 have hkn' : (k : Int) ≤ n := by omega
 have hn0 : (0 : Int) ≤ n := by omega
 have hwk : IntKind.i64.wrap (k : Int) = (k : Int) := Go.IntWalk.i64_in _ ⟨by omega, by omega⟩
 have hmn : ((m : Int) == (n : Int)) = false := by rw [Bool.eq_false_iff]; simp only [ne_eq, beq_iff_eq]; omega
 have hmN : (m : Int) ≤ 40 := by omega
 have hmI : (m : Int) ≤ k := by omega
 go_enter Tryz.func100, Tryz.ntmps100
 go_wp2_with fail
 refine (HHF.out _).mono ?_
 rintro v w1 ⟨rfl, hw1⟩
 obtain rfl : w = w1 := hw1.symm
 clear hw1
 go_wp2
 go_region_held3 (fun _ => True) (trivial)
  ((first
   | (go_at_call 100; refine (HIH.out _ (by repeat' (first | (with_reducible exact Below.refl _ _) | (with_reducible refine Below.drew ?_)))).mono ?_; rintro v w2 hp2; unfold pathPost at hp2; obtain ⟨s2, rfl, ho2, hb2⟩ := hp2; have HB2 : Hid (Below w.heap.size w w2) := ⟨hb2.os, hb2.tape, hb2.output, hb2.size, hb2.block⟩)
   | (go_at_call 87; refine (HSM.out _ (by exact HB2.out)).mono ?_; rintro v w3 ⟨rfl, hb3⟩; rw [HV.out]; have HB3 : Hid (Below w.heap.size w w3) := HB2.out.trans (hb3.mono HB2.out.size); have HO3 : Hid (w3.ownsRow w.heap.size 36 8 (.slice s2.a s2.n s2.cap) LR.length (digsC LR)) := owns_below ho2 hb3)
   | (refine step_appendV (by rfl) (.tmp 33) (.tmp 38) 41 (by rfl) w.heap.size 36 _ 8 8 Tryz.underlying41 Tryz.infoDigP rfl (by decide) (.slice s2.a s2.n s2.cap) LR.length (digsC LR) (by rfl) (HO3.out.alloc (.cells #[Value.int .u8 (d0.toNat : Int), Value.int .u8 (d1.toNat : Int), Value.int .u8 (d2.toNat : Int), Value.int .u8 (d3.toNat : Int), Value.int .u8 (d4.toNat : Int), Value.int .u8 (d5.toNat : Int), Value.int .u8 (d6.toNat : Int), Value.int .u8 (d7.toNat : Int)] 36)) ⟨w3.heap.size, 0, none⟩ 1 1 ([d0, d1, d2, d3, d4, d5, d6, d7].map u8c) (by rfl) rfl (SlV.alloc_new w3 ([d0, d1, d2, d3, d4, d5, d6, d7].map u8c) 36) (u8c_one _) (by have := HLR.out; unfold maxLen; omega) (by have := HLR.out; omega) (by have := HB3.out.size; simp; omega) ?_; intro a4 n4 c4 w4 ho4 hf4 hat4)
   | fail))
 all_goals
  have HO4 : Hid (w4.ownsRow w.heap.size 36 8 (.slice a4 n4 c4) (LR ++ [[d0, d1, d2, d3, d4, d5, d6, d7]]).length (digsC (LR ++ [[d0, d1, d2, d3, d4, d5, d6, d7]]))) := by
   rw [digsC_snoc, List.length_append]
   exact ho4
  have HB4 : Hid (Below w.heap.size w w4) := (HB3.out.alloc HB3.out.size _).trans (hf4.below (by have := HB3.out.size; simp; omega) (fun q hq => (HO3.out.lt q hq).1))
  clear ho4 hf4 hat4 ho2 hb2 hb3
  go_wp2
  go_returns
  exact ⟨⟨a4, n4, c4⟩, rfl, HO4.out, HB4.out⟩
set_option maxRecDepth 100000 in
set_option maxHeartbeats 4000000 in
theorem exten_hi (l : List (List UInt8)) (b o cap : Nat) (m : Nat) (own : Bool) (LR : List (List UInt8)) (w : World) (h2 : 2 ≤ l.length) (h40 : l.length ≤ 40) (hcap : l.length ≤ cap) (hc : cap ≤ 9223372036854775807) (hs : SlD w (some ⟨b, o, none⟩) l) (hm : halfN l.length < m) (hm2 : m < l.length) (hLR : LR.length ≤ 100)
  (hIH : ∀ W, Below w.heap.size w W → Calls Tryz.prog 100 #[.int .i64 ((m - halfN l.length : Nat) : Int), .slice (some ⟨b, o + halfN l.length * 8, none⟩) (l.length - halfN l.length) (cap - halfN l.length), .bool false] W (pathPost W LR)) :
  Calls Tryz.prog 100 #[.int .i64 (m : Int), .slice (some ⟨b, o, none⟩) l.length cap, .bool own] w (pathPost w (LR ++ [sumF 42 (l.take (halfN l.length))])) := by
 have hhb := halfN_bd l.length h2
 obtain ⟨d0, d1, d2, d3, d4, d5, d6, d7, hdd⟩ := list8 (sumF 42 (l.take (halfN l.length))) (sumF_length 41 _)
 have HHF : Hid (∀ w : World, Calls Tryz.prog 122 #[.int .i64 (l.length : Int)] w fun e w' => e = .returned (.int .i64 (halfN l.length : Int)) ∧ w' = w) := fun w => half_any _ _ (by omega)
 have HSM : Hid (∀ W, Below w.heap.size w W → Calls Tryz.prog 87 #[.slice (some ⟨b, o, none⟩) (halfN l.length) cap] W fun e w' => e = .returned (dV [d0, d1, d2, d3, d4, d5, d6, d7]) ∧ Below W.heap.size W w') := fun W hW => by
  rw [← hdd]
  have h := sum_any 42 (l.take (halfN l.length)) (some ⟨b, o, none⟩) cap W (by simp; omega) (by simp; omega) (by omega) ((hs.below hW).take _ (by omega))
  rw [List.length_take, Nat.min_eq_left (by omega)] at h
  exact h
 rw [hdd]
 have HIH : Hid (∀ W, Below w.heap.size w W → Calls Tryz.prog 100 #[.int .i64 ((m - halfN l.length : Nat) : Int), .slice (some ⟨b, o + halfN l.length * 8, none⟩) (l.length - halfN l.length) (cap - halfN l.length), .bool false] W (pathPost W LR)) := hIH
 have HV : Hid (dV [d0, d1, d2, d3, d4, d5, d6, d7] = .agg #[Value.int .u8 (d0.toNat : Int), Value.int .u8 (d1.toNat : Int), Value.int .u8 (d2.toNat : Int), Value.int .u8 (d3.toNat : Int), Value.int .u8 (d4.toNat : Int), Value.int .u8 (d5.toNat : Int), Value.int .u8 (d6.toNat : Int), Value.int .u8 (d7.toNat : Int)]) := rfl
 have HLR : Hid (LR.length ≤ 100) := hLR
 generalize halfN l.length = k at *
 clear hIH hdd hs
 generalize l.length = n at *
 have hnI : (n : Int) ≤ 40 := by omega
 have hn2 : (2 : Int) ≤ n := by omega
 have hk1 : (1 : Int) ≤ k := by omega
 have hkn : (k : Int) < n := by omega
 have hcI : (cap : Int) ≤ 9223372036854775807 := by omega
 have hncI : (n : Int) ≤ cap := by omega
 have hkc : ¬ cap = k := by omega
 have hk0 : (0 : Int) ≤ k := by omega
 have hkcap : (k : Int) ≤ cap := by omega
 have hkn' : (k : Int) ≤ n := by omega
 have hn0 : (0 : Int) ≤ n := by omega
 have hwk : IntKind.i64.wrap (k : Int) = (k : Int) := Go.IntWalk.i64_in _ ⟨by omega, by omega⟩
 have hmn : ((m : Int) == (n : Int)) = false := by rw [Bool.eq_false_iff]; simp only [ne_eq, beq_iff_eq]; omega
 have hmN : (m : Int) ≤ 40 := by omega
 have hmI : ¬ (m : Int) ≤ k := by omega
 have hmk : (m : Int) - k = ((m - k : Nat) : Int) := by omega
 generalize hqq : (m - k : Nat) = mk at *
 have hwe : IntKind.i64.wrap (mk : Int) = (mk : Int) := Go.IntWalk.i64_in _ ⟨by omega, by omega⟩
 have hwd : IntKind.i64.wrap ((m : Int) - (k : Int)) = (mk : Int) := by rw [hmk]; exact hwe
 clear hqq
 go_enter Tryz.func100, Tryz.ntmps100
 go_wp2_with fail
 refine (HHF.out _).mono ?_
 rintro v w1 ⟨rfl, hw1⟩
 obtain rfl : w = w1 := hw1.symm
 clear hw1
 go_wp2
 go_region_held3 (fun _ => True) (trivial)
  ((first
   | (go_at_call 100; refine (HIH.out _ (by repeat' (first | (with_reducible exact Below.refl _ _) | (with_reducible refine Below.drew ?_)))).mono ?_; rintro v w2 hp2; unfold pathPost at hp2; obtain ⟨s2, rfl, ho2, hb2⟩ := hp2; have HB2 : Hid (Below w.heap.size w w2) := ⟨hb2.os, hb2.tape, hb2.output, hb2.size, hb2.block⟩)
   | (go_at_call 87; refine (HSM.out _ (by exact HB2.out)).mono ?_; rintro v w3 ⟨rfl, hb3⟩; rw [HV.out]; have HB3 : Hid (Below w.heap.size w w3) := HB2.out.trans (hb3.mono HB2.out.size); have HO3 : Hid (w3.ownsRow w.heap.size 36 8 (.slice s2.a s2.n s2.cap) LR.length (digsC LR)) := owns_below ho2 hb3)
   | (refine step_appendV (by rfl) (.tmp 46) (.tmp 51) 41 (by rfl) w.heap.size 36 _ 8 8 Tryz.underlying41 Tryz.infoDigP rfl (by decide) (.slice s2.a s2.n s2.cap) LR.length (digsC LR) (by rfl) (HO3.out.alloc (.cells #[Value.int .u8 (d0.toNat : Int), Value.int .u8 (d1.toNat : Int), Value.int .u8 (d2.toNat : Int), Value.int .u8 (d3.toNat : Int), Value.int .u8 (d4.toNat : Int), Value.int .u8 (d5.toNat : Int), Value.int .u8 (d6.toNat : Int), Value.int .u8 (d7.toNat : Int)] 36)) ⟨w3.heap.size, 0, none⟩ 1 1 ([d0, d1, d2, d3, d4, d5, d6, d7].map u8c) (by rfl) rfl (SlV.alloc_new w3 ([d0, d1, d2, d3, d4, d5, d6, d7].map u8c) 36) (u8c_one _) (by have := HLR.out; unfold maxLen; omega) (by have := HLR.out; omega) (by have := HB3.out.size; simp; omega) ?_; intro a4 n4 c4 w4 ho4 hf4 hat4)
   | fail))
 all_goals
  have HO4 : Hid (w4.ownsRow w.heap.size 36 8 (.slice a4 n4 c4) (LR ++ [[d0, d1, d2, d3, d4, d5, d6, d7]]).length (digsC (LR ++ [[d0, d1, d2, d3, d4, d5, d6, d7]]))) := by
   rw [digsC_snoc, List.length_append]
   exact ho4
  have HB4 : Hid (Below w.heap.size w w4) := (HB3.out.alloc HB3.out.size _).trans (hf4.below (by have := HB3.out.size; simp; omega) (fun q hq => (HO3.out.lt q hq).1))
  clear ho4 hf4 hat4 ho2 hb2 hb3
  go_wp2
  go_returns
  exact ⟨⟨a4, n4, c4⟩, rfl, HO4.out, HB4.out⟩
set_option maxRecDepth 100000 in
set_option maxHeartbeats 4000000 in
theorem extd_lo (l : List (List UInt8)) (b o cap : Nat) (m : Nat) (own : Bool) (LR : List (List UInt8)) (w : World) (h2 : 2 ≤ l.length) (h40 : l.length ≤ 40) (hcap : l.length ≤ cap) (hc : cap ≤ 9223372036854775807) (hs : SlD w (some ⟨b, o, none⟩) l) (hm : m ≤ halfN l.length) (hLR : LR.length ≤ 100)
  (hIH : ∀ W, Below w.heap.size w W → Calls Tryz.prog 129 #[.slice (some ⟨b, o, none⟩) (halfN l.length) cap, .int .i64 (m : Int), .bool own] W (pathPost W LR)) :
  Calls Tryz.prog 129 #[.slice (some ⟨b, o, none⟩) l.length cap, .int .i64 (m : Int), .bool own] w (pathPost w (LR ++ [sumF 42 (l.drop (halfN l.length))])) := by
 have hhb := halfN_bd l.length h2
 obtain ⟨d0, d1, d2, d3, d4, d5, d6, d7, hdd⟩ := list8 (sumF 42 (l.drop (halfN l.length))) (sumF_length 41 _)
 have HHF : Hid (∀ w : World, Calls Tryz.prog 128 #[.int .i64 (l.length : Int)] w fun e w' => e = .returned (.int .i64 (halfN l.length : Int)) ∧ w' = w) := fun w => first_all _ _ (by omega) (by omega)
 have HSM : Hid (∀ W, Below w.heap.size w W → Calls Tryz.prog 119 #[.slice (some ⟨b, o + halfN l.length * 8, none⟩) (l.length - halfN l.length) (cap - halfN l.length)] W fun e w' => e = .returned (dV [d0, d1, d2, d3, d4, d5, d6, d7]) ∧ Below W.heap.size W w') := fun W hW => by
  rw [← hdd]
  have h := sumP_any 42 (l.drop (halfN l.length)) (some ⟨b, o + halfN l.length * 8, none⟩) (cap - halfN l.length) W (by simp; omega) (by simp; omega) (by simp; omega) (by omega) ((hs.below hW).drop _ (by omega))
  rw [List.length_drop] at h
  exact h
 rw [hdd]
 have HIH : Hid (∀ W, Below w.heap.size w W → Calls Tryz.prog 129 #[.slice (some ⟨b, o, none⟩) (halfN l.length) cap, .int .i64 (m : Int), .bool own] W (pathPost W LR)) := hIH
 have HV : Hid (dV [d0, d1, d2, d3, d4, d5, d6, d7] = .agg #[Value.int .u8 (d0.toNat : Int), Value.int .u8 (d1.toNat : Int), Value.int .u8 (d2.toNat : Int), Value.int .u8 (d3.toNat : Int), Value.int .u8 (d4.toNat : Int), Value.int .u8 (d5.toNat : Int), Value.int .u8 (d6.toNat : Int), Value.int .u8 (d7.toNat : Int)]) := rfl
 have HLR : Hid (LR.length ≤ 100) := hLR
 generalize halfN l.length = k at *
 clear hIH hdd hs
 generalize l.length = n at *
 have hnI : (n : Int) ≤ 40 := by omega
 have hn2 : (2 : Int) ≤ n := by omega
 have hk1 : (1 : Int) ≤ k := by omega
 have hkn : (k : Int) < n := by omega
 have hcI : (cap : Int) ≤ 9223372036854775807 := by omega
 have hncI : (n : Int) ≤ cap := by omega
 have hkc : ¬ cap = k := by omega
 have hk0 : (0 : Int) ≤ k := by omega
 have hkcap : (k : Int) ≤ cap := by omega
 have hkn' : (k : Int) ≤ n := by omega
 have hn0 : (0 : Int) ≤ n := by omega
 have hwk : IntKind.i64.wrap (k : Int) = (k : Int) := Go.IntWalk.i64_in _ ⟨by omega, by omega⟩
 have hmn : ((m : Int) == (n : Int)) = false := by rw [Bool.eq_false_iff]; simp only [ne_eq, beq_iff_eq]; omega
 have hmN : (m : Int) ≤ 40 := by omega
 have hmI : (m : Int) ≤ k := by omega
 go_enter Tryz.func129, Tryz.ntmps129
 go_wp2_with fail
 refine (HHF.out _).mono ?_
 rintro v w1 ⟨rfl, hw1⟩
 obtain rfl : w = w1 := hw1.symm
 clear hw1
 go_wp2
 go_region_held3 (fun _ => True) (trivial)
  ((first
   | (go_at_call 129; refine (HIH.out _ (by repeat' (first | (with_reducible exact Below.refl _ _) | (with_reducible refine Below.drew ?_)))).mono ?_; rintro v w2 hp2; unfold pathPost at hp2; obtain ⟨s2, rfl, ho2, hb2⟩ := hp2; have HB2 : Hid (Below w.heap.size w w2) := ⟨hb2.os, hb2.tape, hb2.output, hb2.size, hb2.block⟩)
   | (go_at_call 119; refine (HSM.out _ (by exact HB2.out)).mono ?_; rintro v w3 ⟨rfl, hb3⟩; rw [HV.out]; have HB3 : Hid (Below w.heap.size w w3) := HB2.out.trans (hb3.mono HB2.out.size); have HO3 : Hid (w3.ownsRow w.heap.size 36 8 (.slice s2.a s2.n s2.cap) LR.length (digsC LR)) := owns_below ho2 hb3)
   | (refine step_appendV (by rfl) (.tmp 27) (.tmp 32) 41 (by rfl) w.heap.size 36 _ 8 8 Tryz.underlying41 Tryz.infoDigP rfl (by decide) (.slice s2.a s2.n s2.cap) LR.length (digsC LR) (by rfl) (HO3.out.alloc (.cells #[Value.int .u8 (d0.toNat : Int), Value.int .u8 (d1.toNat : Int), Value.int .u8 (d2.toNat : Int), Value.int .u8 (d3.toNat : Int), Value.int .u8 (d4.toNat : Int), Value.int .u8 (d5.toNat : Int), Value.int .u8 (d6.toNat : Int), Value.int .u8 (d7.toNat : Int)] 36)) ⟨w3.heap.size, 0, none⟩ 1 1 ([d0, d1, d2, d3, d4, d5, d6, d7].map u8c) (by rfl) rfl (SlV.alloc_new w3 ([d0, d1, d2, d3, d4, d5, d6, d7].map u8c) 36) (u8c_one _) (by have := HLR.out; unfold maxLen; omega) (by have := HLR.out; omega) (by have := HB3.out.size; simp; omega) ?_; intro a4 n4 c4 w4 ho4 hf4 hat4)
   | fail))
 all_goals
  have HO4 : Hid (w4.ownsRow w.heap.size 36 8 (.slice a4 n4 c4) (LR ++ [[d0, d1, d2, d3, d4, d5, d6, d7]]).length (digsC (LR ++ [[d0, d1, d2, d3, d4, d5, d6, d7]]))) := by
   rw [digsC_snoc, List.length_append]
   exact ho4
  have HB4 : Hid (Below w.heap.size w w4) := (HB3.out.alloc HB3.out.size _).trans (hf4.below (by have := HB3.out.size; simp; omega) (fun q hq => (HO3.out.lt q hq).1))
  clear ho4 hf4 hat4 ho2 hb2 hb3
  go_wp2
  go_returns
  exact ⟨⟨a4, n4, c4⟩, rfl, HO4.out, HB4.out⟩
set_option maxRecDepth 100000 in
set_option maxHeartbeats 4000000 in
theorem extd_hi (l : List (List UInt8)) (b o cap : Nat) (m : Nat) (own : Bool) (LR : List (List UInt8)) (w : World) (h2 : 2 ≤ l.length) (h40 : l.length ≤ 40) (hcap : l.length ≤ cap) (hc : cap ≤ 9223372036854775807) (hs : SlD w (some ⟨b, o, none⟩) l) (hm : halfN l.length < m) (hm2 : m < l.length) (hLR : LR.length ≤ 100)
  (hIH : ∀ W, Below w.heap.size w W → Calls Tryz.prog 129 #[.slice (some ⟨b, o + halfN l.length * 8, none⟩) (l.length - halfN l.length) (cap - halfN l.length), .int .i64 ((m - halfN l.length : Nat) : Int), .bool false] W (pathPost W LR)) :
  Calls Tryz.prog 129 #[.slice (some ⟨b, o, none⟩) l.length cap, .int .i64 (m : Int), .bool own] w (pathPost w (LR ++ [sumF 42 (l.take (halfN l.length))])) := by
 have hhb := halfN_bd l.length h2
 obtain ⟨d0, d1, d2, d3, d4, d5, d6, d7, hdd⟩ := list8 (sumF 42 (l.take (halfN l.length))) (sumF_length 41 _)
 have HHF : Hid (∀ w : World, Calls Tryz.prog 128 #[.int .i64 (l.length : Int)] w fun e w' => e = .returned (.int .i64 (halfN l.length : Int)) ∧ w' = w) := fun w => first_all _ _ (by omega) (by omega)
 have HSM : Hid (∀ W, Below w.heap.size w W → Calls Tryz.prog 119 #[.slice (some ⟨b, o, none⟩) (halfN l.length) cap] W fun e w' => e = .returned (dV [d0, d1, d2, d3, d4, d5, d6, d7]) ∧ Below W.heap.size W w') := fun W hW => by
  rw [← hdd]
  have h := sumP_any 42 (l.take (halfN l.length)) (some ⟨b, o, none⟩) cap W (by simp; omega) (by simp; omega) (by simp; omega) (by omega) ((hs.below hW).take _ (by omega))
  rw [List.length_take, Nat.min_eq_left (by omega)] at h
  exact h
 rw [hdd]
 have HIH : Hid (∀ W, Below w.heap.size w W → Calls Tryz.prog 129 #[.slice (some ⟨b, o + halfN l.length * 8, none⟩) (l.length - halfN l.length) (cap - halfN l.length), .int .i64 ((m - halfN l.length : Nat) : Int), .bool false] W (pathPost W LR)) := hIH
 have HV : Hid (dV [d0, d1, d2, d3, d4, d5, d6, d7] = .agg #[Value.int .u8 (d0.toNat : Int), Value.int .u8 (d1.toNat : Int), Value.int .u8 (d2.toNat : Int), Value.int .u8 (d3.toNat : Int), Value.int .u8 (d4.toNat : Int), Value.int .u8 (d5.toNat : Int), Value.int .u8 (d6.toNat : Int), Value.int .u8 (d7.toNat : Int)]) := rfl
 have HLR : Hid (LR.length ≤ 100) := hLR
 generalize halfN l.length = k at *
 clear hIH hdd hs
 generalize l.length = n at *
 have hnI : (n : Int) ≤ 40 := by omega
 have hn2 : (2 : Int) ≤ n := by omega
 have hk1 : (1 : Int) ≤ k := by omega
 have hkn : (k : Int) < n := by omega
 have hcI : (cap : Int) ≤ 9223372036854775807 := by omega
 have hncI : (n : Int) ≤ cap := by omega
 have hkc : ¬ cap = k := by omega
 have hk0 : (0 : Int) ≤ k := by omega
 have hkcap : (k : Int) ≤ cap := by omega
 have hkn' : (k : Int) ≤ n := by omega
 have hn0 : (0 : Int) ≤ n := by omega
 have hwk : IntKind.i64.wrap (k : Int) = (k : Int) := Go.IntWalk.i64_in _ ⟨by omega, by omega⟩
 have hmn : ((m : Int) == (n : Int)) = false := by rw [Bool.eq_false_iff]; simp only [ne_eq, beq_iff_eq]; omega
 have hmN : (m : Int) ≤ 40 := by omega
 have hmI : ¬ (m : Int) ≤ k := by omega
 have hmk : (m : Int) - k = ((m - k : Nat) : Int) := by omega
 generalize hqq : (m - k : Nat) = mk at *
 have hwe : IntKind.i64.wrap (mk : Int) = (mk : Int) := Go.IntWalk.i64_in _ ⟨by omega, by omega⟩
 have hwd : IntKind.i64.wrap ((m : Int) - (k : Int)) = (mk : Int) := by rw [hmk]; exact hwe
 clear hqq
 go_enter Tryz.func129, Tryz.ntmps129
 go_wp2_with fail
 refine (HHF.out _).mono ?_
 rintro v w1 ⟨rfl, hw1⟩
 obtain rfl : w = w1 := hw1.symm
 clear hw1
 go_wp2
 go_region_held3 (fun _ => True) (trivial)
  ((first
   | (go_at_call 129; refine (HIH.out _ (by repeat' (first | (with_reducible exact Below.refl _ _) | (with_reducible refine Below.drew ?_)))).mono ?_; rintro v w2 hp2; unfold pathPost at hp2; obtain ⟨s2, rfl, ho2, hb2⟩ := hp2; have HB2 : Hid (Below w.heap.size w w2) := ⟨hb2.os, hb2.tape, hb2.output, hb2.size, hb2.block⟩)
   | (go_at_call 119; refine (HSM.out _ (by exact HB2.out)).mono ?_; rintro v w3 ⟨rfl, hb3⟩; rw [HV.out]; have HB3 : Hid (Below w.heap.size w w3) := HB2.out.trans (hb3.mono HB2.out.size); have HO3 : Hid (w3.ownsRow w.heap.size 36 8 (.slice s2.a s2.n s2.cap) LR.length (digsC LR)) := owns_below ho2 hb3)
   | (refine step_appendV (by rfl) (.tmp 40) (.tmp 45) 41 (by rfl) w.heap.size 36 _ 8 8 Tryz.underlying41 Tryz.infoDigP rfl (by decide) (.slice s2.a s2.n s2.cap) LR.length (digsC LR) (by rfl) (HO3.out.alloc (.cells #[Value.int .u8 (d0.toNat : Int), Value.int .u8 (d1.toNat : Int), Value.int .u8 (d2.toNat : Int), Value.int .u8 (d3.toNat : Int), Value.int .u8 (d4.toNat : Int), Value.int .u8 (d5.toNat : Int), Value.int .u8 (d6.toNat : Int), Value.int .u8 (d7.toNat : Int)] 36)) ⟨w3.heap.size, 0, none⟩ 1 1 ([d0, d1, d2, d3, d4, d5, d6, d7].map u8c) (by rfl) rfl (SlV.alloc_new w3 ([d0, d1, d2, d3, d4, d5, d6, d7].map u8c) 36) (u8c_one _) (by have := HLR.out; unfold maxLen; omega) (by have := HLR.out; omega) (by have := HB3.out.size; simp; omega) ?_; intro a4 n4 c4 w4 ho4 hf4 hat4)
   | fail))
 all_goals
  have HO4 : Hid (w4.ownsRow w.heap.size 36 8 (.slice a4 n4 c4) (LR ++ [[d0, d1, d2, d3, d4, d5, d6, d7]]).length (digsC (LR ++ [[d0, d1, d2, d3, d4, d5, d6, d7]]))) := by
   rw [digsC_snoc, List.length_append]
   exact ho4
  have HB4 : Hid (Below w.heap.size w w4) := (HB3.out.alloc HB3.out.size _).trans (hf4.below (by have := HB3.out.size; simp; omega) (fun q hq => (HO3.out.lt q hq).1))
  clear ho4 hf4 hat4 ho2 hb2 hb3
  go_wp2
  go_returns
  exact ⟨⟨a4, n4, c4⟩, rfl, HO4.out, HB4.out⟩
end Go.Proofs.YtekegfbjbainhaaGreat


namespace Go.Proofs.YtekegfbjbainhaaGreat
open Go.RowKit
attribute [local go_sem ↓] Go.wp_at_zero Go.wp_at_succ
theorem pathPost.nil (w : World) : pathPost w [] (.returned (.slice none 0 0)) w := ⟨⟨none, 0, 0⟩, rfl, World.ownsRow_nil _ _ _ _, Below.refl _ _⟩
theorem SlD.adr {w : World} {a : Option Addr} {l : List (List UInt8)} (h : SlD w a l) (hl : 1 ≤ l.length) : ∃ b o, a = some ⟨b, o, none⟩ := by
 cases l with
 | nil => simp at hl
 | cons x l =>
  obtain ⟨b, o, ha, _⟩ := h.1 0 (by rw [digsC_length _ h.2]; simp)
  exact ⟨b, o, ha⟩
theorem owns_new8 (w : World) (base : Nat) (d : List UInt8) (hd : d.length = 8) (hb : base ≤ w.heap.size) : (w.alloc (.cells (d.map u8c).toArray 36)).ownsRow base 36 8 (.slice (some ⟨w.heap.size, 0, none⟩) 1 1) 1 (digsC [d]) := by
 have e : digsC [d] = d.map u8c := by simp [digsC]
 rw [e]
 exact owns_built w base 36 8 1 (d.map u8c) hb (by simp [hd]) (by unfold maxLen; omega)
set_option maxRecDepth 100000 in
theorem path_one (e : Int) (a : Option Addr) (cap : Nat) (w : World) : Calls Tryz.prog 97 #[.int .i64 e, .slice a 1 cap] w (pathPost w []) := by
 go_enter Tryz.func97, Tryz.ntmps97
 go_wp2
 go_returns
 exact pathPost.nil w
theorem path_any : ∀ (f e : Nat) (l : List (List UInt8)) (a : Option Addr) (cap : Nat) (w : World), l.length < f → f ≤ 100 → l.length ≤ 40 → l.length ≤ cap → cap ≤ 9223372036854775807 → SlD w a l → e < l.length →
  Calls Tryz.prog 97 #[.int .i64 (e : Int), .slice a l.length cap] w (pathPost w (pathF f e l))
 | 0, e, l, a, cap, w, h0, _, _, _, _, _, _ => absurd h0 (Nat.not_lt_zero _)
 | f + 1, e, l, a, cap, w, h0, hf, h40, hcap, hc, hs, he => by
  unfold pathF
  by_cases h1 : l.length ≤ 1
  ·rw [if_pos h1, show l.length = 1 by omega]
   exact path_one e a cap w
  rw [if_neg h1]
  have hhb := halfN_bd l.length (by omega)
  obtain ⟨b, o, rfl⟩ := hs.adr (by omega)
  by_cases hk : e < halfN l.length
  ·rw [if_pos hk]
   refine path_lo l b o cap e _ w (by omega) h40 hcap hc hs hk (Nat.le_trans (pathF_len f _ _) (by omega)) (fun W hW => ?_)
   have h := path_any f e (l.take (halfN l.length)) (some ⟨b, o, none⟩) cap W (by rw [List.length_take]; omega) (by omega) (by rw [List.length_take]; omega) (by rw [List.length_take]; omega) hc ((hs.below hW).take _ (by omega)) (by rw [List.length_take]; omega)
   rw [List.length_take, Nat.min_eq_left (by omega)] at h
   exact h
  ·rw [if_neg hk]
   refine path_hi l b o cap e _ w (by omega) h40 hcap hc hs (by omega) he (Nat.le_trans (pathF_len f _ _) (by omega)) (fun W hW => ?_)
   have h := path_any f (e - halfN l.length) (l.drop (halfN l.length)) (some ⟨b, o + halfN l.length * 8, none⟩) (cap - halfN l.length) W (by rw [List.length_drop]; omega) (by omega) (by rw [List.length_drop]; omega) (by rw [List.length_drop]; omega) (by omega) ((hs.below hW).drop _ (by omega)) (by rw [List.length_drop]; omega)
   rw [List.length_drop] at h
   exact h
set_option maxRecDepth 100000 in
theorem incl_one (e : Int) (a : Option Addr) (cap : Nat) (w : World) : Calls Tryz.prog 95 #[.slice a 1 cap, .int .i64 e] w (pathPost w []) := by
 go_enter Tryz.func95, Tryz.ntmps95
 go_wp2
 go_returns
 exact pathPost.nil w
theorem incl_any : ∀ (f e : Nat) (l : List (List UInt8)) (a : Option Addr) (cap : Nat) (w : World), l.length < f → f ≤ 100 → l.length ≤ 40 → l.length ≤ cap → cap ≤ 9223372036854775807 → SlD w a l → e < l.length →
  Calls Tryz.prog 95 #[.slice a l.length cap, .int .i64 (e : Int)] w (pathPost w (pathF f e l))
 | 0, e, l, a, cap, w, h0, _, _, _, _, _, _ => absurd h0 (Nat.not_lt_zero _)
 | f + 1, e, l, a, cap, w, h0, hf, h40, hcap, hc, hs, he => by
  unfold pathF
  by_cases h1 : l.length ≤ 1
  ·rw [if_pos h1, show l.length = 1 by omega]
   exact incl_one e a cap w
  rw [if_neg h1]
  have hhb := halfN_bd l.length (by omega)
  obtain ⟨b, o, rfl⟩ := hs.adr (by omega)
  by_cases hk : e < halfN l.length
  ·rw [if_pos hk]
   refine incl_lo l b o cap e _ w (by omega) h40 hcap hc hs hk (Nat.le_trans (pathF_len f _ _) (by omega)) (fun W hW => ?_)
   have h := incl_any f e (l.take (halfN l.length)) (some ⟨b, o, none⟩) cap W (by rw [List.length_take]; omega) (by omega) (by rw [List.length_take]; omega) (by rw [List.length_take]; omega) hc ((hs.below hW).take _ (by omega)) (by rw [List.length_take]; omega)
   rw [List.length_take, Nat.min_eq_left (by omega)] at h
   exact h
  ·rw [if_neg hk]
   refine incl_hi l b o cap e _ w (by omega) h40 hcap hc hs (by omega) he (Nat.le_trans (pathF_len f _ _) (by omega)) (fun W hW => ?_)
   have h := incl_any f (e - halfN l.length) (l.drop (halfN l.length)) (some ⟨b, o + halfN l.length * 8, none⟩) (cap - halfN l.length) W (by rw [List.length_drop]; omega) (by omega) (by rw [List.length_drop]; omega) (by rw [List.length_drop]; omega) (by omega) ((hs.below hW).drop _ (by omega)) (by rw [List.length_drop]; omega)
   rw [List.length_drop] at h
   exact h
set_option maxRecDepth 100000 in
theorem exten_own (n : Nat) (a : Option Addr) (cap : Nat) (w : World) (hn : n ≤ 40) : Calls Tryz.prog 100 #[.int .i64 (n : Int), .slice a n cap, .bool true] w (pathPost w []) := by
 have hnI : (n : Int) ≤ 40 := by omega
 go_enter Tryz.func100, Tryz.ntmps100
 go_wp2
 go_returns
 exact pathPost.nil w
set_option maxRecDepth 100000 in
theorem exten_sum (l : List (List UInt8)) (a : Option Addr) (cap : Nat) (w : World) (h40 : l.length ≤ 40) (hcap : l.length ≤ cap) (hc : cap ≤ 9223372036854775807) (hs : SlD w a l) : Calls Tryz.prog 100 #[.int .i64 (l.length : Int), .slice a l.length cap, .bool false] w (pathPost w [sumF 42 l]) := by
 have hnI : (l.length : Int) ≤ 40 := by omega
 obtain ⟨d0, d1, d2, d3, d4, d5, d6, d7, hdd⟩ := list8 (sumF 42 l) (sumF_length 41 _)
 have HSM : Hid (Calls _ _ _ _ _) := sum_any 42 l a cap w (by omega) hcap hc hs
 rw [hdd] at HSM ⊢
 have HV : Hid (dV [d0, d1, d2, d3, d4, d5, d6, d7] = .agg #[Value.int .u8 (d0.toNat : Int), Value.int .u8 (d1.toNat : Int), Value.int .u8 (d2.toNat : Int), Value.int .u8 (d3.toNat : Int), Value.int .u8 (d4.toNat : Int), Value.int .u8 (d5.toNat : Int), Value.int .u8 (d6.toNat : Int), Value.int .u8 (d7.toNat : Int)]) := rfl
 clear hs hdd
 go_enter Tryz.func100, Tryz.ntmps100
 go_wp2_with fail
 refine HSM.out.mono ?_
 rintro v w1 ⟨rfl, hb1⟩
 rw [HV.out]
 have HO : Hid ((w1.alloc (.cells #[Value.int .u8 (d0.toNat : Int), Value.int .u8 (d1.toNat : Int), Value.int .u8 (d2.toNat : Int), Value.int .u8 (d3.toNat : Int), Value.int .u8 (d4.toNat : Int), Value.int .u8 (d5.toNat : Int), Value.int .u8 (d6.toNat : Int), Value.int .u8 (d7.toNat : Int)] 36)).ownsRow w.heap.size 36 8 (.slice (some ⟨w1.heap.size, 0, none⟩) 1 1) 1 (digsC [[d0, d1, d2, d3, d4, d5, d6, d7]])) := owns_new8 w1 w.heap.size [d0, d1, d2, d3, d4, d5, d6, d7] rfl hb1.size
 have HB : Hid (Below w.heap.size w (w1.alloc (.cells #[Value.int .u8 (d0.toNat : Int), Value.int .u8 (d1.toNat : Int), Value.int .u8 (d2.toNat : Int), Value.int .u8 (d3.toNat : Int), Value.int .u8 (d4.toNat : Int), Value.int .u8 (d5.toNat : Int), Value.int .u8 (d6.toNat : Int), Value.int .u8 (d7.toNat : Int)] 36))) := hb1.alloc hb1.size _
 clear hb1
 go_wp2
 go_returns
 exact ⟨⟨some ⟨w1.heap.size, 0, none⟩, 1, 1⟩, rfl, HO.out, HB.out⟩
theorem exten_any : ∀ (f m : Nat) (l : List (List UInt8)) (own : Bool) (a : Option Addr) (cap : Nat) (w : World), l.length < f → f ≤ 100 → l.length ≤ 40 → l.length ≤ cap → cap ≤ 9223372036854775807 → SlD w a l → 1 ≤ m → m ≤ l.length →
  Calls Tryz.prog 100 #[.int .i64 (m : Int), .slice a l.length cap, .bool own] w (pathPost w (extL f m l own))
 | 0, m, l, own, a, cap, w, h0, _, _, _, _, _, _, _ => absurd h0 (Nat.not_lt_zero _)
 | f + 1, m, l, own, a, cap, w, h0, hf, h40, hcap, hc, hs, h1, h2 => by
  unfold extL
  by_cases hm : m = l.length
  ·rw [if_pos hm, hm]
   cases own
   ·exact exten_sum l a cap w h40 hcap hc hs
   ·exact exten_own l.length a cap w h40
  rw [if_neg hm]
  have hhb := halfN_bd l.length (by omega)
  obtain ⟨b, o, rfl⟩ := hs.adr (by omega)
  by_cases hk : m ≤ halfN l.length
  ·rw [if_pos hk]
   refine exten_lo l b o cap m own _ w (by omega) h40 hcap hc hs hk (Nat.le_trans (extL_len f _ _ _) (by omega)) (fun W hW => ?_)
   have h := exten_any f m (l.take (halfN l.length)) own (some ⟨b, o, none⟩) cap W (by rw [List.length_take]; omega) (by omega) (by rw [List.length_take]; omega) (by rw [List.length_take]; omega) hc ((hs.below hW).take _ (by omega)) h1 (by rw [List.length_take]; omega)
   rw [List.length_take, Nat.min_eq_left (by omega)] at h
   exact h
  ·rw [if_neg hk]
   refine exten_hi l b o cap m own _ w (by omega) h40 hcap hc hs (by omega) (by omega) (Nat.le_trans (extL_len f _ _ _) (by omega)) (fun W hW => ?_)
   have h := exten_any f (m - halfN l.length) (l.drop (halfN l.length)) false (some ⟨b, o + halfN l.length * 8, none⟩) (cap - halfN l.length) W (by rw [List.length_drop]; omega) (by omega) (by rw [List.length_drop]; omega) (by rw [List.length_drop]; omega) (by omega) ((hs.below hW).drop _ (by omega)) (by omega) (by rw [List.length_drop]; omega)
   rw [List.length_drop] at h
   exact h
set_option maxRecDepth 100000 in
theorem extd_own (n : Nat) (a : Option Addr) (cap : Nat) (w : World) (hn : n ≤ 40) : Calls Tryz.prog 129 #[.slice a n cap, .int .i64 (n : Int), .bool true] w (pathPost w []) := by
 have hnI : (n : Int) ≤ 40 := by omega
 go_enter Tryz.func129, Tryz.ntmps129
 go_wp2
 go_returns
 exact pathPost.nil w
set_option maxRecDepth 100000 in
theorem extd_sum (l : List (List UInt8)) (a : Option Addr) (cap : Nat) (w : World) (h40 : l.length ≤ 40) (hcap : l.length ≤ cap) (hc : cap ≤ 9223372036854775807) (hs : SlD w a l) : Calls Tryz.prog 129 #[.slice a l.length cap, .int .i64 (l.length : Int), .bool false] w (pathPost w [sumF 42 l]) := by
 have hnI : (l.length : Int) ≤ 40 := by omega
 obtain ⟨d0, d1, d2, d3, d4, d5, d6, d7, hdd⟩ := list8 (sumF 42 l) (sumF_length 41 _)
 have HSM : Hid (Calls _ _ _ _ _) := sumP_any 42 l a cap w (by omega) (by omega) hcap hc hs
 rw [hdd] at HSM ⊢
 have HV : Hid (dV [d0, d1, d2, d3, d4, d5, d6, d7] = .agg #[Value.int .u8 (d0.toNat : Int), Value.int .u8 (d1.toNat : Int), Value.int .u8 (d2.toNat : Int), Value.int .u8 (d3.toNat : Int), Value.int .u8 (d4.toNat : Int), Value.int .u8 (d5.toNat : Int), Value.int .u8 (d6.toNat : Int), Value.int .u8 (d7.toNat : Int)]) := rfl
 clear hs hdd
 go_enter Tryz.func129, Tryz.ntmps129
 go_wp2_with fail
 refine HSM.out.mono ?_
 rintro v w1 ⟨rfl, hb1⟩
 rw [HV.out]
 have HO : Hid ((w1.alloc (.cells #[Value.int .u8 (d0.toNat : Int), Value.int .u8 (d1.toNat : Int), Value.int .u8 (d2.toNat : Int), Value.int .u8 (d3.toNat : Int), Value.int .u8 (d4.toNat : Int), Value.int .u8 (d5.toNat : Int), Value.int .u8 (d6.toNat : Int), Value.int .u8 (d7.toNat : Int)] 36)).ownsRow w.heap.size 36 8 (.slice (some ⟨w1.heap.size, 0, none⟩) 1 1) 1 (digsC [[d0, d1, d2, d3, d4, d5, d6, d7]])) := owns_new8 w1 w.heap.size [d0, d1, d2, d3, d4, d5, d6, d7] rfl hb1.size
 have HB : Hid (Below w.heap.size w (w1.alloc (.cells #[Value.int .u8 (d0.toNat : Int), Value.int .u8 (d1.toNat : Int), Value.int .u8 (d2.toNat : Int), Value.int .u8 (d3.toNat : Int), Value.int .u8 (d4.toNat : Int), Value.int .u8 (d5.toNat : Int), Value.int .u8 (d6.toNat : Int), Value.int .u8 (d7.toNat : Int)] 36))) := hb1.alloc hb1.size _
 clear hb1
 go_wp2
 go_returns
 exact ⟨⟨some ⟨w1.heap.size, 0, none⟩, 1, 1⟩, rfl, HO.out, HB.out⟩
theorem extd_any : ∀ (f m : Nat) (l : List (List UInt8)) (own : Bool) (a : Option Addr) (cap : Nat) (w : World), l.length < f → f ≤ 100 → l.length ≤ 40 → l.length ≤ cap → cap ≤ 9223372036854775807 → SlD w a l → 1 ≤ m → m ≤ l.length →
  Calls Tryz.prog 129 #[.slice a l.length cap, .int .i64 (m : Int), .bool own] w (pathPost w (extL f m l own))
 | 0, m, l, own, a, cap, w, h0, _, _, _, _, _, _, _ => absurd h0 (Nat.not_lt_zero _)
 | f + 1, m, l, own, a, cap, w, h0, hf, h40, hcap, hc, hs, h1, h2 => by
  unfold extL
  by_cases hm : m = l.length
  ·rw [if_pos hm, hm]
   cases own
   ·exact extd_sum l a cap w h40 hcap hc hs
   ·exact extd_own l.length a cap w h40
  rw [if_neg hm]
  have hhb := halfN_bd l.length (by omega)
  obtain ⟨b, o, rfl⟩ := hs.adr (by omega)
  by_cases hk : m ≤ halfN l.length
  ·rw [if_pos hk]
   refine extd_lo l b o cap m own _ w (by omega) h40 hcap hc hs hk (Nat.le_trans (extL_len f _ _ _) (by omega)) (fun W hW => ?_)
   have h := extd_any f m (l.take (halfN l.length)) own (some ⟨b, o, none⟩) cap W (by rw [List.length_take]; omega) (by omega) (by rw [List.length_take]; omega) (by rw [List.length_take]; omega) hc ((hs.below hW).take _ (by omega)) h1 (by rw [List.length_take]; omega)
   rw [List.length_take, Nat.min_eq_left (by omega)] at h
   exact h
  ·rw [if_neg hk]
   refine extd_hi l b o cap m own _ w (by omega) h40 hcap hc hs (by omega) (by omega) (Nat.le_trans (extL_len f _ _ _) (by omega)) (fun W hW => ?_)
   have h := extd_any f (m - halfN l.length) (l.drop (halfN l.length)) false (some ⟨b, o + halfN l.length * 8, none⟩) (cap - halfN l.length) W (by rw [List.length_drop]; omega) (by omega) (by rw [List.length_drop]; omega) (by rw [List.length_drop]; omega) (by omega) ((hs.below hW).drop _ (by omega)) (by omega) (by rw [List.length_drop]; omega)
   rw [List.length_drop] at h
   exact h
end Go.Proofs.YtekegfbjbainhaaGreat
