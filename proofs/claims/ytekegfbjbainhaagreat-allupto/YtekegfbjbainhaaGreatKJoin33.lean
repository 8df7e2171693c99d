import Derived.Test.YtekegfbjbainhaaGreatKJoin30
import Derived.Test.YtekegfbjbainhaaGreatKJoin31
import Derived.Test.YtekegfbjbainhaaGreatKJoin32
import Derived.Deep.RegionHeld3
import Derived.Test.YtekegfbjbainhaaGreatKJoin13
set_option linter.unusedVariables false
set_option linter.unusedSimpArgs false

namespace Go.Proofs.YtekegfbjbainhaaGreat
open Go.RowKit
attribute [local go_sem ↓] Go.wp_at_zero Go.wp_at_succ
theorem sums_any : ∀ (r : List (List UInt8)) (n m : Nat) (own : Option (Nat × Nat)) (sum : List UInt8) (a : Option Addr) (cap : Nat) (w : World), SlD w a r.reverse → r.length ≤ cap → cap ≤ 9223372036854775807 → sum.length = 8 → 1 ≤ m → m ≤ n → n ≤ 9223372036854775807 → (∀ p q, own = some (p, q) → p < w.heap.size ∧ w.rangeAt p q (sum.map u8c)) →
  Calls Tryz.prog 136 #[.int .i64 (m : Int), .int .i64 (n : Int), .pointer (own.map (fun z => ⟨z.1, z.2, none⟩)), .slice a r.length cap] w fun v w' => bothV (bothF m n own.isSome sum r) v ∧ Below w.heap.size w w'
 | [], n, m, own, sum, a, cap, w, hs, hl, hc, hr, h1, h2, h3, hp => by
  unfold bothF
  by_cases hmn : m = n ∧ own.isSome = true
  ·rw [if_pos hmn]
   obtain ⟨rfl, ho⟩ := hmn
   cases own with
   | none => cases ho
   | some z =>
    obtain ⟨p, q⟩ := z
    refine (sums_own 0 m p q sum a cap w hr (by omega) (hp p q rfl).1 (hp p q rfl).2).mono ?_
    rintro e w' ⟨rfl, hb⟩
    exact ⟨⟨sum, sum, hr, hr, rfl, fun q hq => (Option.some.inj hq).symm⟩, hb⟩
  ·rw [if_neg hmn]
   refine (sums_nil n m _ a cap w (fun h => hmn ⟨h.1, by cases own; exact absurd rfl h.2; rfl⟩)).mono ?_
   rintro e w' ⟨rfl, hb⟩
   exact ⟨⟨nulD, nulD, rfl, rfl, rfl, fun q hq => by cases hq⟩, hb⟩
 | x :: r, n, m, own, sum, a, cap, w, hs, hl, hc, hr, h1, h2, h3, hp => by
  have hl' : r.length + 1 ≤ cap := hl
  unfold bothF
  by_cases hmn : m = n ∧ own.isSome = true
  ·rw [if_pos hmn]
   obtain ⟨rfl, ho⟩ := hmn
   cases own with
   | none => cases ho
   | some z =>
    obtain ⟨p, q⟩ := z
    refine (sums_own (r.length + 1) m p q sum a cap w hr (by omega) (hp p q rfl).1 (hp p q rfl).2).mono ?_
    rintro e w' ⟨rfl, hb⟩
    exact ⟨⟨sum, sum, hr, hr, by
     have : (((r.length + 1 : Nat) : Int) == 0) = false := by rw [Bool.eq_false_iff]; simp only [ne_eq, beq_iff_eq]; omega
     rw [this]; rfl, fun q hq => by cases hq⟩, hb⟩
  rw [if_neg hmn]
  obtain ⟨b, o, rfl, hb⟩ : ∃ b o, a = some ⟨b, o, none⟩ ∧ b < w.heap.size := by
   have h := hs
   have hne : (x :: r).reverse ≠ [] := by simp
   revert h
   generalize (x :: r).reverse = l at *
   cases l with
   | nil => exact absurd rfl hne
   | cons y l => exact fun h => h.addr
  obtain ⟨hlast, hrest, hx⟩ := hs.last
  by_cases he : m = n
  ·rw [if_pos he]
   subst he
   obtain rfl : own = none := by cases own; rfl; exact absurd ⟨rfl, rfl⟩ hmn
   refine (sums_eq r.length m b o x cap w hx hb hl' hc hlast).mono ?_
   rintro e w' ⟨rfl, hb'⟩
   have hz : ((r.length : Int) == 0) = (r.length == 0) := by rw [Bool.eq_iff_iff]; simp only [beq_iff_eq]; omega
   refine ⟨⟨x, x, hx, hx, ?_, ?_⟩, hb'⟩
   ·rw [hz]
    by_cases h0 : r.length = 0
    ·rw [if_pos h0, h0]; rfl
    ·rw [if_neg h0, beq_eq_false_iff_ne.2 h0]; rfl
   ·intro q hq
    by_cases h0 : r.length = 0
    ·rw [if_pos h0] at hq; exact (Option.some.inj hq).symm
    ·rw [if_neg h0] at hq; cases hq
  ·rw [if_neg he]
   have hhb := halfN_bd n (by omega)
   by_cases hk : m ≤ halfN n
   ·rw [if_pos hk]
    exact sums_le r.length m n b o _ x _ cap w hx hb hl' hc hlast h1 (by omega) h3 hk (fun W hW => sums_any r (halfN n) m own sum (some ⟨b, o, none⟩) cap W (hrest.below hW) (by omega) hc hr h1 hk (by omega) (fun p q hpq => ⟨Nat.lt_of_lt_of_le (hp p q hpq).1 hW.size, fun j v hv => by rw [hW.cell (p := ⟨p, q + j, none⟩) (hp p q hpq).1]; exact (hp p q hpq).2 j v hv⟩))
   ·rw [if_neg hk]
    exact sums_gt r.length m n b o _ x _ cap w hx hb hl' hc hlast h1 (by omega) h3 (by omega) (fun W hW => sums_any r (n - halfN n) (m - halfN n) none sum (some ⟨b, o, none⟩) cap W (hrest.below hW) (by omega) hc hr (by omega) (by omega) (by omega) (fun p q hpq => by cases hpq))
set_option maxRecDepth 100000 in
set_option maxHeartbeats 1600000 in
theorem isExt_no (m n : Int) (osum sum : List UInt8) (a : Option Addr) (l cap : Nat) (w : World) (ho : osum.length = 8) (hs : sum.length = 8) (h : m < 0 ∨ n < m) :
  Calls Tryz.prog 113 #[headV m osum, headV n sum, .slice a l cap] w fun v w' => v = .returned (.bool false) ∧ Below w.heap.size w w' := by
 obtain ⟨s0, s1, s2, s3, s4, s5, s6, s7, rfl⟩ := list8 osum ho
 obtain ⟨t0, t1, t2, t3, t4, t5, t6, t7, rfl⟩ := list8 sum hs
 unfold headV u8c
 simp only [List.map_cons, List.map_nil]
 by_cases h0 : m < 0
 ·go_enter Tryz.func113, Tryz.ntmps113
  go_wp2
  go_ret
  exact ⟨rfl, ((Below.refl _ _).alloc (Nat.le_refl _) _).alloc (by simp) _⟩
 ·have h1 : n < m := by omega
  have h2 : ¬ m < 0 := h0
  go_enter Tryz.func113, Tryz.ntmps113
  go_wp2
  go_ret
  exact ⟨rfl, ((Below.refl _ _).alloc (Nat.le_refl _) _).alloc (by simp) _⟩
set_option maxRecDepth 100000 in
set_option maxHeartbeats 1600000 in
theorem isExt_zero (n : Int) (osum sum : List UInt8) (a : Option Addr) (l cap : Nat) (w : World) (ho : osum.length = 8) (hs : sum.length = 8) (h : 0 ≤ n) (hl : l ≤ 9223372036854775807) :
  Calls Tryz.prog 113 #[headV 0 osum, headV n sum, .slice a l cap] w fun v w' => v = .returned (.bool (l == 0 && osum == digB [])) ∧ Below w.heap.size w w' := by
 obtain ⟨s0, s1, s2, s3, s4, s5, s6, s7, rfl⟩ := list8 osum ho
 obtain ⟨t0, t1, t2, t3, t4, t5, t6, t7, rfl⟩ := list8 sum hs
 have hn : ¬ n < 0 := by omega
 have HB : Hid (Below w.heap.size w ((w.alloc (.cells ((Value.int .i64 0 :: [s0, s1, s2, s3, s4, s5, s6, s7].map u8c).toArray) 98)).alloc (.cells ((Value.int .i64 n :: [t0, t1, t2, t3, t4, t5, t6, t7].map u8c).toArray) 98))) := ((Below.refl _ _).alloc (Nat.le_refl _) _).alloc (by simp) _
 by_cases h0 : l = 0
 ·subst h0
  obtain ⟨y0, y1, y2, y3, y4, y5, y6, y7, hy⟩ := list8 (digB []) (digB_length _)
  have HD : Hid (∀ W, Calls Tryz.prog 119 #[.slice none 0 0] W fun e w' => e = .returned (dV [y0, y1, y2, y3, y4, y5, y6, y7]) ∧ Below W.heap.size W w') := fun W => by
   have h := sumP_any 1 [] none 0 W (by simp) (by simp) (by simp) (by simp) ⟨fun i hi => absurd hi (Nat.not_lt_zero _), by simp⟩
   rw [show dV [y0, y1, y2, y3, y4, y5, y6, y7] = dV (digB []) by rw [hy]]
   exact h
  rw [hy]
  have heq := eqD_run s0 s1 s2 s3 s4 s5 s6 s7 y0 y1 y2 y3 y4 y5 y6 y7
  have HE : Hid ((((0 : Nat) == 0) && ([s0, s1, s2, s3, s4, s5, s6, s7] == [y0, y1, y2, y3, y4, y5, y6, y7])) = ([s0, s1, s2, s3, s4, s5, s6, s7] == [y0, y1, y2, y3, y4, y5, y6, y7])) := rfl
  rw [HE.out]
  clear HE hy
  generalize ([s0, s1, s2, s3, s4, s5, s6, s7] == [y0, y1, y2, y3, y4, y5, y6, y7]) = eqv at *
  have HS := (RowV.new w 98 (Value.int .i64 0 :: [s0, s1, s2, s3, s4, s5, s6, s7].map u8c)).alloc (.cells ((Value.int .i64 n :: [t0, t1, t2, t3, t4, t5, t6, t7].map u8c).toArray) 98)
  unfold headV u8c at *
  unfold dV u8c at HD
  simp only [List.map_cons, List.map_nil] at *
  have c0 : ((w.alloc (.cells #[Value.int .i64 0, Value.int .u8 (s0.toNat : Int), Value.int .u8 (s1.toNat : Int), Value.int .u8 (s2.toNat : Int), Value.int .u8 (s3.toNat : Int), Value.int .u8 (s4.toNat : Int), Value.int .u8 (s5.toNat : Int), Value.int .u8 (s6.toNat : Int), Value.int .u8 (s7.toNat : Int)] 98)).alloc (.cells #[Value.int .i64 n, Value.int .u8 (t0.toNat : Int), Value.int .u8 (t1.toNat : Int), Value.int .u8 (t2.toNat : Int), Value.int .u8 (t3.toNat : Int), Value.int .u8 (t4.toNat : Int), Value.int .u8 (t5.toNat : Int), Value.int .u8 (t6.toNat : Int), Value.int .u8 (t7.toNat : Int)] 98)).cell? ⟨w.heap.size, 1, none⟩ = some (.int .u8 (s0.toNat : Int)) := RowV.cell? HS 1
  have c1 : ((w.alloc (.cells #[Value.int .i64 0, Value.int .u8 (s0.toNat : Int), Value.int .u8 (s1.toNat : Int), Value.int .u8 (s2.toNat : Int), Value.int .u8 (s3.toNat : Int), Value.int .u8 (s4.toNat : Int), Value.int .u8 (s5.toNat : Int), Value.int .u8 (s6.toNat : Int), Value.int .u8 (s7.toNat : Int)] 98)).alloc (.cells #[Value.int .i64 n, Value.int .u8 (t0.toNat : Int), Value.int .u8 (t1.toNat : Int), Value.int .u8 (t2.toNat : Int), Value.int .u8 (t3.toNat : Int), Value.int .u8 (t4.toNat : Int), Value.int .u8 (t5.toNat : Int), Value.int .u8 (t6.toNat : Int), Value.int .u8 (t7.toNat : Int)] 98)).cell? ⟨w.heap.size, 2, none⟩ = some (.int .u8 (s1.toNat : Int)) := RowV.cell? HS 2
  have c2 : ((w.alloc (.cells #[Value.int .i64 0, Value.int .u8 (s0.toNat : Int), Value.int .u8 (s1.toNat : Int), Value.int .u8 (s2.toNat : Int), Value.int .u8 (s3.toNat : Int), Value.int .u8 (s4.toNat : Int), Value.int .u8 (s5.toNat : Int), Value.int .u8 (s6.toNat : Int), Value.int .u8 (s7.toNat : Int)] 98)).alloc (.cells #[Value.int .i64 n, Value.int .u8 (t0.toNat : Int), Value.int .u8 (t1.toNat : Int), Value.int .u8 (t2.toNat : Int), Value.int .u8 (t3.toNat : Int), Value.int .u8 (t4.toNat : Int), Value.int .u8 (t5.toNat : Int), Value.int .u8 (t6.toNat : Int), Value.int .u8 (t7.toNat : Int)] 98)).cell? ⟨w.heap.size, 3, none⟩ = some (.int .u8 (s2.toNat : Int)) := RowV.cell? HS 3
  have c3 : ((w.alloc (.cells #[Value.int .i64 0, Value.int .u8 (s0.toNat : Int), Value.int .u8 (s1.toNat : Int), Value.int .u8 (s2.toNat : Int), Value.int .u8 (s3.toNat : Int), Value.int .u8 (s4.toNat : Int), Value.int .u8 (s5.toNat : Int), Value.int .u8 (s6.toNat : Int), Value.int .u8 (s7.toNat : Int)] 98)).alloc (.cells #[Value.int .i64 n, Value.int .u8 (t0.toNat : Int), Value.int .u8 (t1.toNat : Int), Value.int .u8 (t2.toNat : Int), Value.int .u8 (t3.toNat : Int), Value.int .u8 (t4.toNat : Int), Value.int .u8 (t5.toNat : Int), Value.int .u8 (t6.toNat : Int), Value.int .u8 (t7.toNat : Int)] 98)).cell? ⟨w.heap.size, 4, none⟩ = some (.int .u8 (s3.toNat : Int)) := RowV.cell? HS 4
  have c4 : ((w.alloc (.cells #[Value.int .i64 0, Value.int .u8 (s0.toNat : Int), Value.int .u8 (s1.toNat : Int), Value.int .u8 (s2.toNat : Int), Value.int .u8 (s3.toNat : Int), Value.int .u8 (s4.toNat : Int), Value.int .u8 (s5.toNat : Int), Value.int .u8 (s6.toNat : Int), Value.int .u8 (s7.toNat : Int)] 98)).alloc (.cells #[Value.int .i64 n, Value.int .u8 (t0.toNat : Int), Value.int .u8 (t1.toNat : Int), Value.int .u8 (t2.toNat : Int), Value.int .u8 (t3.toNat : Int), Value.int .u8 (t4.toNat : Int), Value.int .u8 (t5.toNat : Int), Value.int .u8 (t6.toNat : Int), Value.int .u8 (t7.toNat : Int)] 98)).cell? ⟨w.heap.size, 5, none⟩ = some (.int .u8 (s4.toNat : Int)) := RowV.cell? HS 5
  have c5 : ((w.alloc (.cells #[Value.int .i64 0, Value.int .u8 (s0.toNat : Int), Value.int .u8 (s1.toNat : Int), Value.int .u8 (s2.toNat : Int), Value.int .u8 (s3.toNat : Int), Value.int .u8 (s4.toNat : Int), Value.int .u8 (s5.toNat : Int), Value.int .u8 (s6.toNat : Int), Value.int .u8 (s7.toNat : Int)] 98)).alloc (.cells #[Value.int .i64 n, Value.int .u8 (t0.toNat : Int), Value.int .u8 (t1.toNat : Int), Value.int .u8 (t2.toNat : Int), Value.int .u8 (t3.toNat : Int), Value.int .u8 (t4.toNat : Int), Value.int .u8 (t5.toNat : Int), Value.int .u8 (t6.toNat : Int), Value.int .u8 (t7.toNat : Int)] 98)).cell? ⟨w.heap.size, 6, none⟩ = some (.int .u8 (s5.toNat : Int)) := RowV.cell? HS 6
  have c6 : ((w.alloc (.cells #[Value.int .i64 0, Value.int .u8 (s0.toNat : Int), Value.int .u8 (s1.toNat : Int), Value.int .u8 (s2.toNat : Int), Value.int .u8 (s3.toNat : Int), Value.int .u8 (s4.toNat : Int), Value.int .u8 (s5.toNat : Int), Value.int .u8 (s6.toNat : Int), Value.int .u8 (s7.toNat : Int)] 98)).alloc (.cells #[Value.int .i64 n, Value.int .u8 (t0.toNat : Int), Value.int .u8 (t1.toNat : Int), Value.int .u8 (t2.toNat : Int), Value.int .u8 (t3.toNat : Int), Value.int .u8 (t4.toNat : Int), Value.int .u8 (t5.toNat : Int), Value.int .u8 (t6.toNat : Int), Value.int .u8 (t7.toNat : Int)] 98)).cell? ⟨w.heap.size, 7, none⟩ = some (.int .u8 (s6.toNat : Int)) := RowV.cell? HS 7
  have c7 : ((w.alloc (.cells #[Value.int .i64 0, Value.int .u8 (s0.toNat : Int), Value.int .u8 (s1.toNat : Int), Value.int .u8 (s2.toNat : Int), Value.int .u8 (s3.toNat : Int), Value.int .u8 (s4.toNat : Int), Value.int .u8 (s5.toNat : Int), Value.int .u8 (s6.toNat : Int), Value.int .u8 (s7.toNat : Int)] 98)).alloc (.cells #[Value.int .i64 n, Value.int .u8 (t0.toNat : Int), Value.int .u8 (t1.toNat : Int), Value.int .u8 (t2.toNat : Int), Value.int .u8 (t3.toNat : Int), Value.int .u8 (t4.toNat : Int), Value.int .u8 (t5.toNat : Int), Value.int .u8 (t6.toNat : Int), Value.int .u8 (t7.toNat : Int)] 98)).cell? ⟨w.heap.size, 8, none⟩ = some (.int .u8 (s7.toNat : Int)) := RowV.cell? HS 8
  have HSH : Hid (RowV ((w.alloc (.cells #[Value.int .i64 0, Value.int .u8 (s0.toNat : Int), Value.int .u8 (s1.toNat : Int), Value.int .u8 (s2.toNat : Int), Value.int .u8 (s3.toNat : Int), Value.int .u8 (s4.toNat : Int), Value.int .u8 (s5.toNat : Int), Value.int .u8 (s6.toNat : Int), Value.int .u8 (s7.toNat : Int)] 98)).alloc (.cells #[Value.int .i64 n, Value.int .u8 (t0.toNat : Int), Value.int .u8 (t1.toNat : Int), Value.int .u8 (t2.toNat : Int), Value.int .u8 (t3.toNat : Int), Value.int .u8 (t4.toNat : Int), Value.int .u8 (t5.toNat : Int), Value.int .u8 (t6.toNat : Int), Value.int .u8 (t7.toNat : Int)] 98)) w.heap.size 98 _) := HS
  clear HS
  go_enter Tryz.func113, Tryz.ntmps113
  go_wp2
  go_region_held3 (fun W' => W'.cell? ⟨w.heap.size, 1, none⟩ = some (.int .u8 (s0.toNat : Int)) ∧ W'.cell? ⟨w.heap.size, 2, none⟩ = some (.int .u8 (s1.toNat : Int)) ∧ W'.cell? ⟨w.heap.size, 3, none⟩ = some (.int .u8 (s2.toNat : Int)) ∧ W'.cell? ⟨w.heap.size, 4, none⟩ = some (.int .u8 (s3.toNat : Int)) ∧ W'.cell? ⟨w.heap.size, 5, none⟩ = some (.int .u8 (s4.toNat : Int)) ∧ W'.cell? ⟨w.heap.size, 6, none⟩ = some (.int .u8 (s5.toNat : Int)) ∧ W'.cell? ⟨w.heap.size, 7, none⟩ = some (.int .u8 (s6.toNat : Int)) ∧ W'.cell? ⟨w.heap.size, 8, none⟩ = some (.int .u8 (s7.toNat : Int))) (go_keep)
   ((go_at_call 119; refine (HD.out _).mono ?_; rintro e w3 ⟨rfl, hb3⟩; have HB3 : Hid (Below w.heap.size w w3) := HB.out.trans (by have hq := hb3.mono HB.out.size; exact ⟨hq.os, hq.tape, hq.output, hq.size, hq.block⟩); have H3 := RowV.past hb3 (by exact HSH.out); have d0 : w3.cell? ⟨w.heap.size, 1, none⟩ = some (.int .u8 (s0.toNat : Int)) := RowV.cell? H3 1; have d1 : w3.cell? ⟨w.heap.size, 2, none⟩ = some (.int .u8 (s1.toNat : Int)) := RowV.cell? H3 2; have d2 : w3.cell? ⟨w.heap.size, 3, none⟩ = some (.int .u8 (s2.toNat : Int)) := RowV.cell? H3 3; have d3 : w3.cell? ⟨w.heap.size, 4, none⟩ = some (.int .u8 (s3.toNat : Int)) := RowV.cell? H3 4; have d4 : w3.cell? ⟨w.heap.size, 5, none⟩ = some (.int .u8 (s4.toNat : Int)) := RowV.cell? H3 5; have d5 : w3.cell? ⟨w.heap.size, 6, none⟩ = some (.int .u8 (s5.toNat : Int)) := RowV.cell? H3 6; have d6 : w3.cell? ⟨w.heap.size, 7, none⟩ = some (.int .u8 (s6.toNat : Int)) := RowV.cell? H3 7; have d7 : w3.cell? ⟨w.heap.size, 8, none⟩ = some (.int .u8 (s7.toNat : Int)) := RowV.cell? H3 8))
  all_goals
   go_wp2
   go_ret
   exact ⟨rfl, HB3.out⟩
 ·have hlI : ((l : Int) == 0) = false := by rw [Bool.eq_false_iff]; simp only [ne_eq, beq_iff_eq]; omega
  have hlN : (l == 0) = false := by rw [Bool.eq_false_iff]; simp only [ne_eq, beq_iff_eq]; omega
  have hlJ : (l : Int) ≤ 9223372036854775807 := by omega
  rw [hlN, Bool.false_and]
  clear hlN
  unfold headV u8c at *
  simp only [List.map_cons, List.map_nil] at *
  go_enter Tryz.func113, Tryz.ntmps113
  go_wp2
  go_quiet (fail)
  go_wp2
  go_ret
  exact ⟨rfl, by have hb := HB.out; exact ⟨hb.os, hb.tape, hb.output, hb.size, hb.block⟩⟩
set_option maxRecDepth 100000 in
set_option maxHeartbeats 1600000 in
theorem isExt_yes (n m : Nat) (osum sum : List UInt8) (r : List (List UInt8)) (a : Option Addr) (cap : Nat) (w : World) (ho : osum.length = 8) (hs : sum.length = 8) (hn : n ≤ 9223372036854775807) (hm : 1 ≤ m) (hmn : m ≤ n) (hp : SlD w a r.reverse) (hl : r.length ≤ cap) (hc : cap ≤ 9223372036854775807) :
  Calls Tryz.prog 113 #[headV m osum, headV n sum, .slice a r.length cap] w fun v w' => v = .returned (.bool (bothB (bothF m n true osum r) osum sum)) ∧ Below w.heap.size w w' := by
 obtain ⟨s0, s1, s2, s3, s4, s5, s6, s7, rfl⟩ := list8 osum ho
 obtain ⟨t0, t1, t2, t3, t4, t5, t6, t7, rfl⟩ := list8 sum hs
 have hA : Below w.heap.size w ((w.alloc (.cells ((Value.int .i64 (m : Int) :: [s0, s1, s2, s3, s4, s5, s6, s7].map u8c).toArray) 98)).alloc (.cells ((Value.int .i64 (n : Int) :: [t0, t1, t2, t3, t4, t5, t6, t7].map u8c).toArray) 98)) := ((Below.refl _ _).alloc (Nat.le_refl _) _).alloc (by simp) _
 have HS : RowV ((w.alloc (.cells ((Value.int .i64 (m : Int) :: [s0, s1, s2, s3, s4, s5, s6, s7].map u8c).toArray) 98)).alloc (.cells ((Value.int .i64 (n : Int) :: [t0, t1, t2, t3, t4, t5, t6, t7].map u8c).toArray) 98)) w.heap.size 98 (Value.int .i64 (m : Int) :: [s0, s1, s2, s3, s4, s5, s6, s7].map u8c) := (RowV.new w _ _).alloc _
 have HT : RowV ((w.alloc (.cells ((Value.int .i64 (m : Int) :: [s0, s1, s2, s3, s4, s5, s6, s7].map u8c).toArray) 98)).alloc (.cells ((Value.int .i64 (n : Int) :: [t0, t1, t2, t3, t4, t5, t6, t7].map u8c).toArray) 98)) (w.heap.size + 1) 98 (Value.int .i64 (n : Int) :: [t0, t1, t2, t3, t4, t5, t6, t7].map u8c) := RowV.new_at _ _ _ _ (by simp)
 have h00 := sums_any r n m (some (w.heap.size, 1)) [s0, s1, s2, s3, s4, s5, s6, s7] a cap _ (hp.below hA) hl hc rfl hm hmn hn (fun p q h => by cases h; exact ⟨HS.lt, fun j v hv => by have h := HS.range (j + 1) v (by simpa using hv); rw [Nat.add_comm 1 j]; simpa using h⟩)
 simp only [Option.isSome_some, Option.map_some] at h00
 have HC : Hid (Calls _ _ _ _ _) := h00
 clear h00
 generalize bothF m n true [s0, s1, s2, s3, s4, s5, s6, s7] r = O at *
 have h1 : ¬ (m : Int) < 0 := by omega
 have h2 : ¬ (n : Int) < m := by omega
 have h3 : ((m : Int) == 0) = false := by rw [Bool.eq_false_iff]; simp only [ne_eq, beq_iff_eq]; omega
 unfold headV at *
 unfold u8c at *
 simp only [List.map_cons, List.map_nil] at *
 go_enter Tryz.func113, Tryz.ntmps113
 go_wp2_with fail
 refine HC.out.mono ?_
 rintro v w3 ⟨⟨p, q, hp8, hq8, rfl, hO⟩, hb3⟩
 obtain ⟨y0, y1, y2, y3, y4, y5, y6, y7, rfl⟩ := list8 p hp8
 obtain ⟨z0, z1, z2, z3, z4, z5, z6, z7, rfl⟩ := list8 q hq8
 have S3 := ((RowV.past hb3 HS).alloc (.cells #[Value.int .u8 (y0.toNat : Int), Value.int .u8 (y1.toNat : Int), Value.int .u8 (y2.toNat : Int), Value.int .u8 (y3.toNat : Int), Value.int .u8 (y4.toNat : Int), Value.int .u8 (y5.toNat : Int), Value.int .u8 (y6.toNat : Int), Value.int .u8 (y7.toNat : Int)] 36)).alloc (.cells #[Value.int .u8 (z0.toNat : Int), Value.int .u8 (z1.toNat : Int), Value.int .u8 (z2.toNat : Int), Value.int .u8 (z3.toNat : Int), Value.int .u8 (z4.toNat : Int), Value.int .u8 (z5.toNat : Int), Value.int .u8 (z6.toNat : Int), Value.int .u8 (z7.toNat : Int)] 36)
 have T3 := ((RowV.past hb3 HT).alloc (.cells #[Value.int .u8 (y0.toNat : Int), Value.int .u8 (y1.toNat : Int), Value.int .u8 (y2.toNat : Int), Value.int .u8 (y3.toNat : Int), Value.int .u8 (y4.toNat : Int), Value.int .u8 (y5.toNat : Int), Value.int .u8 (y6.toNat : Int), Value.int .u8 (y7.toNat : Int)] 36)).alloc (.cells #[Value.int .u8 (z0.toNat : Int), Value.int .u8 (z1.toNat : Int), Value.int .u8 (z2.toNat : Int), Value.int .u8 (z3.toNat : Int), Value.int .u8 (z4.toNat : Int), Value.int .u8 (z5.toNat : Int), Value.int .u8 (z6.toNat : Int), Value.int .u8 (z7.toNat : Int)] 36)
 have c0 : ((w3.alloc (.cells #[Value.int .u8 (y0.toNat : Int), Value.int .u8 (y1.toNat : Int), Value.int .u8 (y2.toNat : Int), Value.int .u8 (y3.toNat : Int), Value.int .u8 (y4.toNat : Int), Value.int .u8 (y5.toNat : Int), Value.int .u8 (y6.toNat : Int), Value.int .u8 (y7.toNat : Int)] 36)).alloc (.cells #[Value.int .u8 (z0.toNat : Int), Value.int .u8 (z1.toNat : Int), Value.int .u8 (z2.toNat : Int), Value.int .u8 (z3.toNat : Int), Value.int .u8 (z4.toNat : Int), Value.int .u8 (z5.toNat : Int), Value.int .u8 (z6.toNat : Int), Value.int .u8 (z7.toNat : Int)] 36)).cell? ⟨w.heap.size, 1, none⟩ = some (.int .u8 (s0.toNat : Int)) := RowV.cell? S3 1
 have g0 : ((w3.alloc (.cells #[Value.int .u8 (y0.toNat : Int), Value.int .u8 (y1.toNat : Int), Value.int .u8 (y2.toNat : Int), Value.int .u8 (y3.toNat : Int), Value.int .u8 (y4.toNat : Int), Value.int .u8 (y5.toNat : Int), Value.int .u8 (y6.toNat : Int), Value.int .u8 (y7.toNat : Int)] 36)).alloc (.cells #[Value.int .u8 (z0.toNat : Int), Value.int .u8 (z1.toNat : Int), Value.int .u8 (z2.toNat : Int), Value.int .u8 (z3.toNat : Int), Value.int .u8 (z4.toNat : Int), Value.int .u8 (z5.toNat : Int), Value.int .u8 (z6.toNat : Int), Value.int .u8 (z7.toNat : Int)] 36)).cell? ⟨w.heap.size + 1, 1, none⟩ = some (.int .u8 (t0.toNat : Int)) := RowV.cell? T3 1
 have c1 : ((w3.alloc (.cells #[Value.int .u8 (y0.toNat : Int), Value.int .u8 (y1.toNat : Int), Value.int .u8 (y2.toNat : Int), Value.int .u8 (y3.toNat : Int), Value.int .u8 (y4.toNat : Int), Value.int .u8 (y5.toNat : Int), Value.int .u8 (y6.toNat : Int), Value.int .u8 (y7.toNat : Int)] 36)).alloc (.cells #[Value.int .u8 (z0.toNat : Int), Value.int .u8 (z1.toNat : Int), Value.int .u8 (z2.toNat : Int), Value.int .u8 (z3.toNat : Int), Value.int .u8 (z4.toNat : Int), Value.int .u8 (z5.toNat : Int), Value.int .u8 (z6.toNat : Int), Value.int .u8 (z7.toNat : Int)] 36)).cell? ⟨w.heap.size, 2, none⟩ = some (.int .u8 (s1.toNat : Int)) := RowV.cell? S3 2
 have g1 : ((w3.alloc (.cells #[Value.int .u8 (y0.toNat : Int), Value.int .u8 (y1.toNat : Int), Value.int .u8 (y2.toNat : Int), Value.int .u8 (y3.toNat : Int), Value.int .u8 (y4.toNat : Int), Value.int .u8 (y5.toNat : Int), Value.int .u8 (y6.toNat : Int), Value.int .u8 (y7.toNat : Int)] 36)).alloc (.cells #[Value.int .u8 (z0.toNat : Int), Value.int .u8 (z1.toNat : Int), Value.int .u8 (z2.toNat : Int), Value.int .u8 (z3.toNat : Int), Value.int .u8 (z4.toNat : Int), Value.int .u8 (z5.toNat : Int), Value.int .u8 (z6.toNat : Int), Value.int .u8 (z7.toNat : Int)] 36)).cell? ⟨w.heap.size + 1, 2, none⟩ = some (.int .u8 (t1.toNat : Int)) := RowV.cell? T3 2
 have c2 : ((w3.alloc (.cells #[Value.int .u8 (y0.toNat : Int), Value.int .u8 (y1.toNat : Int), Value.int .u8 (y2.toNat : Int), Value.int .u8 (y3.toNat : Int), Value.int .u8 (y4.toNat : Int), Value.int .u8 (y5.toNat : Int), Value.int .u8 (y6.toNat : Int), Value.int .u8 (y7.toNat : Int)] 36)).alloc (.cells #[Value.int .u8 (z0.toNat : Int), Value.int .u8 (z1.toNat : Int), Value.int .u8 (z2.toNat : Int), Value.int .u8 (z3.toNat : Int), Value.int .u8 (z4.toNat : Int), Value.int .u8 (z5.toNat : Int), Value.int .u8 (z6.toNat : Int), Value.int .u8 (z7.toNat : Int)] 36)).cell? ⟨w.heap.size, 3, none⟩ = some (.int .u8 (s2.toNat : Int)) := RowV.cell? S3 3
 have g2 : ((w3.alloc (.cells #[Value.int .u8 (y0.toNat : Int), Value.int .u8 (y1.toNat : Int), Value.int .u8 (y2.toNat : Int), Value.int .u8 (y3.toNat : Int), Value.int .u8 (y4.toNat : Int), Value.int .u8 (y5.toNat : Int), Value.int .u8 (y6.toNat : Int), Value.int .u8 (y7.toNat : Int)] 36)).alloc (.cells #[Value.int .u8 (z0.toNat : Int), Value.int .u8 (z1.toNat : Int), Value.int .u8 (z2.toNat : Int), Value.int .u8 (z3.toNat : Int), Value.int .u8 (z4.toNat : Int), Value.int .u8 (z5.toNat : Int), Value.int .u8 (z6.toNat : Int), Value.int .u8 (z7.toNat : Int)] 36)).cell? ⟨w.heap.size + 1, 3, none⟩ = some (.int .u8 (t2.toNat : Int)) := RowV.cell? T3 3
 have c3 : ((w3.alloc (.cells #[Value.int .u8 (y0.toNat : Int), Value.int .u8 (y1.toNat : Int), Value.int .u8 (y2.toNat : Int), Value.int .u8 (y3.toNat : Int), Value.int .u8 (y4.toNat : Int), Value.int .u8 (y5.toNat : Int), Value.int .u8 (y6.toNat : Int), Value.int .u8 (y7.toNat : Int)] 36)).alloc (.cells #[Value.int .u8 (z0.toNat : Int), Value.int .u8 (z1.toNat : Int), Value.int .u8 (z2.toNat : Int), Value.int .u8 (z3.toNat : Int), Value.int .u8 (z4.toNat : Int), Value.int .u8 (z5.toNat : Int), Value.int .u8 (z6.toNat : Int), Value.int .u8 (z7.toNat : Int)] 36)).cell? ⟨w.heap.size, 4, none⟩ = some (.int .u8 (s3.toNat : Int)) := RowV.cell? S3 4
 have g3 : ((w3.alloc (.cells #[Value.int .u8 (y0.toNat : Int), Value.int .u8 (y1.toNat : Int), Value.int .u8 (y2.toNat : Int), Value.int .u8 (y3.toNat : Int), Value.int .u8 (y4.toNat : Int), Value.int .u8 (y5.toNat : Int), Value.int .u8 (y6.toNat : Int), Value.int .u8 (y7.toNat : Int)] 36)).alloc (.cells #[Value.int .u8 (z0.toNat : Int), Value.int .u8 (z1.toNat : Int), Value.int .u8 (z2.toNat : Int), Value.int .u8 (z3.toNat : Int), Value.int .u8 (z4.toNat : Int), Value.int .u8 (z5.toNat : Int), Value.int .u8 (z6.toNat : Int), Value.int .u8 (z7.toNat : Int)] 36)).cell? ⟨w.heap.size + 1, 4, none⟩ = some (.int .u8 (t3.toNat : Int)) := RowV.cell? T3 4
 have c4 : ((w3.alloc (.cells #[Value.int .u8 (y0.toNat : Int), Value.int .u8 (y1.toNat : Int), Value.int .u8 (y2.toNat : Int), Value.int .u8 (y3.toNat : Int), Value.int .u8 (y4.toNat : Int), Value.int .u8 (y5.toNat : Int), Value.int .u8 (y6.toNat : Int), Value.int .u8 (y7.toNat : Int)] 36)).alloc (.cells #[Value.int .u8 (z0.toNat : Int), Value.int .u8 (z1.toNat : Int), Value.int .u8 (z2.toNat : Int), Value.int .u8 (z3.toNat : Int), Value.int .u8 (z4.toNat : Int), Value.int .u8 (z5.toNat : Int), Value.int .u8 (z6.toNat : Int), Value.int .u8 (z7.toNat : Int)] 36)).cell? ⟨w.heap.size, 5, none⟩ = some (.int .u8 (s4.toNat : Int)) := RowV.cell? S3 5
 have g4 : ((w3.alloc (.cells #[Value.int .u8 (y0.toNat : Int), Value.int .u8 (y1.toNat : Int), Value.int .u8 (y2.toNat : Int), Value.int .u8 (y3.toNat : Int), Value.int .u8 (y4.toNat : Int), Value.int .u8 (y5.toNat : Int), Value.int .u8 (y6.toNat : Int), Value.int .u8 (y7.toNat : Int)] 36)).alloc (.cells #[Value.int .u8 (z0.toNat : Int), Value.int .u8 (z1.toNat : Int), Value.int .u8 (z2.toNat : Int), Value.int .u8 (z3.toNat : Int), Value.int .u8 (z4.toNat : Int), Value.int .u8 (z5.toNat : Int), Value.int .u8 (z6.toNat : Int), Value.int .u8 (z7.toNat : Int)] 36)).cell? ⟨w.heap.size + 1, 5, none⟩ = some (.int .u8 (t4.toNat : Int)) := RowV.cell? T3 5
 have c5 : ((w3.alloc (.cells #[Value.int .u8 (y0.toNat : Int), Value.int .u8 (y1.toNat : Int), Value.int .u8 (y2.toNat : Int), Value.int .u8 (y3.toNat : Int), Value.int .u8 (y4.toNat : Int), Value.int .u8 (y5.toNat : Int), Value.int .u8 (y6.toNat : Int), Value.int .u8 (y7.toNat : Int)] 36)).alloc (.cells #[Value.int .u8 (z0.toNat : Int), Value.int .u8 (z1.toNat : Int), Value.int .u8 (z2.toNat : Int), Value.int .u8 (z3.toNat : Int), Value.int .u8 (z4.toNat : Int), Value.int .u8 (z5.toNat : Int), Value.int .u8 (z6.toNat : Int), Value.int .u8 (z7.toNat : Int)] 36)).cell? ⟨w.heap.size, 6, none⟩ = some (.int .u8 (s5.toNat : Int)) := RowV.cell? S3 6
 have g5 : ((w3.alloc (.cells #[Value.int .u8 (y0.toNat : Int), Value.int .u8 (y1.toNat : Int), Value.int .u8 (y2.toNat : Int), Value.int .u8 (y3.toNat : Int), Value.int .u8 (y4.toNat : Int), Value.int .u8 (y5.toNat : Int), Value.int .u8 (y6.toNat : Int), Value.int .u8 (y7.toNat : Int)] 36)).alloc (.cells #[Value.int .u8 (z0.toNat : Int), Value.int .u8 (z1.toNat : Int), Value.int .u8 (z2.toNat : Int), Value.int .u8 (z3.toNat : Int), Value.int .u8 (z4.toNat : Int), Value.int .u8 (z5.toNat : Int), Value.int .u8 (z6.toNat : Int), Value.int .u8 (z7.toNat : Int)] 36)).cell? ⟨w.heap.size + 1, 6, none⟩ = some (.int .u8 (t5.toNat : Int)) := RowV.cell? T3 6
 have c6 : ((w3.alloc (.cells #[Value.int .u8 (y0.toNat : Int), Value.int .u8 (y1.toNat : Int), Value.int .u8 (y2.toNat : Int), Value.int .u8 (y3.toNat : Int), Value.int .u8 (y4.toNat : Int), Value.int .u8 (y5.toNat : Int), Value.int .u8 (y6.toNat : Int), Value.int .u8 (y7.toNat : Int)] 36)).alloc (.cells #[Value.int .u8 (z0.toNat : Int), Value.int .u8 (z1.toNat : Int), Value.int .u8 (z2.toNat : Int), Value.int .u8 (z3.toNat : Int), Value.int .u8 (z4.toNat : Int), Value.int .u8 (z5.toNat : Int), Value.int .u8 (z6.toNat : Int), Value.int .u8 (z7.toNat : Int)] 36)).cell? ⟨w.heap.size, 7, none⟩ = some (.int .u8 (s6.toNat : Int)) := RowV.cell? S3 7
 have g6 : ((w3.alloc (.cells #[Value.int .u8 (y0.toNat : Int), Value.int .u8 (y1.toNat : Int), Value.int .u8 (y2.toNat : Int), Value.int .u8 (y3.toNat : Int), Value.int .u8 (y4.toNat : Int), Value.int .u8 (y5.toNat : Int), Value.int .u8 (y6.toNat : Int), Value.int .u8 (y7.toNat : Int)] 36)).alloc (.cells #[Value.int .u8 (z0.toNat : Int), Value.int .u8 (z1.toNat : Int), Value.int .u8 (z2.toNat : Int), Value.int .u8 (z3.toNat : Int), Value.int .u8 (z4.toNat : Int), Value.int .u8 (z5.toNat : Int), Value.int .u8 (z6.toNat : Int), Value.int .u8 (z7.toNat : Int)] 36)).cell? ⟨w.heap.size + 1, 7, none⟩ = some (.int .u8 (t6.toNat : Int)) := RowV.cell? T3 7
 have c7 : ((w3.alloc (.cells #[Value.int .u8 (y0.toNat : Int), Value.int .u8 (y1.toNat : Int), Value.int .u8 (y2.toNat : Int), Value.int .u8 (y3.toNat : Int), Value.int .u8 (y4.toNat : Int), Value.int .u8 (y5.toNat : Int), Value.int .u8 (y6.toNat : Int), Value.int .u8 (y7.toNat : Int)] 36)).alloc (.cells #[Value.int .u8 (z0.toNat : Int), Value.int .u8 (z1.toNat : Int), Value.int .u8 (z2.toNat : Int), Value.int .u8 (z3.toNat : Int), Value.int .u8 (z4.toNat : Int), Value.int .u8 (z5.toNat : Int), Value.int .u8 (z6.toNat : Int), Value.int .u8 (z7.toNat : Int)] 36)).cell? ⟨w.heap.size, 8, none⟩ = some (.int .u8 (s7.toNat : Int)) := RowV.cell? S3 8
 have g7 : ((w3.alloc (.cells #[Value.int .u8 (y0.toNat : Int), Value.int .u8 (y1.toNat : Int), Value.int .u8 (y2.toNat : Int), Value.int .u8 (y3.toNat : Int), Value.int .u8 (y4.toNat : Int), Value.int .u8 (y5.toNat : Int), Value.int .u8 (y6.toNat : Int), Value.int .u8 (y7.toNat : Int)] 36)).alloc (.cells #[Value.int .u8 (z0.toNat : Int), Value.int .u8 (z1.toNat : Int), Value.int .u8 (z2.toNat : Int), Value.int .u8 (z3.toNat : Int), Value.int .u8 (z4.toNat : Int), Value.int .u8 (z5.toNat : Int), Value.int .u8 (z6.toNat : Int), Value.int .u8 (z7.toNat : Int)] 36)).cell? ⟨w.heap.size + 1, 8, none⟩ = some (.int .u8 (t7.toNat : Int)) := RowV.cell? T3 8
 have heq1 := eqD_run y0 y1 y2 y3 y4 y5 y6 y7 s0 s1 s2 s3 s4 s5 s6 s7
 have heq2 := eqD_run z0 z1 z2 z3 z4 z5 z6 z7 t0 t1 t2 t3 t4 t5 t6 t7
 have HV : Hid (bothB O [s0, s1, s2, s3, s4, s5, s6, s7] [t0, t1, t2, t3, t4, t5, t6, t7] = (O.isSome && (([y0, y1, y2, y3, y4, y5, y6, y7] == [s0, s1, s2, s3, s4, s5, s6, s7]) && ([z0, z1, z2, z3, z4, z5, z6, z7] == [t0, t1, t2, t3, t4, t5, t6, t7])))) := by
  cases hOO : O with
  | none => rfl
  | some q =>
   have := hO q hOO
   subst this
   rfl
 clear hO
 have HB3 : Hid (Below w.heap.size w ((w3.alloc (.cells #[Value.int .u8 (y0.toNat : Int), Value.int .u8 (y1.toNat : Int), Value.int .u8 (y2.toNat : Int), Value.int .u8 (y3.toNat : Int), Value.int .u8 (y4.toNat : Int), Value.int .u8 (y5.toNat : Int), Value.int .u8 (y6.toNat : Int), Value.int .u8 (y7.toNat : Int)] 36)).alloc (.cells #[Value.int .u8 (z0.toNat : Int), Value.int .u8 (z1.toNat : Int), Value.int .u8 (z2.toNat : Int), Value.int .u8 (z3.toNat : Int), Value.int .u8 (z4.toNat : Int), Value.int .u8 (z5.toNat : Int), Value.int .u8 (z6.toNat : Int), Value.int .u8 (z7.toNat : Int)] 36))) := ((hA.trans (hb3.mono hA.size)).alloc (hA.trans (hb3.mono hA.size)).size _).alloc (by have := (hA.trans (hb3.mono hA.size)).size; simp; omega) _
 generalize ([y0, y1, y2, y3, y4, y5, y6, y7] == [s0, s1, s2, s3, s4, s5, s6, s7]) = eq1 at *
 generalize ([z0, z1, z2, z3, z4, z5, z6, z7] == [t0, t1, t2, t3, t4, t5, t6, t7]) = eq2 at *
 generalize O.isSome = ok at *
 clear hb3 hA HS HT S3 T3
 unfold dV u8c
 simp only [List.map_cons, List.map_nil]
 cases ok
 ·go_wp2
  go_ret
  exact ⟨by rw [HV.out]; rfl, HB3.out⟩
 ·cases eq1
  all_goals
   go_wp2
   go_ret
   exact ⟨by rw [HV.out]; rfl, HB3.out⟩
theorem isExt_any (m n : Int) (osum sum : List UInt8) (r : List (List UInt8)) (a : Option Addr) (cap : Nat) (w : World) (ho : osum.length = 8) (hs : sum.length = 8) (hn : n ≤ 9223372036854775807) (hp : SlD w a r.reverse) (hl : r.length ≤ cap) (hc : cap ≤ 9223372036854775807) :
  Calls Tryz.prog 113 #[headV m osum, headV n sum, .slice a r.length cap] w fun v w' => v = .returned (.bool (extF m n osum sum r)) ∧ Below w.heap.size w w' := by
 unfold extF
 by_cases h : m < 0 ∨ n < m
 ·rw [if_pos h]
  exact isExt_no m n osum sum a r.length cap w ho hs h
 ·rw [if_neg h]
  by_cases h0 : m = 0
  ·rw [if_pos h0]
   subst h0
   exact isExt_zero n osum sum a r.length cap w ho hs (by omega) (by omega)
  ·rw [if_neg h0]
   obtain ⟨n', rfl⟩ : ∃ n' : Nat, n = n' := ⟨n.toNat, by omega⟩
   obtain ⟨m', rfl⟩ : ∃ m' : Nat, m = m' := ⟨m.toNat, by omega⟩
   simp only [Int.toNat_natCast]
   exact isExt_yes n' m' osum sum r a cap w ho hs (by omega) (by omega) (by omega) hp hl hc
set_option maxRecDepth 100000 in
set_option maxHeartbeats 1600000 in
theorem extP_any (m n : Int) (osum sum : List UInt8) (r : List (List UInt8)) (a : Option Addr) (cap : Nat) (w : World) (ho : osum.length = 8) (hs : sum.length = 8) (hn : n ≤ 9223372036854775807) (hp : SlD w a r.reverse) (hl : r.length ≤ cap) (hc : cap ≤ 9223372036854775807) :
  Calls Tryz.prog 76 #[headV m osum, headV n sum, .slice a r.length cap] w fun v w' => v = .returned (.bool (extF m n osum sum r)) ∧ Below w.heap.size w w' := by
 have hA : Below w.heap.size w ((w.alloc (.cells ((Value.int .i64 m :: osum.map u8c).toArray) 98)).alloc (.cells ((Value.int .i64 n :: sum.map u8c).toArray) 98)) := ((Below.refl _ _).alloc (Nat.le_refl _) _).alloc (by simp) _
 have HC : Hid (Calls _ _ _ _ _) := isExt_any m n osum sum r a cap _ ho hs hn (hp.below hA) hl hc
 obtain ⟨s0, s1, s2, s3, s4, s5, s6, s7, rfl⟩ := list8 osum ho
 obtain ⟨x0, x1, x2, x3, x4, x5, x6, x7, rfl⟩ := list8 sum hs
 generalize extF m n [s0, s1, s2, s3, s4, s5, s6, s7] [x0, x1, x2, x3, x4, x5, x6, x7] r = v at *
 unfold headV u8c at *
 simp only [List.map_cons, List.map_nil] at *
 go_enter Tryz.func76, Tryz.ntmps76
 go_wp2_with fail
 refine HC.out.mono ?_
 rintro e w3 ⟨rfl, hb3⟩
 go_wp2
 go_ret
 exact ⟨rfl, hA.trans (hb3.mono hA.size)⟩
end Go.Proofs.YtekegfbjbainhaaGreat


namespace Go.Proofs.YtekegfbjbainhaaGreat
open Go.RowKit
attribute [local go_sem ↓] Go.wp_at_zero Go.wp_at_succ
set_option maxRecDepth 100000 in
set_option maxHeartbeats 1600000 in
theorem on_any (m n : Int) (osum sum : List UInt8) (l : List (List UInt8)) (a : Option Addr) (cap : Nat) (w : World) (ho : osum.length = 8) (hs : sum.length = 8) (hn : n ≤ 9223372036854775807) (hp : SlD w a l) (hl : l.length ≤ 17592186044416) (hlc : l.length ≤ cap) (hc : cap ≤ 9223372036854775807) (ha : (a = none ∧ l = [] ∧ cap = 0) ∨ ∃ ad, a = some ad) :
  Calls Tryz.prog 39 #[headV m osum, headV n sum, .slice a l.length cap] w fun v w' => v = .returned (.bool true) ∧ Below w.heap.size w w' := by
 have hB0 : Below w.heap.size w ((w.alloc (.cells ((Value.int .i64 m :: osum.map u8c).toArray) 98)).alloc (.cells ((Value.int .i64 n :: sum.map u8c).toArray) 98)) := ((Below.refl _ _).alloc (Nat.le_refl _) _).alloc (by simp) _
 have hA0 : RowV ((w.alloc (.cells ((Value.int .i64 m :: osum.map u8c).toArray) 98)).alloc (.cells ((Value.int .i64 n :: sum.map u8c).toArray) 98)) w.heap.size 98 (Value.int .i64 m :: osum.map u8c) := (RowV.new w _ _).alloc _
 have hX0 : RowV ((w.alloc (.cells ((Value.int .i64 m :: osum.map u8c).toArray) 98)).alloc (.cells ((Value.int .i64 n :: sum.map u8c).toArray) 98)) (w.heap.size + 1) 98 (Value.int .i64 n :: sum.map u8c) := RowV.new_at _ _ _ _ (by simp)
 have HV : Hid (∀ (W : World) (a' : Option Addr) (cap' : Nat), SlD W a' l → l.length ≤ cap' → cap' ≤ 9223372036854775807 → Calls Tryz.prog 76 #[headV m osum, headV n sum, .slice a' l.length cap'] W fun v w' => v = .returned (.bool (extF m n osum sum l.reverse)) ∧ Below W.heap.size W w') := fun W a' cap' h1 h2 h3 => by
  have h := extP_any m n osum sum l.reverse a' cap' W ho hs hn (by rw [List.reverse_reverse]; exact h1) (by rw [List.length_reverse]; exact h2) h3
  rw [List.length_reverse] at h
  exact h
 have HR : Hid (∀ (W : World) (a' : Option Addr) (cap' : Nat), SlD W a' l → l.length ≤ cap' → cap' ≤ 9223372036854775807 → Calls Tryz.prog 77 #[headV m osum, headV n sum, .slice a' l.length cap'] W fun v w' => v = .returned (.bool (extF m n osum sum l.reverse)) ∧ Below W.heap.size W w') := fun W a' cap' h1 h2 h3 => by
  have h := checkExt_any m n osum sum l.reverse a' cap' W ho hs hn (by rw [List.reverse_reverse]; exact h1) (by rw [List.length_reverse]; exact h2) h3
  rw [List.length_reverse] at h
  exact h
 generalize extF m n osum sum l.reverse = q at *
 rw [show headV m osum = .agg (Value.int .i64 m :: osum.map u8c).toArray from rfl, show headV n sum = .agg (Value.int .i64 n :: sum.map u8c).toArray from rfl]
 have hz0 : ((w.alloc (.cells ((Value.int .i64 m :: osum.map u8c).toArray) 98)).alloc (.cells ((Value.int .i64 n :: sum.map u8c).toArray) 98)).heap.size = w.heap.size + 1 + 1 := by simp
 rcases ha with ⟨rfl, rfl, rfl⟩ | ⟨ad, rfl⟩
 ·go_enter Tryz.func39, Tryz.ntmps39
  go_wp2_with fail
  refine (lentPath_nil _).mono ?_
  rintro v w1 ⟨rfl, rfl⟩
  go_wp2_with (first | (refine wpList_load_mid (by rfl) 98 (.tmp 3) (by rfl) w.heap.size 0 (by rfl) (Value.int .i64 m :: osum.map u8c) _ (by exact hA0.range) Tryz.underlying98 (by rfl) (by simpa [ho] using Tryz.sizeHead) ?_) | (refine wpList_load_mid (by rfl) 98 (.tmp 4) (by rfl) (w.heap.size + 1) 0 (by rfl) (Value.int .i64 n :: sum.map u8c) _ (by exact hX0.range) Tryz.underlying98 (by rfl) (by simpa [hs] using Tryz.sizeHead) ?_))
  refine (HV.out _ none 0 (hp.below hB0) (Nat.le_refl _) (by omega)).mono ?_
  rintro v w2 ⟨rfl, hb2⟩
  have hB2 : Below w.heap.size w w2 := hB0.trans (hb2.mono hB0.size)
  have hA2 := RowV.past hb2 hA0
  have hX2 := RowV.past hb2 hX0
  clear hb2
  go_wp2_with fail
  refine (backPath_nil _).mono ?_
  rintro v w3 ⟨rfl, rfl⟩
  go_wp2_with (first | (refine wpList_load_mid (by rfl) 98 (.tmp 3) (by rfl) w.heap.size 0 (by rfl) (Value.int .i64 m :: osum.map u8c) _ (by exact hA2.range) Tryz.underlying98 (by rfl) (by simpa [ho] using Tryz.sizeHead) ?_) | (refine wpList_load_mid (by rfl) 98 (.tmp 4) (by rfl) (w.heap.size + 1) 0 (by rfl) (Value.int .i64 n :: sum.map u8c) _ (by exact hX2.range) Tryz.underlying98 (by rfl) (by simpa [hs] using Tryz.sizeHead) ?_))
  refine (HR.out _ none 0 (hp.below hB2) (Nat.le_refl _) (by omega)).mono ?_
  rintro v w4 ⟨rfl, hb4⟩
  go_wp2
  go_ret
  exact ⟨by cases q <;> rfl, hB2.trans (hb4.mono hB2.size)⟩
 ·go_enter Tryz.func39, Tryz.ntmps39
  go_wp2_with fail
  refine (lentPath_some l ad cap _ (hp.below hB0) hl).mono ?_
  rintro v w1 ⟨rfl, hr1, hb1⟩
  have hB1 : Below w.heap.size w w1 := hB0.trans (hb1.mono hB0.size)
  have hA1 := RowV.past hb1 hA0
  have hX1 := RowV.past hb1 hX0
  have hC1 : SlD w1 (some ⟨((w.alloc (.cells ((Value.int .i64 m :: osum.map u8c).toArray) 98)).alloc (.cells ((Value.int .i64 n :: sum.map u8c).toArray) 98)).heap.size, 0, none⟩) l := ⟨fun i hi => ⟨_, 0, rfl, hr1.lt, by
   rw [Nat.zero_add, RowV.cell? hr1 i]
   unfold lentC
   rw [List.getElem?_append_left hi, List.getElem?_eq_getElem hi]⟩, hp.2⟩
  have hbl := hr1.lt
  clear hb1
  rw [hz0] at hr1 hC1 hbl
  go_wp2_with (first | (refine wpList_load_mid (by rfl) 98 (.tmp 3) (by rfl) w.heap.size 0 (by rfl) (Value.int .i64 m :: osum.map u8c) _ (by exact hA1.range) Tryz.underlying98 (by rfl) (by simpa [ho] using Tryz.sizeHead) ?_) | (refine wpList_load_mid (by rfl) 98 (.tmp 4) (by rfl) (w.heap.size + 1) 0 (by rfl) (Value.int .i64 n :: sum.map u8c) _ (by exact hX1.range) Tryz.underlying98 (by rfl) (by simpa [hs] using Tryz.sizeHead) ?_))
  refine (HV.out _ _ (l.length + 8) (by exact hC1) (by omega) (by omega)).mono ?_
  rintro v w2 ⟨rfl, hb2⟩
  have hB2 : Below w.heap.size w w2 := hB1.trans (hb2.mono hB1.size)
  have hA2 := RowV.past hb2 hA1
  have hX2 := RowV.past hb2 hX1
  have hr2 := RowV.past hb2 hr1
  clear hb2 hC1
  go_wp2_with fail
  refine (backPath_some l ad _ cap _ (hp.below hB2) hl (by exact hr2)).mono ?_
  rintro v w3 ⟨rfl, hf3⟩
  have hB3 : Below w.heap.size w w3 := hB2.trans (hf3.below hB2.size (fun k hk => by omega))
  have hA3 : RowV w3 w.heap.size 98 (Value.int .i64 m :: osum.map u8c) := hA2.of_block (hf3.block _ hA2.lt (fun e => by omega))
  have hX3 : RowV w3 (w.heap.size + 1) 98 (Value.int .i64 n :: sum.map u8c) := hX2.of_block (hf3.block _ hX2.lt (fun e => by omega))
  clear hf3
  go_wp2_with (first | (refine wpList_load_mid (by rfl) 98 (.tmp 3) (by rfl) w.heap.size 0 (by rfl) (Value.int .i64 m :: osum.map u8c) _ (by exact hA3.range) Tryz.underlying98 (by rfl) (by simpa [ho] using Tryz.sizeHead) ?_) | (refine wpList_load_mid (by rfl) 98 (.tmp 4) (by rfl) (w.heap.size + 1) 0 (by rfl) (Value.int .i64 n :: sum.map u8c) _ (by exact hX3.range) Tryz.underlying98 (by rfl) (by simpa [hs] using Tryz.sizeHead) ?_))
  refine (HR.out _ _ cap (hp.below hB3) hlc hc).mono ?_
  rintro v w4 ⟨rfl, hb4⟩
  go_wp2
  go_ret
  exact ⟨by cases q <;> rfl, hB3.trans (hb4.mono hB3.size)⟩
end Go.Proofs.YtekegfbjbainhaaGreat


namespace Go.Proofs.YtekegfbjbainhaaGreat
open Go.RowKit
set_option maxRecDepth 100000 in
theorem new_any (w : World) : Calls Tryz.prog 36 #[] w fun e w' => e = .returned (.pointer (some ⟨w.heap.size, 0, none⟩)) ∧ w' = w.alloc (.cells #[.slice none 0 0, .map none, .slice none 0 0] 130) := by
 go_enter Tryz.func36, Tryz.ntmps36
 go_wp2
 go_ret
 exact ⟨rfl, rfl⟩
def newD (pb sb rb : Nat) : PairD := ⟨pb, sb, rb, ⟨none, 0, 0⟩, 0, [], 0, ⟨none, 0, 0⟩, ⟨none, 0, 0⟩, none, [], [], [], [], ⟨none, 0, 0⟩, ⟨none, 0, 0⟩, ⟨none, 0, 0⟩, [], [], [], [], []⟩
theorem newD_F {pb sb rb k : Nat} (h : (newD pb sb rb).F k) : k = pb ∨ k = sb ∨ k = rb := by
 rcases h with (h | h) | h | h
 ·exact Or.inl h
 ·cases h
 ·rcases h with ((h | h | ⟨e, he, _⟩) | (h | ⟨x, hx, _⟩) | ⟨e, he, _⟩ | h | ⟨nd, hn, _⟩) | ⟨L, hL, _⟩
  ·exact Or.inr (Or.inl h)
  ·cases h
  ·cases he
  ·cases h
  ·cases hx
  ·cases he
  ·cases h
  ·cases hn
  ·cases hL
 ·rcases h with h | h | h | h | ⟨q, hq, _⟩
  ·exact Or.inr (Or.inr h)
  ·cases h
  ·cases h
  ·cases h
  ·cases hq
theorem newD_s {pb sb rb k : Nat} (h : (newD pb sb rb).sF k) : k = sb := by
 rcases h with ((h | h | ⟨e, he, _⟩) | (h | ⟨x, hx, _⟩) | ⟨e, he, _⟩ | h | ⟨nd, hn, _⟩) | ⟨L, hL, _⟩
 ·exact h
 ·cases h
 ·cases he
 ·cases h
 ·cases hx
 ·cases he
 ·cases h
 ·cases hn
 ·cases hL
theorem newD_r {pb sb rb k : Nat} (h : (newD pb sb rb).rF k) : k = rb := by
 rcases h with h | h | h | h | ⟨q, hq, _⟩
 ·exact h
 ·cases h
 ·cases h
 ·cases h
 ·cases hq
theorem newD_o {pb sb rb k : Nat} (h : (newD pb sb rb).oF k) : k = pb := by
 rcases h with h | h
 ·exact h
 ·cases h
theorem pair_new {w : World} {pb sb rb : Nat} (h1 : RowV w pb 94 [ptrV sb, ptrV rb, .slice none 0 0]) (h2 : RowV w sb 130 [.slice none 0 0, .map none, .slice none 0 0]) (h3 : RowV w rb 91 [.slice none 0 0, .slice none 0 0, .slice none 0 0])
  (n1 : pb ≠ sb) (n2 : pb ≠ rb) (n3 : sb ≠ rb) : PairOk w (newD pb sb rb) := by
 refine ⟨⟨h1, World.ownsRow_nil _ _ _ _, ⟨h2, ⟨rfl, fun e he => (by cases he), fun e he => (by cases he), fun e he => (by cases he), ?_, fun e he => (by cases he), fun e he => (by cases he), fun e he => (by cases he), List.nodup_nil⟩, ⟨World.ownsRow_nil _ _ _ _, rfl, fun i h _ => absurd h (by simp [newD])⟩, ?_, World.ownsRow_nil _ _ _ _, ?_, fun nd hn => (by cases hn), List.Pairwise.nil, fun x hx => (by cases hx), fun x hx => (by cases hx), by simp [newD]⟩,
  ⟨h3, World.ownsRow_nil _ _ _ _, World.ownsRow_nil _ _ _ _, fun q hq => (by cases hq), World.ownsRow_nil _ _ _ _, fun x hx => (by cases hx)⟩, ⟨fun L hL => (by cases hL), rfl, rfl, fun i L p nd e1 => (by simp [newD] at e1)⟩, ?_, ?_, ?_⟩, rfl, rfl, rfl, rfl, by simp [newD], by simp [newD], rfl, rfl⟩
 ·intro i j e f _ he
  simp [newD] at he
 ·intro k hk
  rcases hk with hk | ⟨x, hx, _⟩
  ·cases hk
  ·cases hx
 ·intro k hk
  cases hk
 ·intro k hk hk'
  exact n1 ((newD_o hk).symm.trans (newD_s hk'))
 ·intro k hk hk'
  exact n2 ((newD_o hk).symm.trans (newD_r hk'))
 ·intro k hk hk'
  exact n3 ((newD_s hk).symm.trans (newD_r hk'))
end Go.Proofs.YtekegfbjbainhaaGreat


namespace Go.Proofs.YtekegfbjbainhaaGreat
open Go.RowKit
def BkV : Type := Value × Value × Value
structure LawAt (B : BkV) (w : World) (wb : Nat) (ps : SlR) (ds : List PairD) : Prop where
 row : RowV w wb 34 [ps.val, B.1, B.2.1, B.2.2]
 own : w.ownsRow 0 55 1 ps.val ds.length (ds.map (fun d => ptrV d.pb))
 ok : ∀ d ∈ ds, PairOk w d
 low : ∀ d ∈ ds, ∀ k, d.F k → wb < k ∧ ps.val.ownBlock ≠ some k
 psb : ∀ k, ps.val.ownBlock = some k → wb < k
 apart : ∀ (i j : Nat) (d e : PairD), i ≠ j → ds[i]? = some d → ds[j]? = some e → ∀ k, d.F k → ¬ e.F k
theorem LawAt.frame {B : BkV} {w W : World} {S : Nat → Prop} {wb : Nat} {ps : SlR} {ds : List PairD} (h : LawAt B w wb ps ds) (hf : Frame S w W) (h1 : ¬ S wb) (h2 : ∀ k, ps.val.ownBlock = some k → ¬ S k) (h3 : ∀ d ∈ ds, ∀ k, d.F k → ¬ S k) : LawAt B W wb ps ds :=
 ⟨RowV.of_block h.row (hf.block _ (RowV.lt h.row) h1), owns_frame h.own hf h2, fun d hd => (h.ok d hd).frame hf (h3 d hd), h.low, h.psb, h.apart⟩
theorem LawAt.below {B : BkV} {w W : World} {wb : Nat} {ps : SlR} {ds : List PairD} (h : LawAt B w wb ps ds) (hb : Below w.heap.size w W) : LawAt B W wb ps ds := h.frame (Frame.of_below_all (S := fun _ => False) hb) (fun e => e) (fun _ _ e => e) (fun _ _ _ _ e => e)
theorem LawAt.step {B : BkV} {w w' : World} {wb : Nat} {ps : SlR} {ds : List PairD} (h : LawAt B w wb ps ds) {i : Nat} {d : PairD} (hi : ds[i]? = some d) (hs : Stepped d w w') : ∃ ds', LawAt B w' wb ps ds' ∧ ds'.length = ds.length ∧ (∀ x ∈ ds', ∀ k, x.F k → (∃ y ∈ ds, y.F k) ∨ w.heap.size ≤ k) := by
 obtain ⟨d', hp, hok, hf, hn⟩ := hs
 have hd : d ∈ ds := List.mem_of_getElem? hi
 have hil : i < ds.length := (List.getElem?_eq_some_iff.1 hi).1
 have hsz := hf.size
 have hnew : ∀ k, d'.F k → (k < w.heap.size ∧ d.F k) ∨ w.heap.size ≤ k := fun k hk => by
  by_cases hlt : k < w.heap.size
  ·exact Or.inl ⟨hlt, hn k hk hlt⟩
  ·exact Or.inr (by omega)
 have hget : ∀ j, (ds.set i d')[j]? = if i = j then some d' else ds[j]? := fun j => by
  rw [List.getElem?_set]
  by_cases e : i = j
  ·subst e; simp [hil]
  ·simp [e]
 refine ⟨ds.set i d', ⟨RowV.of_block h.row (hf.block _ (RowV.lt h.row) (fun e => by have := (h.low d hd wb e).1; omega)), ?_, ?_, ?_, h.psb, ?_⟩, by simp, ?_⟩
 ·have e1 : (ds.set i d').map (fun d => ptrV d.pb) = ds.map (fun d => ptrV d.pb) := by
   rw [List.map_set, hp]
   have hg : ds[i] = d := (List.getElem?_eq_some_iff.1 hi).2
   apply List.ext_getElem?
   intro j
   rw [List.getElem?_set]
   by_cases e : i = j
   ·subst e; simp [hil, hg]
   ·simp [e]
  rw [List.length_set, e1]
  exact owns_frame h.own hf (fun k hk e => (h.low d hd k e).2 hk)
 ·intro x hx
  obtain ⟨j, hj⟩ := List.getElem?_of_mem hx
  rw [hget] at hj
  by_cases e : i = j
  ·rw [if_pos e] at hj; cases hj; exact hok
  ·rw [if_neg e] at hj
   exact (h.ok x (List.mem_of_getElem? hj)).frame hf (fun k hk hk' => h.apart i j d x e hi hj k hk' hk)
 ·intro x hx k hk
  obtain ⟨j, hj⟩ := List.getElem?_of_mem hx
  rw [hget] at hj
  by_cases e : i = j
  ·rw [if_pos e] at hj; cases hj
   rcases hnew k hk with ⟨_, h1⟩ | h1
   ·exact h.low d hd k h1
   ·refine ⟨by have := RowV.lt h.row; omega, fun e => by have := (h.own.lt k e).2; omega⟩
  ·rw [if_neg e] at hj
   exact h.low x (List.mem_of_getElem? hj) k hk
 ·intro a b x y hab hx hy k hkx hky
  rw [hget] at hx hy
  by_cases ea : i = a
  ·rw [if_pos ea] at hx; cases hx
   rw [if_neg (fun eb => hab (ea.symm.trans eb))] at hy
   have hlt := (h.ok y (List.mem_of_getElem? hy)).lay.lt k hky
   exact h.apart i b d y (fun eb => hab (ea.symm.trans eb)) hi hy k (hn k hkx hlt) hky
  ·rw [if_neg ea] at hx
   by_cases eb : i = b
   ·rw [if_pos eb] at hy; cases hy
    have hlt := (h.ok x (List.mem_of_getElem? hx)).lay.lt k hkx
    exact h.apart a i x d (fun e => ea e.symm) hx hi k hkx (hn k hky hlt)
   ·rw [if_neg eb] at hy
    exact h.apart a b x y hab hx hy k hkx hky
 ·intro x hx k hk
  obtain ⟨j, hj⟩ := List.getElem?_of_mem hx
  rw [hget] at hj
  by_cases e : i = j
  ·rw [if_pos e] at hj; cases hj
   rcases hnew k hk with ⟨_, h1⟩ | h1
   ·exact Or.inl ⟨d, hd, h1⟩
   ·exact Or.inr h1
  ·rw [if_neg e] at hj
   exact Or.inl ⟨x, List.mem_of_getElem? hj, hk⟩
theorem LawAt.push {B : BkV} {w W W1 : World} {wb : Nat} {ps ps' : SlR} {ds : List PairD} {d : PairD} (h : LawAt B w wb ps ds) (hb : Below w.heap.size w W) (hd : PairOk W d) (hnew : ∀ k, d.F k → w.heap.size ≤ k)
  (ho : W1.ownsRow 0 55 1 ps'.val (ds.length + 1) (ds.map (fun d => ptrV d.pb) ++ [ptrV d.pb])) (hf : Frame (fun k => ps.val.ownBlock = some k) W W1) (hat : ps'.val.ownBlock = ps.val.ownBlock ∨ ps'.val.ownBlock = some W.heap.size) :
  LawAt B (W1.setCell ⟨wb, 0, none⟩ ps'.val) wb ps' (ds ++ [d]) := by
 have hW := h.below hb
 have hwb := RowV.lt h.row
 have hsz := hb.size
 have hsf := hf.size
 have hr1 : RowV W1 wb 34 [ps.val, B.1, B.2.1, B.2.2] := RowV.of_block hW.row (hf.block _ (RowV.lt hW.row) (fun e => by have := h.psb _ e; omega))
 have hf2 : Frame (fun k => k = wb) W1 (W1.setCell ⟨wb, 0, none⟩ ps'.val) := (Frame.refl (fun k => k = wb) _).setCell (p := ⟨wb, 0, none⟩) rfl _
 have hpl : ∀ k, ps'.val.ownBlock = some k → ps.val.ownBlock = some k ∨ k = W.heap.size := fun k hk => by
  rcases hat with e | e
  ·exact Or.inl (by rw [← e]; exact hk)
  ·rw [e] at hk; exact Or.inr (Option.some.inj hk).symm
 have hall : ∀ x ∈ ds ++ [d], PairOk W x ∧ (∀ k, x.F k → wb < k ∧ ps.val.ownBlock ≠ some k ∧ k < W.heap.size) := fun x hx => by
  rcases List.mem_append.1 hx with hx | hx
  ·exact ⟨hW.ok x hx, fun k hk => ⟨(h.low x hx k hk).1, (h.low x hx k hk).2, (hW.ok x hx).lay.lt k hk⟩⟩
  ·simp only [List.mem_singleton] at hx
   subst hx
   exact ⟨hd, fun k hk => ⟨by have := hnew k hk; omega, fun e => by have := (h.own.lt k e).2; have := hnew k hk; omega, hd.lay.lt k hk⟩⟩
 refine ⟨by simpa using RowV.set hr1 0 ps'.val, ?_, ?_, ?_, ?_, ?_⟩
 ·rw [List.length_append, List.map_append]
  exact owns_frame ho hf2 (fun k hk e => owns_ne ho hr1 (by decide) (by rw [hk, e]))
 ·intro x hx
  obtain ⟨h1, h2⟩ := hall x hx
  exact (h1.frame hf (fun k hk e => (h2 k hk).2.1 e)).frame hf2 (fun k hk e => by have := (h2 k hk).1; omega)
 ·intro x hx k hk
  obtain ⟨h1, h2⟩ := hall x hx
  refine ⟨(h2 k hk).1, fun e => ?_⟩
  rcases hpl k e with e | e
  ·exact (h2 k hk).2.1 e
  ·have := (h2 k hk).2.2; omega
 ·intro k hk
  rcases hpl k hk with e | e
  ·exact h.psb k e
  ·have := RowV.lt hW.row; omega
 ·intro a b x y hab hx hy k hkx hky
  have hget : ∀ j z, (ds ++ [d])[j]? = some z → ds[j]? = some z ∨ (j = ds.length ∧ z = d) := fun j z hz => by
   by_cases hj : j < ds.length
   ·rw [List.getElem?_append_left hj] at hz; exact Or.inl hz
   ·rw [List.getElem?_append_right (by omega)] at hz
    obtain ⟨h1, h2⟩ := List.getElem?_eq_some_iff.1 hz
    simp at h1 h2
    exact Or.inr ⟨by omega, h2.symm⟩
  rcases hget a x hx with hx' | ⟨ha, ex⟩
  ·rcases hget b y hy with hy' | ⟨hb', ey⟩
   ·exact h.apart a b x y hab hx' hy' k hkx hky
   ·have := (h.ok x (List.mem_of_getElem? hx')).lay.lt k hkx
    have := hnew k (ey ▸ hky)
    omega
  ·rcases hget b y hy with hy' | ⟨hb', ey⟩
   ·have := (h.ok y (List.mem_of_getElem? hy')).lay.lt k hky
    have := hnew k (ex ▸ hkx)
    omega
   ·omega
end Go.Proofs.YtekegfbjbainhaaGreat


namespace Go.Proofs.YtekegfbjbainhaaGreat
open Go.RowKit
theorem Tryz.infoPairP : (Tryz.prog.info? 55).map (fun i => (i.zero, i.size, i.bytes)) = some (some (.pointer none), 1, 8) := by kernel_rfl
set_option maxRecDepth 100000 in
set_option maxHeartbeats 1000000 in
theorem free_store {B : BkV} (cs : List Value) (wb : Nat) (ps : SlR) (ds : List PairD) (w : World) (h : LawAt B w wb ps ds) (k0 : cs[0]? = some (.int .i64 2)) (hn : ds.length + 1 ≤ 17592186044416) :
  Calls Tryz.prog 19 #[.pointer (some ⟨wb, 0, none⟩), .agg cs.toArray] w fun e w' => e = .returned (.bool true) ∧ (∃ ps' d, LawAt B w' wb ps' (ds ++ [d]) ∧ (∀ k, d.F k → w.heap.size ≤ k) ∧ (∀ k, ps'.val.ownBlock = some k → ps.val.ownBlock = some k ∨ w.heap.size ≤ k)) ∧ Frame (fun k => k = wb ∨ ps.val.ownBlock = some k) w w' := by
 have hwb : wb < w.heap.size := RowV.lt h.row
 have r0 : w.cell? ⟨wb, 0, none⟩ = some (.slice ps.a ps.n ps.cap) := RowV.cell h.row 0 (by simp)
 have HB5 : Hid (Below w.heap.size w (((((w.alloc (.cells cs.toArray 43)).alloc (.cells #[.slice none 0 0, .map none, .slice none 0 0] 130)).alloc (.cells #[.slice none 0 0, .slice none 0 0, .slice none 0 0] 91)).alloc (.cells #[.pointer (some ⟨w.heap.size + 1, 0, none⟩), .pointer (some ⟨w.heap.size + 1 + 1, 0, none⟩), .slice none 0 0] 94)).alloc (.cells #[.pointer (some ⟨w.heap.size + 1 + 1 + 1, 0, none⟩)] 55))) := (((((Below.refl w.heap.size w).alloc (Nat.le_refl _) _).alloc (by simp) _).alloc (by simp; omega) _).alloc (by simp; omega) _).alloc (by simp; omega) _
 have HO : Hid ((((((w.alloc (.cells cs.toArray 43)).alloc (.cells #[.slice none 0 0, .map none, .slice none 0 0] 130)).alloc (.cells #[.slice none 0 0, .slice none 0 0, .slice none 0 0] 91)).alloc (.cells #[.pointer (some ⟨w.heap.size + 1, 0, none⟩), .pointer (some ⟨w.heap.size + 1 + 1, 0, none⟩), .slice none 0 0] 94)).alloc (.cells #[.pointer (some ⟨w.heap.size + 1 + 1 + 1, 0, none⟩)] 55)).ownsRow 0 55 1 (.slice ps.a ps.n ps.cap) ds.length (ds.map (fun d => ptrV d.pb))) := owns_below h.own HB5.out
 have HS : Hid (SlV (((((w.alloc (.cells cs.toArray 43)).alloc (.cells #[.slice none 0 0, .map none, .slice none 0 0] 130)).alloc (.cells #[.slice none 0 0, .slice none 0 0, .slice none 0 0] 91)).alloc (.cells #[.pointer (some ⟨w.heap.size + 1, 0, none⟩), .pointer (some ⟨w.heap.size + 1 + 1, 0, none⟩), .slice none 0 0] 94)).alloc (.cells #[.pointer (some ⟨w.heap.size + 1 + 1 + 1, 0, none⟩)] 55)) (some ⟨w.heap.size + 1 + 1 + 1 + 1, 0, none⟩) [.pointer (some ⟨w.heap.size + 1 + 1 + 1, 0, none⟩)]) := by
  have := SlV.alloc_new ((((w.alloc (.cells cs.toArray 43)).alloc (.cells #[.slice none 0 0, .map none, .slice none 0 0] 130)).alloc (.cells #[.slice none 0 0, .slice none 0 0, .slice none 0 0] 91)).alloc (.cells #[.pointer (some ⟨w.heap.size + 1, 0, none⟩), .pointer (some ⟨w.heap.size + 1 + 1, 0, none⟩), .slice none 0 0] 94)) [.pointer (some ⟨w.heap.size + 1 + 1 + 1, 0, none⟩)] 55
  unfold Hid; simpa only [World.size_alloc] using this
 have H1 : Hid (∀ u ∈ [Value.pointer (some ⟨w.heap.size + 1 + 1 + 1, 0, none⟩)], u.oneCell' = true) := fun u hu => by simp at hu; subst hu; rfl
 have H63 : Hid (ds.length + 1 ≤ maxLen) := by unfold Hid maxLen; omega
 have HBY : Hid ((ds.length + 1) * 8 ≤ 140737488355328) := by unfold Hid; omega
 have HR6 : Hid (∀ w6, Frame (fun k => (Value.slice ps.a ps.n ps.cap).ownBlock = some k) (((((w.alloc (.cells cs.toArray 43)).alloc (.cells #[.slice none 0 0, .map none, .slice none 0 0] 130)).alloc (.cells #[.slice none 0 0, .slice none 0 0, .slice none 0 0] 91)).alloc (.cells #[.pointer (some ⟨w.heap.size + 1, 0, none⟩), .pointer (some ⟨w.heap.size + 1 + 1, 0, none⟩), .slice none 0 0] 94)).alloc (.cells #[.pointer (some ⟨w.heap.size + 1 + 1 + 1, 0, none⟩)] 55)) w6 → RowV w6 wb 34 [ps.val, B.1, B.2.1, B.2.2]) := fun w6 hf =>
  RowV.of_block (h.below HB5.out).row (hf.block _ (RowV.lt (h.below HB5.out).row) (fun e => by have := h.psb _ e; omega))
 have HEf : Hid (∀ (a6 : Option Addr) (n6 c6 : Nat) (w6 : World), w6.ownsRow 0 55 1 (.slice a6 n6 c6) (ds.length + 1) (ds.map (fun d => ptrV d.pb) ++ [.pointer (some ⟨w.heap.size + 1 + 1 + 1, 0, none⟩)]) → Frame (fun k => (Value.slice ps.a ps.n ps.cap).ownBlock = some k) (((((w.alloc (.cells cs.toArray 43)).alloc (.cells #[.slice none 0 0, .map none, .slice none 0 0] 130)).alloc (.cells #[.slice none 0 0, .slice none 0 0, .slice none 0 0] 91)).alloc (.cells #[.pointer (some ⟨w.heap.size + 1, 0, none⟩), .pointer (some ⟨w.heap.size + 1 + 1, 0, none⟩), .slice none 0 0] 94)).alloc (.cells #[.pointer (some ⟨w.heap.size + 1 + 1 + 1, 0, none⟩)] 55)) w6 →
   ((Value.slice a6 n6 c6).ownBlock = (Value.slice ps.a ps.n ps.cap).ownBlock ∨ (Value.slice a6 n6 c6).ownBlock = some (((((w.alloc (.cells cs.toArray 43)).alloc (.cells #[.slice none 0 0, .map none, .slice none 0 0] 130)).alloc (.cells #[.slice none 0 0, .slice none 0 0, .slice none 0 0] 91)).alloc (.cells #[.pointer (some ⟨w.heap.size + 1, 0, none⟩), .pointer (some ⟨w.heap.size + 1 + 1, 0, none⟩), .slice none 0 0] 94)).alloc (.cells #[.pointer (some ⟨w.heap.size + 1 + 1 + 1, 0, none⟩)] 55)).heap.size) → (∃ ps' d, LawAt B (w6.setCell ⟨wb, 0, none⟩ (.slice a6 n6 c6)) wb ps' (ds ++ [d]) ∧ (∀ k, d.F k → w.heap.size ≤ k) ∧ (∀ k, ps'.val.ownBlock = some k → ps.val.ownBlock = some k ∨ w.heap.size ≤ k)) ∧ Frame (fun k => k = wb ∨ ps.val.ownBlock = some k) w (w6.setCell ⟨wb, 0, none⟩ (.slice a6 n6 c6))) := by
  intro a6 n6 c6 w6 ho6 hf6 hat6
  have e1 : RowV ((w.alloc (.cells cs.toArray 43)).alloc (.cells #[.slice none 0 0, .map none, .slice none 0 0] 130)) (w.heap.size + 1) 130 [.slice none 0 0, .map none, .slice none 0 0] := by
   have := RowV.new (w.alloc (.cells cs.toArray 43)) 130 [.slice none 0 0, .map none, .slice none 0 0]
   simpa only [World.size_alloc] using this
  have e2 : RowV (((w.alloc (.cells cs.toArray 43)).alloc (.cells #[.slice none 0 0, .map none, .slice none 0 0] 130)).alloc (.cells #[.slice none 0 0, .slice none 0 0, .slice none 0 0] 91)) (w.heap.size + 1 + 1) 91 [.slice none 0 0, .slice none 0 0, .slice none 0 0] := by
   have := RowV.new ((w.alloc (.cells cs.toArray 43)).alloc (.cells #[.slice none 0 0, .map none, .slice none 0 0] 130)) 91 [.slice none 0 0, .slice none 0 0, .slice none 0 0]
   simpa only [World.size_alloc] using this
  have e3 : RowV ((((w.alloc (.cells cs.toArray 43)).alloc (.cells #[.slice none 0 0, .map none, .slice none 0 0] 130)).alloc (.cells #[.slice none 0 0, .slice none 0 0, .slice none 0 0] 91)).alloc (.cells #[.pointer (some ⟨w.heap.size + 1, 0, none⟩), .pointer (some ⟨w.heap.size + 1 + 1, 0, none⟩), .slice none 0 0] 94)) (w.heap.size + 1 + 1 + 1) 94 [.pointer (some ⟨w.heap.size + 1, 0, none⟩), .pointer (some ⟨w.heap.size + 1 + 1, 0, none⟩), .slice none 0 0] := by
   have := RowV.new (((w.alloc (.cells cs.toArray 43)).alloc (.cells #[.slice none 0 0, .map none, .slice none 0 0] 130)).alloc (.cells #[.slice none 0 0, .slice none 0 0, .slice none 0 0] 91)) 94 [.pointer (some ⟨w.heap.size + 1, 0, none⟩), .pointer (some ⟨w.heap.size + 1 + 1, 0, none⟩), .slice none 0 0]
   simpa only [World.size_alloc] using this
  have hp : PairOk (((((w.alloc (.cells cs.toArray 43)).alloc (.cells #[.slice none 0 0, .map none, .slice none 0 0] 130)).alloc (.cells #[.slice none 0 0, .slice none 0 0, .slice none 0 0] 91)).alloc (.cells #[.pointer (some ⟨w.heap.size + 1, 0, none⟩), .pointer (some ⟨w.heap.size + 1 + 1, 0, none⟩), .slice none 0 0] 94)).alloc (.cells #[.pointer (some ⟨w.heap.size + 1 + 1 + 1, 0, none⟩)] 55)) (newD (w.heap.size + 1 + 1 + 1) (w.heap.size + 1) (w.heap.size + 1 + 1)) := pair_new (e3.alloc _) (((e1.alloc _).alloc _).alloc _) ((e2.alloc _).alloc _) (by omega) (by omega) (by omega)
  refine ⟨⟨⟨a6, n6, c6⟩, newD (w.heap.size + 1 + 1 + 1) (w.heap.size + 1) (w.heap.size + 1 + 1), LawAt.push (ps' := ⟨a6, n6, c6⟩) h HB5.out hp (fun k hk => ?_) ho6 hf6 hat6, ?_, ?_⟩, ?_⟩
  ·have := newD_F hk; omega
  ·intro k hk; have := newD_F hk; omega
  ·intro k hk
   rcases hat6 with e | e
   ·exact Or.inl (by show (Value.slice ps.a ps.n ps.cap).ownBlock = _; rw [← e]; exact hk)
   ·have hk' : (Value.slice a6 n6 c6).ownBlock = some k := hk
    rw [e] at hk'
    have := Option.some.inj hk'
    have := HB5.out.size
    exact Or.inr (by omega)
  ·exact (Frame.into (S := fun k => k = wb ∨ ps.val.ownBlock = some k) (Frame.of_below_all HB5.out) hf6 (fun k _ e => Or.inr e)).setCell (p := ⟨wb, 0, none⟩) (Or.inl rfl) _
 clear h
 go_enter Tryz.func19, Tryz.ntmps19
 go_wp2_with fail
 refine (new_any _).mono ?_
 rintro e w1 ⟨rfl, rfl⟩
 go_wp2_with (at_builtin; refine wp_appendV (by rfl) (.tmp 44) (.tmp 50) 27 (by rfl) 0 55 _ 1 8 Tryz.underlying27 Tryz.infoPairP rfl (by decide) (.slice ps.a ps.n ps.cap) ds.length (ds.map (fun d => ptrV d.pb)) (by rfl) HO.out (some ⟨w.heap.size + 1 + 1 + 1 + 1, 0, none⟩) 1 1 [.pointer (some ⟨w.heap.size + 1 + 1 + 1, 0, none⟩)] (by rfl) rfl HS.out (fun h => by cases h) H1.out H63.out HBY.out (Nat.zero_le _) ?_; intro v6 w6 ho6 hf6 hat6; obtain ⟨a6, c6, hv6, _⟩ := owns_form ho6; subst hv6; have q6 : w6.cell? ⟨wb, 0, none⟩ = some (.slice ps.a ps.n ps.cap) := RowV.cellK (HR6.out _ hf6) 0 _ rfl; have f6 : w6.frozen? ⟨wb, 0, none⟩ = false := RowV.frozen (HR6.out _ hf6) 0)
 go_ret
 exact ⟨rfl, HEf.out _ _ _ _ ho6 hf6 hat6⟩
end Go.Proofs.YtekegfbjbainhaaGreat
