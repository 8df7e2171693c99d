
import Derived.Test.YtekegfbjbainhaaKJoin14
import Derived.Test.YtekegfbjbainhaaKLog7
import Derived.Test.YtekegfbjbainhaaKLog8
import Derived.Deep.RegionHeld3
set_option linter.unusedVariables false
set_option linter.unusedSimpArgs false
namespace Go.Proofs.Ytekegfbjbainhaa
open Go.RowKit
attribute [local go_sem ↓] Go.wp_at_zero Go.wp_at_succ
theorem sums_any : ∀ (r : List (List UInt8)) (n m : Nat) (own : Option (Nat × Nat)) (sum : List UInt8) (a : Option Addr) (cap : Nat) (w : World), SlD w a r.reverse → r.length ≤ cap → cap ≤ 9223372036854775807 → sum.length = 8 → 1 ≤ m → m ≤ n → n ≤ 9223372036854775807 → (∀ p q, own = some (p, q) → p < w.heap.size ∧ w.rangeAt p q (sum.map u8c)) →
  Calls Try.prog 70 #[.int .i64 (m : Int), .int .i64 (n : Int), .pointer (own.map (fun z => ⟨z.1, z.2, none⟩)), .slice a r.length cap] w fun v w' => bothV (bothF m n own.isSome sum r) v ∧ Below w.heap.size w w'
 | [], n, m, own, sum, a, cap, w, hs, hl, hc, hr, h1, h2, h3, hp => by
  unfold bothF
  by_cases hmn : m = n ∧ own.isSome = true
  ·rw [if_pos hmn]
   obtain ⟨rfl, ho⟩ := hmn
   cases own with
   | none => cases ho
   | some z =>
    obtain ⟨p, q⟩ := z
    refine (sums_own 0 m p q sum a cap w hr (by omega) (hp p q rfl).1 (hp p q rfl).2).mono ?_
    rintro e w' ⟨rfl, hb⟩
    exact ⟨⟨sum, sum, hr, hr, rfl, fun q hq => (Option.some.inj hq).symm⟩, hb⟩
  ·rw [if_neg hmn]
   refine (sums_nil n m _ a cap w (fun h => hmn ⟨h.1, by cases own; exact absurd rfl h.2; rfl⟩)).mono ?_
   rintro e w' ⟨rfl, hb⟩
   exact ⟨⟨nulD, nulD, rfl, rfl, rfl, fun q hq => by cases hq⟩, hb⟩
 | x :: r, n, m, own, sum, a, cap, w, hs, hl, hc, hr, h1, h2, h3, hp => by
  have hl' : r.length + 1 ≤ cap := hl
  unfold bothF
  by_cases hmn : m = n ∧ own.isSome = true
  ·rw [if_pos hmn]
   obtain ⟨rfl, ho⟩ := hmn
   cases own with
   | none => cases ho
   | some z =>
    obtain ⟨p, q⟩ := z
    refine (sums_own (r.length + 1) m p q sum a cap w hr (by omega) (hp p q rfl).1 (hp p q rfl).2).mono ?_
    rintro e w' ⟨rfl, hb⟩
    exact ⟨⟨sum, sum, hr, hr, by
     have : (((r.length + 1 : Nat) : Int) == 0) = false := by rw [Bool.eq_false_iff]; simp only [ne_eq, beq_iff_eq]; omega
     rw [this]; rfl, fun q hq => by cases hq⟩, hb⟩
  rw [if_neg hmn]
  obtain ⟨b, o, rfl, hb⟩ : ∃ b o, a = some ⟨b, o, none⟩ ∧ b < w.heap.size := by
   have h := hs
   have hne : (x :: r).reverse ≠ [] := by simp
   revert h
   generalize (x :: r).reverse = l at *
   cases l with
   | nil => exact absurd rfl hne
   | cons y l => exact fun h => h.addr
  obtain ⟨hlast, hrest, hx⟩ := hs.last
  by_cases he : m = n
  ·rw [if_pos he]
   subst he
   obtain rfl : own = none := by cases own; rfl; exact absurd ⟨rfl, rfl⟩ hmn
   refine (sums_eq r.length m b o x cap w hx hb hl' hc hlast).mono ?_
   rintro e w' ⟨rfl, hb'⟩
   have hz : ((r.length : Int) == 0) = (r.length == 0) := by rw [Bool.eq_iff_iff]; simp only [beq_iff_eq]; omega
   refine ⟨⟨x, x, hx, hx, ?_, ?_⟩, hb'⟩
   ·rw [hz]
    by_cases h0 : r.length = 0
    ·rw [if_pos h0, h0]; rfl
    ·rw [if_neg h0, beq_eq_false_iff_ne.2 h0]; rfl
   ·intro q hq
    by_cases h0 : r.length = 0
    ·rw [if_pos h0] at hq; exact (Option.some.inj hq).symm
    ·rw [if_neg h0] at hq; cases hq
  ·rw [if_neg he]
   have hhb := halfN_bd n (by omega)
   by_cases hk : m ≤ halfN n
   ·rw [if_pos hk]
    exact sums_le r.length m n b o _ x _ cap w hx hb hl' hc hlast h1 (by omega) h3 hk (fun W hW => sums_any r (halfN n) m own sum (some ⟨b, o, none⟩) cap W (hrest.below hW) (by omega) hc hr h1 hk (by omega) (fun p q hpq => ⟨Nat.lt_of_lt_of_le (hp p q hpq).1 hW.size, fun j v hv => by rw [hW.cell (p := ⟨p, q + j, none⟩) (hp p q hpq).1]; exact (hp p q hpq).2 j v hv⟩))
   ·rw [if_neg hk]
    exact sums_gt r.length m n b o _ x _ cap w hx hb hl' hc hlast h1 (by omega) h3 (by omega) (fun W hW => sums_any r (n - halfN n) (m - halfN n) none sum (some ⟨b, o, none⟩) cap W (hrest.below hW) (by omega) hc hr (by omega) (by omega) (by omega) (fun p q hpq => by cases hpq))
set_option maxRecDepth 100000 in
set_option maxHeartbeats 1600000 in
theorem isExt_no (m n : Int) (osum sum : List UInt8) (a : Option Addr) (l cap : Nat) (w : World) (ho : osum.length = 8) (hs : sum.length = 8) (h : m < 0 ∨ n < m) :
  Calls Try.prog 50 #[headV m osum, headV n sum, .slice a l cap] w fun v w' => v = .returned (.bool false) ∧ Below w.heap.size w w' := by
 obtain ⟨s0, s1, s2, s3, s4, s5, s6, s7, rfl⟩ := list8 osum ho
 obtain ⟨t0, t1, t2, t3, t4, t5, t6, t7, rfl⟩ := list8 sum hs
 unfold headV u8c
 simp only [List.map_cons, List.map_nil]
 by_cases h0 : m < 0
 ·go_enter Try.func50, Try.ntmps50
  go_wp2
  go_ret
  exact ⟨rfl, ((Below.refl _ _).alloc (Nat.le_refl _) _).alloc (by simp) _⟩
 ·have h1 : n < m := by omega
  have h2 : ¬ m < 0 := h0
  go_enter Try.func50, Try.ntmps50
  go_wp2
  go_ret
  exact ⟨rfl, ((Below.refl _ _).alloc (Nat.le_refl _) _).alloc (by simp) _⟩
set_option maxRecDepth 100000 in
set_option maxHeartbeats 1600000 in
theorem isExt_zero (n : Int) (osum sum : List UInt8) (a : Option Addr) (l cap : Nat) (w : World) (ho : osum.length = 8) (hs : sum.length = 8) (h : 0 ≤ n) (hl : l ≤ 9223372036854775807) :
  Calls Try.prog 50 #[headV 0 osum, headV n sum, .slice a l cap] w fun v w' => v = .returned (.bool (l == 0 && osum == digB [])) ∧ Below w.heap.size w w' := by
 obtain ⟨s0, s1, s2, s3, s4, s5, s6, s7, rfl⟩ := list8 osum ho
 obtain ⟨t0, t1, t2, t3, t4, t5, t6, t7, rfl⟩ := list8 sum hs
 have hn : ¬ n < 0 := by omega
 have HB : Hid (Below w.heap.size w ((w.alloc (.cells ((Value.int .i64 0 :: [s0, s1, s2, s3, s4, s5, s6, s7].map u8c).toArray) 47)).alloc (.cells ((Value.int .i64 n :: [t0, t1, t2, t3, t4, t5, t6, t7].map u8c).toArray) 47))) := ((Below.refl _ _).alloc (Nat.le_refl _) _).alloc (by simp) _
 by_cases h0 : l = 0
 ·subst h0
  obtain ⟨y0, y1, y2, y3, y4, y5, y6, y7, hy⟩ := list8 (digB []) (digB_length _)
  have HD : Hid (∀ W, Calls Try.prog 67 #[.slice none 0 0] W fun e w' => e = .returned (dV [y0, y1, y2, y3, y4, y5, y6, y7]) ∧ Below W.heap.size W w') := fun W => by
   have h := sumP_any 1 [] none 0 W (by simp) (by simp) (by simp) (by simp) ⟨fun i hi => absurd hi (Nat.not_lt_zero _), by simp⟩
   rw [show dV [y0, y1, y2, y3, y4, y5, y6, y7] = dV (digB []) by rw [hy]]
   exact h
  rw [hy]
  have heq := eqD_run s0 s1 s2 s3 s4 s5 s6 s7 y0 y1 y2 y3 y4 y5 y6 y7
  have HE : Hid ((((0 : Nat) == 0) && ([s0, s1, s2, s3, s4, s5, s6, s7] == [y0, y1, y2, y3, y4, y5, y6, y7])) = ([s0, s1, s2, s3, s4, s5, s6, s7] == [y0, y1, y2, y3, y4, y5, y6, y7])) := rfl
  rw [HE.out]
  clear HE hy
  generalize ([s0, s1, s2, s3, s4, s5, s6, s7] == [y0, y1, y2, y3, y4, y5, y6, y7]) = eqv at *
  have HS := (RowV.new w 47 (Value.int .i64 0 :: [s0, s1, s2, s3, s4, s5, s6, s7].map u8c)).alloc (.cells ((Value.int .i64 n :: [t0, t1, t2, t3, t4, t5, t6, t7].map u8c).toArray) 47)
  unfold headV u8c at *
  unfold dV u8c at HD
  simp only [List.map_cons, List.map_nil] at *
  have c0 : ((w.alloc (.cells #[Value.int .i64 0, Value.int .u8 (s0.toNat : Int), Value.int .u8 (s1.toNat : Int), Value.int .u8 (s2.toNat : Int), Value.int .u8 (s3.toNat : Int), Value.int .u8 (s4.toNat : Int), Value.int .u8 (s5.toNat : Int), Value.int .u8 (s6.toNat : Int), Value.int .u8 (s7.toNat : Int)] 47)).alloc (.cells #[Value.int .i64 n, Value.int .u8 (t0.toNat : Int), Value.int .u8 (t1.toNat : Int), Value.int .u8 (t2.toNat : Int), Value.int .u8 (t3.toNat : Int), Value.int .u8 (t4.toNat : Int), Value.int .u8 (t5.toNat : Int), Value.int .u8 (t6.toNat : Int), Value.int .u8 (t7.toNat : Int)] 47)).cell? ⟨w.heap.size, 1, none⟩ = some (.int .u8 (s0.toNat : Int)) := RowV.cell? HS 1
  have c1 : ((w.alloc (.cells #[Value.int .i64 0, Value.int .u8 (s0.toNat : Int), Value.int .u8 (s1.toNat : Int), Value.int .u8 (s2.toNat : Int), Value.int .u8 (s3.toNat : Int), Value.int .u8 (s4.toNat : Int), Value.int .u8 (s5.toNat : Int), Value.int .u8 (s6.toNat : Int), Value.int .u8 (s7.toNat : Int)] 47)).alloc (.cells #[Value.int .i64 n, Value.int .u8 (t0.toNat : Int), Value.int .u8 (t1.toNat : Int), Value.int .u8 (t2.toNat : Int), Value.int .u8 (t3.toNat : Int), Value.int .u8 (t4.toNat : Int), Value.int .u8 (t5.toNat : Int), Value.int .u8 (t6.toNat : Int), Value.int .u8 (t7.toNat : Int)] 47)).cell? ⟨w.heap.size, 2, none⟩ = some (.int .u8 (s1.toNat : Int)) := RowV.cell? HS 2
  have c2 : ((w.alloc (.cells #[Value.int .i64 0, Value.int .u8 (s0.toNat : Int), Value.int .u8 (s1.toNat : Int), Value.int .u8 (s2.toNat : Int), Value.int .u8 (s3.toNat : Int), Value.int .u8 (s4.toNat : Int), Value.int .u8 (s5.toNat : Int), Value.int .u8 (s6.toNat : Int), Value.int .u8 (s7.toNat : Int)] 47)).alloc (.cells #[Value.int .i64 n, Value.int .u8 (t0.toNat : Int), Value.int .u8 (t1.toNat : Int), Value.int .u8 (t2.toNat : Int), Value.int .u8 (t3.toNat : Int), Value.int .u8 (t4.toNat : Int), Value.int .u8 (t5.toNat : Int), Value.int .u8 (t6.toNat : Int), Value.int .u8 (t7.toNat : Int)] 47)).cell? ⟨w.heap.size, 3, none⟩ = some (.int .u8 (s2.toNat : Int)) := RowV.cell? HS 3
  have c3 : ((w.alloc (.cells #[Value.int .i64 0, Value.int .u8 (s0.toNat : Int), Value.int .u8 (s1.toNat : Int), Value.int .u8 (s2.toNat : Int), Value.int .u8 (s3.toNat : Int), Value.int .u8 (s4.toNat : Int), Value.int .u8 (s5.toNat : Int), Value.int .u8 (s6.toNat : Int), Value.int .u8 (s7.toNat : Int)] 47)).alloc (.cells #[Value.int .i64 n, Value.int .u8 (t0.toNat : Int), Value.int .u8 (t1.toNat : Int), Value.int .u8 (t2.toNat : Int), Value.int .u8 (t3.toNat : Int), Value.int .u8 (t4.toNat : Int), Value.int .u8 (t5.toNat : Int), Value.int .u8 (t6.toNat : Int), Value.int .u8 (t7.toNat : Int)] 47)).cell? ⟨w.heap.size, 4, none⟩ = some (.int .u8 (s3.toNat : Int)) := RowV.cell? HS 4
  have c4 : ((w.alloc (.cells #[Value.int .i64 0, Value.int .u8 (s0.toNat : Int), Value.int .u8 (s1.toNat : Int), Value.int .u8 (s2.toNat : Int), Value.int .u8 (s3.toNat : Int), Value.int .u8 (s4.toNat : Int), Value.int .u8 (s5.toNat : Int), Value.int .u8 (s6.toNat : Int), Value.int .u8 (s7.toNat : Int)] 47)).alloc (.cells #[Value.int .i64 n, Value.int .u8 (t0.toNat : Int), Value.int .u8 (t1.toNat : Int), Value.int .u8 (t2.toNat : Int), Value.int .u8 (t3.toNat : Int), Value.int .u8 (t4.toNat : Int), Value.int .u8 (t5.toNat : Int), Value.int .u8 (t6.toNat : Int), Value.int .u8 (t7.toNat : Int)] 47)).cell? ⟨w.heap.size, 5, none⟩ = some (.int .u8 (s4.toNat : Int)) := RowV.cell? HS 5
  have c5 : ((w.alloc (.cells #[Value.int .i64 0, Value.int .u8 (s0.toNat : Int), Value.int .u8 (s1.toNat : Int), Value.int .u8 (s2.toNat : Int), Value.int .u8 (s3.toNat : Int), Value.int .u8 (s4.toNat : Int), Value.int .u8 (s5.toNat : Int), Value.int .u8 (s6.toNat : Int), Value.int .u8 (s7.toNat : Int)] 47)).alloc (.cells #[Value.int .i64 n, Value.int .u8 (t0.toNat : Int), Value.int .u8 (t1.toNat : Int), Value.int .u8 (t2.toNat : Int), Value.int .u8 (t3.toNat : Int), Value.int .u8 (t4.toNat : Int), Value.int .u8 (t5.toNat : Int), Value.int .u8 (t6.toNat : Int), Value.int .u8 (t7.toNat : Int)] 47)).cell? ⟨w.heap.size, 6, none⟩ = some (.int .u8 (s5.toNat : Int)) := RowV.cell? HS 6
  have c6 : ((w.alloc (.cells #[Value.int .i64 0, Value.int .u8 (s0.toNat : Int), Value.int .u8 (s1.toNat : Int), Value.int .u8 (s2.toNat : Int), Value.int .u8 (s3.toNat : Int), Value.int .u8 (s4.toNat : Int), Value.int .u8 (s5.toNat : Int), Value.int .u8 (s6.toNat : Int), Value.int .u8 (s7.toNat : Int)] 47)).alloc (.cells #[Value.int .i64 n, Value.int .u8 (t0.toNat : Int), Value.int .u8 (t1.toNat : Int), Value.int .u8 (t2.toNat : Int), Value.int .u8 (t3.toNat : Int), Value.int .u8 (t4.toNat : Int), Value.int .u8 (t5.toNat : Int), Value.int .u8 (t6.toNat : Int), Value.int .u8 (t7.toNat : Int)] 47)).cell? ⟨w.heap.size, 7, none⟩ = some (.int .u8 (s6.toNat : Int)) := RowV.cell? HS 7
  have c7 : ((w.alloc (.cells #[Value.int .i64 0, Value.int .u8 (s0.toNat : Int), Value.int .u8 (s1.toNat : Int), Value.int .u8 (s2.toNat : Int), Value.int .u8 (s3.toNat : Int), Value.int .u8 (s4.toNat : Int), Value.int .u8 (s5.toNat : Int), Value.int .u8 (s6.toNat : Int), Value.int .u8 (s7.toNat : Int)] 47)).alloc (.cells #[Value.int .i64 n, Value.int .u8 (t0.toNat : Int), Value.int .u8 (t1.toNat : Int), Value.int .u8 (t2.toNat : Int), Value.int .u8 (t3.toNat : Int), Value.int .u8 (t4.toNat : Int), Value.int .u8 (t5.toNat : Int), Value.int .u8 (t6.toNat : Int), Value.int .u8 (t7.toNat : Int)] 47)).cell? ⟨w.heap.size, 8, none⟩ = some (.int .u8 (s7.toNat : Int)) := RowV.cell? HS 8
  have HSH : Hid (RowV ((w.alloc (.cells #[Value.int .i64 0, Value.int .u8 (s0.toNat : Int), Value.int .u8 (s1.toNat : Int), Value.int .u8 (s2.toNat : Int), Value.int .u8 (s3.toNat : Int), Value.int .u8 (s4.toNat : Int), Value.int .u8 (s5.toNat : Int), Value.int .u8 (s6.toNat : Int), Value.int .u8 (s7.toNat : Int)] 47)).alloc (.cells #[Value.int .i64 n, Value.int .u8 (t0.toNat : Int), Value.int .u8 (t1.toNat : Int), Value.int .u8 (t2.toNat : Int), Value.int .u8 (t3.toNat : Int), Value.int .u8 (t4.toNat : Int), Value.int .u8 (t5.toNat : Int), Value.int .u8 (t6.toNat : Int), Value.int .u8 (t7.toNat : Int)] 47)) w.heap.size 47 _) := HS
  clear HS
  go_enter Try.func50, Try.ntmps50
  go_wp2
  go_region_held3 (fun W' => W'.cell? ⟨w.heap.size, 1, none⟩ = some (.int .u8 (s0.toNat : Int)) ∧ W'.cell? ⟨w.heap.size, 2, none⟩ = some (.int .u8 (s1.toNat : Int)) ∧ W'.cell? ⟨w.heap.size, 3, none⟩ = some (.int .u8 (s2.toNat : Int)) ∧ W'.cell? ⟨w.heap.size, 4, none⟩ = some (.int .u8 (s3.toNat : Int)) ∧ W'.cell? ⟨w.heap.size, 5, none⟩ = some (.int .u8 (s4.toNat : Int)) ∧ W'.cell? ⟨w.heap.size, 6, none⟩ = some (.int .u8 (s5.toNat : Int)) ∧ W'.cell? ⟨w.heap.size, 7, none⟩ = some (.int .u8 (s6.toNat : Int)) ∧ W'.cell? ⟨w.heap.size, 8, none⟩ = some (.int .u8 (s7.toNat : Int))) (go_keep)
   ((go_at_call 67; refine (HD.out _).mono ?_; rintro e w3 ⟨rfl, hb3⟩; have HB3 : Hid (Below w.heap.size w w3) := HB.out.trans (by have hq := hb3.mono HB.out.size; exact ⟨hq.os, hq.tape, hq.output, hq.size, hq.block⟩); have H3 := RowV.past hb3 (by exact HSH.out); have d0 : w3.cell? ⟨w.heap.size, 1, none⟩ = some (.int .u8 (s0.toNat : Int)) := RowV.cell? H3 1; have d1 : w3.cell? ⟨w.heap.size, 2, none⟩ = some (.int .u8 (s1.toNat : Int)) := RowV.cell? H3 2; have d2 : w3.cell? ⟨w.heap.size, 3, none⟩ = some (.int .u8 (s2.toNat : Int)) := RowV.cell? H3 3; have d3 : w3.cell? ⟨w.heap.size, 4, none⟩ = some (.int .u8 (s3.toNat : Int)) := RowV.cell? H3 4; have d4 : w3.cell? ⟨w.heap.size, 5, none⟩ = some (.int .u8 (s4.toNat : Int)) := RowV.cell? H3 5; have d5 : w3.cell? ⟨w.heap.size, 6, none⟩ = some (.int .u8 (s5.toNat : Int)) := RowV.cell? H3 6; have d6 : w3.cell? ⟨w.heap.size, 7, none⟩ = some (.int .u8 (s6.toNat : Int)) := RowV.cell? H3 7; have d7 : w3.cell? ⟨w.heap.size, 8, none⟩ = some (.int .u8 (s7.toNat : Int)) := RowV.cell? H3 8))
  all_goals
   go_wp2
   go_ret
   exact ⟨rfl, HB3.out⟩
 ·have hlI : ((l : Int) == 0) = false := by rw [Bool.eq_false_iff]; simp only [ne_eq, beq_iff_eq]; omega
  have hlN : (l == 0) = false := by rw [Bool.eq_false_iff]; simp only [ne_eq, beq_iff_eq]; omega
  have hlJ : (l : Int) ≤ 9223372036854775807 := by omega
  rw [hlN, Bool.false_and]
  clear hlN
  unfold headV u8c at *
  simp only [List.map_cons, List.map_nil] at *
  go_enter Try.func50, Try.ntmps50
  go_wp2
  go_quiet (fail)
  go_wp2
  go_ret
  exact ⟨rfl, by have hb := HB.out; exact ⟨hb.os, hb.tape, hb.output, hb.size, hb.block⟩⟩
set_option maxRecDepth 100000 in
set_option maxHeartbeats 1600000 in
theorem isExt_yes (n m : Nat) (osum sum : List UInt8) (r : List (List UInt8)) (a : Option Addr) (cap : Nat) (w : World) (ho : osum.length = 8) (hs : sum.length = 8) (hn : n ≤ 9223372036854775807) (hm : 1 ≤ m) (hmn : m ≤ n) (hp : SlD w a r.reverse) (hl : r.length ≤ cap) (hc : cap ≤ 9223372036854775807) :
  Calls Try.prog 50 #[headV m osum, headV n sum, .slice a r.length cap] w fun v w' => v = .returned (.bool (bothB (bothF m n true osum r) osum sum)) ∧ Below w.heap.size w w' := by
 obtain ⟨s0, s1, s2, s3, s4, s5, s6, s7, rfl⟩ := list8 osum ho
 obtain ⟨t0, t1, t2, t3, t4, t5, t6, t7, rfl⟩ := list8 sum hs
 have hA : Below w.heap.size w ((w.alloc (.cells ((Value.int .i64 (m : Int) :: [s0, s1, s2, s3, s4, s5, s6, s7].map u8c).toArray) 47)).alloc (.cells ((Value.int .i64 (n : Int) :: [t0, t1, t2, t3, t4, t5, t6, t7].map u8c).toArray) 47)) := ((Below.refl _ _).alloc (Nat.le_refl _) _).alloc (by simp) _
 have HS : RowV ((w.alloc (.cells ((Value.int .i64 (m : Int) :: [s0, s1, s2, s3, s4, s5, s6, s7].map u8c).toArray) 47)).alloc (.cells ((Value.int .i64 (n : Int) :: [t0, t1, t2, t3, t4, t5, t6, t7].map u8c).toArray) 47)) w.heap.size 47 (Value.int .i64 (m : Int) :: [s0, s1, s2, s3, s4, s5, s6, s7].map u8c) := (RowV.new w _ _).alloc _
 have HT : RowV ((w.alloc (.cells ((Value.int .i64 (m : Int) :: [s0, s1, s2, s3, s4, s5, s6, s7].map u8c).toArray) 47)).alloc (.cells ((Value.int .i64 (n : Int) :: [t0, t1, t2, t3, t4, t5, t6, t7].map u8c).toArray) 47)) (w.heap.size + 1) 47 (Value.int .i64 (n : Int) :: [t0, t1, t2, t3, t4, t5, t6, t7].map u8c) := RowV.new_at _ _ _ _ (by simp)
 have h00 := sums_any r n m (some (w.heap.size, 1)) [s0, s1, s2, s3, s4, s5, s6, s7] a cap _ (hp.below hA) hl hc rfl hm hmn hn (fun p q h => by cases h; exact ⟨HS.lt, fun j v hv => by have h := HS.range (j + 1) v (by simpa using hv); rw [Nat.add_comm 1 j]; simpa using h⟩)
 simp only [Option.isSome_some, Option.map_some] at h00
 have HC : Hid (Calls _ _ _ _ _) := h00
 clear h00
 generalize bothF m n true [s0, s1, s2, s3, s4, s5, s6, s7] r = O at *
 have h1 : ¬ (m : Int) < 0 := by omega
 have h2 : ¬ (n : Int) < m := by omega
 have h3 : ((m : Int) == 0) = false := by rw [Bool.eq_false_iff]; simp only [ne_eq, beq_iff_eq]; omega
 unfold headV at *
 unfold u8c at *
 simp only [List.map_cons, List.map_nil] at *
 go_enter Try.func50, Try.ntmps50
 go_wp2_with fail
 refine HC.out.mono ?_
 rintro v w3 ⟨⟨p, q, hp8, hq8, rfl, hO⟩, hb3⟩
 obtain ⟨y0, y1, y2, y3, y4, y5, y6, y7, rfl⟩ := list8 p hp8
 obtain ⟨z0, z1, z2, z3, z4, z5, z6, z7, rfl⟩ := list8 q hq8
 have S3 := ((RowV.past hb3 HS).alloc (.cells #[Value.int .u8 (y0.toNat : Int), Value.int .u8 (y1.toNat : Int), Value.int .u8 (y2.toNat : Int), Value.int .u8 (y3.toNat : Int), Value.int .u8 (y4.toNat : Int), Value.int .u8 (y5.toNat : Int), Value.int .u8 (y6.toNat : Int), Value.int .u8 (y7.toNat : Int)] 45)).alloc (.cells #[Value.int .u8 (z0.toNat : Int), Value.int .u8 (z1.toNat : Int), Value.int .u8 (z2.toNat : Int), Value.int .u8 (z3.toNat : Int), Value.int .u8 (z4.toNat : Int), Value.int .u8 (z5.toNat : Int), Value.int .u8 (z6.toNat : Int), Value.int .u8 (z7.toNat : Int)] 45)
 have T3 := ((RowV.past hb3 HT).alloc (.cells #[Value.int .u8 (y0.toNat : Int), Value.int .u8 (y1.toNat : Int), Value.int .u8 (y2.toNat : Int), Value.int .u8 (y3.toNat : Int), Value.int .u8 (y4.toNat : Int), Value.int .u8 (y5.toNat : Int), Value.int .u8 (y6.toNat : Int), Value.int .u8 (y7.toNat : Int)] 45)).alloc (.cells #[Value.int .u8 (z0.toNat : Int), Value.int .u8 (z1.toNat : Int), Value.int .u8 (z2.toNat : Int), Value.int .u8 (z3.toNat : Int), Value.int .u8 (z4.toNat : Int), Value.int .u8 (z5.toNat : Int), Value.int .u8 (z6.toNat : Int), Value.int .u8 (z7.toNat : Int)] 45)
 have c0 : ((w3.alloc (.cells #[Value.int .u8 (y0.toNat : Int), Value.int .u8 (y1.toNat : Int), Value.int .u8 (y2.toNat : Int), Value.int .u8 (y3.toNat : Int), Value.int .u8 (y4.toNat : Int), Value.int .u8 (y5.toNat : Int), Value.int .u8 (y6.toNat : Int), Value.int .u8 (y7.toNat : Int)] 45)).alloc (.cells #[Value.int .u8 (z0.toNat : Int), Value.int .u8 (z1.toNat : Int), Value.int .u8 (z2.toNat : Int), Value.int .u8 (z3.toNat : Int), Value.int .u8 (z4.toNat : Int), Value.int .u8 (z5.toNat : Int), Value.int .u8 (z6.toNat : Int), Value.int .u8 (z7.toNat : Int)] 45)).cell? ⟨w.heap.size, 1, none⟩ = some (.int .u8 (s0.toNat : Int)) := RowV.cell? S3 1
 have g0 : ((w3.alloc (.cells #[Value.int .u8 (y0.toNat : Int), Value.int .u8 (y1.toNat : Int), Value.int .u8 (y2.toNat : Int), Value.int .u8 (y3.toNat : Int), Value.int .u8 (y4.toNat : Int), Value.int .u8 (y5.toNat : Int), Value.int .u8 (y6.toNat : Int), Value.int .u8 (y7.toNat : Int)] 45)).alloc (.cells #[Value.int .u8 (z0.toNat : Int), Value.int .u8 (z1.toNat : Int), Value.int .u8 (z2.toNat : Int), Value.int .u8 (z3.toNat : Int), Value.int .u8 (z4.toNat : Int), Value.int .u8 (z5.toNat : Int), Value.int .u8 (z6.toNat : Int), Value.int .u8 (z7.toNat : Int)] 45)).cell? ⟨w.heap.size + 1, 1, none⟩ = some (.int .u8 (t0.toNat : Int)) := RowV.cell? T3 1
 have c1 : ((w3.alloc (.cells #[Value.int .u8 (y0.toNat : Int), Value.int .u8 (y1.toNat : Int), Value.int .u8 (y2.toNat : Int), Value.int .u8 (y3.toNat : Int), Value.int .u8 (y4.toNat : Int), Value.int .u8 (y5.toNat : Int), Value.int .u8 (y6.toNat : Int), Value.int .u8 (y7.toNat : Int)] 45)).alloc (.cells #[Value.int .u8 (z0.toNat : Int), Value.int .u8 (z1.toNat : Int), Value.int .u8 (z2.toNat : Int), Value.int .u8 (z3.toNat : Int), Value.int .u8 (z4.toNat : Int), Value.int .u8 (z5.toNat : Int), Value.int .u8 (z6.toNat : Int), Value.int .u8 (z7.toNat : Int)] 45)).cell? ⟨w.heap.size, 2, none⟩ = some (.int .u8 (s1.toNat : Int)) := RowV.cell? S3 2
 have g1 : ((w3.alloc (.cells #[Value.int .u8 (y0.toNat : Int), Value.int .u8 (y1.toNat : Int), Value.int .u8 (y2.toNat : Int), Value.int .u8 (y3.toNat : Int), Value.int .u8 (y4.toNat : Int), Value.int .u8 (y5.toNat : Int), Value.int .u8 (y6.toNat : Int), Value.int .u8 (y7.toNat : Int)] 45)).alloc (.cells #[Value.int .u8 (z0.toNat : Int), Value.int .u8 (z1.toNat : Int), Value.int .u8 (z2.toNat : Int), Value.int .u8 (z3.toNat : Int), Value.int .u8 (z4.toNat : Int), Value.int .u8 (z5.toNat : Int), Value.int .u8 (z6.toNat : Int), Value.int .u8 (z7.toNat : Int)] 45)).cell? ⟨w.heap.size + 1, 2, none⟩ = some (.int .u8 (t1.toNat : Int)) := RowV.cell? T3 2
 have c2 : ((w3.alloc (.cells #[Value.int .u8 (y0.toNat : Int), Value.int .u8 (y1.toNat : Int), Value.int .u8 (y2.toNat : Int), Value.int .u8 (y3.toNat : Int), Value.int .u8 (y4.toNat : Int), Value.int .u8 (y5.toNat : Int), Value.int .u8 (y6.toNat : Int), Value.int .u8 (y7.toNat : Int)] 45)).alloc (.cells #[Value.int .u8 (z0.toNat : Int), Value.int .u8 (z1.toNat : Int), Value.int .u8 (z2.toNat : Int), Value.int .u8 (z3.toNat : Int), Value.int .u8 (z4.toNat : Int), Value.int .u8 (z5.toNat : Int), Value.int .u8 (z6.toNat : Int), Value.int .u8 (z7.toNat : Int)] 45)).cell? ⟨w.heap.size, 3, none⟩ = some (.int .u8 (s2.toNat : Int)) := RowV.cell? S3 3
 have g2 : ((w3.alloc (.cells #[Value.int .u8 (y0.toNat : Int), Value.int .u8 (y1.toNat : Int), Value.int .u8 (y2.toNat : Int), Value.int .u8 (y3.toNat : Int), Value.int .u8 (y4.toNat : Int), Value.int .u8 (y5.toNat : Int), Value.int .u8 (y6.toNat : Int), Value.int .u8 (y7.toNat : Int)] 45)).alloc (.cells #[Value.int .u8 (z0.toNat : Int), Value.int .u8 (z1.toNat : Int), Value.int .u8 (z2.toNat : Int), Value.int .u8 (z3.toNat : Int), Value.int .u8 (z4.toNat : Int), Value.int .u8 (z5.toNat : Int), Value.int .u8 (z6.toNat : Int), Value.int .u8 (z7.toNat : Int)] 45)).cell? ⟨w.heap.size + 1, 3, none⟩ = some (.int .u8 (t2.toNat : Int)) := RowV.cell? T3 3
 have c3 : ((w3.alloc (.cells #[Value.int .u8 (y0.toNat : Int), Value.int .u8 (y1.toNat : Int), Value.int .u8 (y2.toNat : Int), Value.int .u8 (y3.toNat : Int), Value.int .u8 (y4.toNat : Int), Value.int .u8 (y5.toNat : Int), Value.int .u8 (y6.toNat : Int), Value.int .u8 (y7.toNat : Int)] 45)).alloc (.cells #[Value.int .u8 (z0.toNat : Int), Value.int .u8 (z1.toNat : Int), Value.int .u8 (z2.toNat : Int), Value.int .u8 (z3.toNat : Int), Value.int .u8 (z4.toNat : Int), Value.int .u8 (z5.toNat : Int), Value.int .u8 (z6.toNat : Int), Value.int .u8 (z7.toNat : Int)] 45)).cell? ⟨w.heap.size, 4, none⟩ = some (.int .u8 (s3.toNat : Int)) := RowV.cell? S3 4
 have g3 : ((w3.alloc (.cells #[Value.int .u8 (y0.toNat : Int), Value.int .u8 (y1.toNat : Int), Value.int .u8 (y2.toNat : Int), Value.int .u8 (y3.toNat : Int), Value.int .u8 (y4.toNat : Int), Value.int .u8 (y5.toNat : Int), Value.int .u8 (y6.toNat : Int), Value.int .u8 (y7.toNat : Int)] 45)).alloc (.cells #[Value.int .u8 (z0.toNat : Int), Value.int .u8 (z1.toNat : Int), Value.int .u8 (z2.toNat : Int), Value.int .u8 (z3.toNat : Int), Value.int .u8 (z4.toNat : Int), Value.int .u8 (z5.toNat : Int), Value.int .u8 (z6.toNat : Int), Value.int .u8 (z7.toNat : Int)] 45)).cell? ⟨w.heap.size + 1, 4, none⟩ = some (.int .u8 (t3.toNat : Int)) := RowV.cell? T3 4
 have c4 : ((w3.alloc (.cells #[Value.int .u8 (y0.toNat : Int), Value.int .u8 (y1.toNat : Int), Value.int .u8 (y2.toNat : Int), Value.int .u8 (y3.toNat : Int), Value.int .u8 (y4.toNat : Int), Value.int .u8 (y5.toNat : Int), Value.int .u8 (y6.toNat : Int), Value.int .u8 (y7.toNat : Int)] 45)).alloc (.cells #[Value.int .u8 (z0.toNat : Int), Value.int .u8 (z1.toNat : Int), Value.int .u8 (z2.toNat : Int), Value.int .u8 (z3.toNat : Int), Value.int .u8 (z4.toNat : Int), Value.int .u8 (z5.toNat : Int), Value.int .u8 (z6.toNat : Int), Value.int .u8 (z7.toNat : Int)] 45)).cell? ⟨w.heap.size, 5, none⟩ = some (.int .u8 (s4.toNat : Int)) := RowV.cell? S3 5
 have g4 : ((w3.alloc (.cells #[Value.int .u8 (y0.toNat : Int), Value.int .u8 (y1.toNat : Int), Value.int .u8 (y2.toNat : Int), Value.int .u8 (y3.toNat : Int), Value.int .u8 (y4.toNat : Int), Value.int .u8 (y5.toNat : Int), Value.int .u8 (y6.toNat : Int), Value.int .u8 (y7.toNat : Int)] 45)).alloc (.cells #[Value.int .u8 (z0.toNat : Int), Value.int .u8 (z1.toNat : Int), Value.int .u8 (z2.toNat : Int), Value.int .u8 (z3.toNat : Int), Value.int .u8 (z4.toNat : Int), Value.int .u8 (z5.toNat : Int), Value.int .u8 (z6.toNat : Int), Value.int .u8 (z7.toNat : Int)] 45)).cell? ⟨w.heap.size + 1, 5, none⟩ = some (.int .u8 (t4.toNat : Int)) := RowV.cell? T3 5
 have c5 : ((w3.alloc (.cells #[Value.int .u8 (y0.toNat : Int), Value.int .u8 (y1.toNat : Int), Value.int .u8 (y2.toNat : Int), Value.int .u8 (y3.toNat : Int), Value.int .u8 (y4.toNat : Int), Value.int .u8 (y5.toNat : Int), Value.int .u8 (y6.toNat : Int), Value.int .u8 (y7.toNat : Int)] 45)).alloc (.cells #[Value.int .u8 (z0.toNat : Int), Value.int .u8 (z1.toNat : Int), Value.int .u8 (z2.toNat : Int), Value.int .u8 (z3.toNat : Int), Value.int .u8 (z4.toNat : Int), Value.int .u8 (z5.toNat : Int), Value.int .u8 (z6.toNat : Int), Value.int .u8 (z7.toNat : Int)] 45)).cell? ⟨w.heap.size, 6, none⟩ = some (.int .u8 (s5.toNat : Int)) := RowV.cell? S3 6
 have g5 : ((w3.alloc (.cells #[Value.int .u8 (y0.toNat : Int), Value.int .u8 (y1.toNat : Int), Value.int .u8 (y2.toNat : Int), Value.int .u8 (y3.toNat : Int), Value.int .u8 (y4.toNat : Int), Value.int .u8 (y5.toNat : Int), Value.int .u8 (y6.toNat : Int), Value.int .u8 (y7.toNat : Int)] 45)).alloc (.cells #[Value.int .u8 (z0.toNat : Int), Value.int .u8 (z1.toNat : Int), Value.int .u8 (z2.toNat : Int), Value.int .u8 (z3.toNat : Int), Value.int .u8 (z4.toNat : Int), Value.int .u8 (z5.toNat : Int), Value.int .u8 (z6.toNat : Int), Value.int .u8 (z7.toNat : Int)] 45)).cell? ⟨w.heap.size + 1, 6, none⟩ = some (.int .u8 (t5.toNat : Int)) := RowV.cell? T3 6
 have c6 : ((w3.alloc (.cells #[Value.int .u8 (y0.toNat : Int), Value.int .u8 (y1.toNat : Int), Value.int .u8 (y2.toNat : Int), Value.int .u8 (y3.toNat : Int), Value.int .u8 (y4.toNat : Int), Value.int .u8 (y5.toNat : Int), Value.int .u8 (y6.toNat : Int), Value.int .u8 (y7.toNat : Int)] 45)).alloc (.cells #[Value.int .u8 (z0.toNat : Int), Value.int .u8 (z1.toNat : Int), Value.int .u8 (z2.toNat : Int), Value.int .u8 (z3.toNat : Int), Value.int .u8 (z4.toNat : Int), Value.int .u8 (z5.toNat : Int), Value.int .u8 (z6.toNat : Int), Value.int .u8 (z7.toNat : Int)] 45)).cell? ⟨w.heap.size, 7, none⟩ = some (.int .u8 (s6.toNat : Int)) := RowV.cell? S3 7
 have g6 : ((w3.alloc (.cells #[Value.int .u8 (y0.toNat : Int), Value.int .u8 (y1.toNat : Int), Value.int .u8 (y2.toNat : Int), Value.int .u8 (y3.toNat : Int), Value.int .u8 (y4.toNat : Int), Value.int .u8 (y5.toNat : Int), Value.int .u8 (y6.toNat : Int), Value.int .u8 (y7.toNat : Int)] 45)).alloc (.cells #[Value.int .u8 (z0.toNat : Int), Value.int .u8 (z1.toNat : Int), Value.int .u8 (z2.toNat : Int), Value.int .u8 (z3.toNat : Int), Value.int .u8 (z4.toNat : Int), Value.int .u8 (z5.toNat : Int), Value.int .u8 (z6.toNat : Int), Value.int .u8 (z7.toNat : Int)] 45)).cell? ⟨w.heap.size + 1, 7, none⟩ = some (.int .u8 (t6.toNat : Int)) := RowV.cell? T3 7
 have c7 : ((w3.alloc (.cells #[Value.int .u8 (y0.toNat : Int), Value.int .u8 (y1.toNat : Int), Value.int .u8 (y2.toNat : Int), Value.int .u8 (y3.toNat : Int), Value.int .u8 (y4.toNat : Int), Value.int .u8 (y5.toNat : Int), Value.int .u8 (y6.toNat : Int), Value.int .u8 (y7.toNat : Int)] 45)).alloc (.cells #[Value.int .u8 (z0.toNat : Int), Value.int .u8 (z1.toNat : Int), Value.int .u8 (z2.toNat : Int), Value.int .u8 (z3.toNat : Int), Value.int .u8 (z4.toNat : Int), Value.int .u8 (z5.toNat : Int), Value.int .u8 (z6.toNat : Int), Value.int .u8 (z7.toNat : Int)] 45)).cell? ⟨w.heap.size, 8, none⟩ = some (.int .u8 (s7.toNat : Int)) := RowV.cell? S3 8
 have g7 : ((w3.alloc (.cells #[Value.int .u8 (y0.toNat : Int), Value.int .u8 (y1.toNat : Int), Value.int .u8 (y2.toNat : Int), Value.int .u8 (y3.toNat : Int), Value.int .u8 (y4.toNat : Int), Value.int .u8 (y5.toNat : Int), Value.int .u8 (y6.toNat : Int), Value.int .u8 (y7.toNat : Int)] 45)).alloc (.cells #[Value.int .u8 (z0.toNat : Int), Value.int .u8 (z1.toNat : Int), Value.int .u8 (z2.toNat : Int), Value.int .u8 (z3.toNat : Int), Value.int .u8 (z4.toNat : Int), Value.int .u8 (z5.toNat : Int), Value.int .u8 (z6.toNat : Int), Value.int .u8 (z7.toNat : Int)] 45)).cell? ⟨w.heap.size + 1, 8, none⟩ = some (.int .u8 (t7.toNat : Int)) := RowV.cell? T3 8
 have heq1 := eqD_run y0 y1 y2 y3 y4 y5 y6 y7 s0 s1 s2 s3 s4 s5 s6 s7
 have heq2 := eqD_run z0 z1 z2 z3 z4 z5 z6 z7 t0 t1 t2 t3 t4 t5 t6 t7
 have HV : Hid (bothB O [s0, s1, s2, s3, s4, s5, s6, s7] [t0, t1, t2, t3, t4, t5, t6, t7] = (O.isSome && (([y0, y1, y2, y3, y4, y5, y6, y7] == [s0, s1, s2, s3, s4, s5, s6, s7]) && ([z0, z1, z2, z3, z4, z5, z6, z7] == [t0, t1, t2, t3, t4, t5, t6, t7])))) := by
  cases hOO : O with
  | none => rfl
  | some q =>
   have := hO q hOO
   subst this
   rfl
 clear hO
 have HB3 : Hid (Below w.heap.size w ((w3.alloc (.cells #[Value.int .u8 (y0.toNat : Int), Value.int .u8 (y1.toNat : Int), Value.int .u8 (y2.toNat : Int), Value.int .u8 (y3.toNat : Int), Value.int .u8 (y4.toNat : Int), Value.int .u8 (y5.toNat : Int), Value.int .u8 (y6.toNat : Int), Value.int .u8 (y7.toNat : Int)] 45)).alloc (.cells #[Value.int .u8 (z0.toNat : Int), Value.int .u8 (z1.toNat : Int), Value.int .u8 (z2.toNat : Int), Value.int .u8 (z3.toNat : Int), Value.int .u8 (z4.toNat : Int), Value.int .u8 (z5.toNat : Int), Value.int .u8 (z6.toNat : Int), Value.int .u8 (z7.toNat : Int)] 45))) := ((hA.trans (hb3.mono hA.size)).alloc (hA.trans (hb3.mono hA.size)).size _).alloc (by have := (hA.trans (hb3.mono hA.size)).size; simp; omega) _
 generalize ([y0, y1, y2, y3, y4, y5, y6, y7] == [s0, s1, s2, s3, s4, s5, s6, s7]) = eq1 at *
 generalize ([z0, z1, z2, z3, z4, z5, z6, z7] == [t0, t1, t2, t3, t4, t5, t6, t7]) = eq2 at *
 generalize O.isSome = ok at *
 clear hb3 hA HS HT S3 T3
 unfold dV u8c
 simp only [List.map_cons, List.map_nil]
 cases ok
 ·go_wp2
  go_ret
  exact ⟨by rw [HV.out]; rfl, HB3.out⟩
 ·cases eq1
  all_goals
   go_wp2
   go_ret
   exact ⟨by rw [HV.out]; rfl, HB3.out⟩
theorem isExt_any (m n : Int) (osum sum : List UInt8) (r : List (List UInt8)) (a : Option Addr) (cap : Nat) (w : World) (ho : osum.length = 8) (hs : sum.length = 8) (hn : n ≤ 9223372036854775807) (hp : SlD w a r.reverse) (hl : r.length ≤ cap) (hc : cap ≤ 9223372036854775807) :
  Calls Try.prog 50 #[headV m osum, headV n sum, .slice a r.length cap] w fun v w' => v = .returned (.bool (extF m n osum sum r)) ∧ Below w.heap.size w w' := by
 unfold extF
 by_cases h : m < 0 ∨ n < m
 ·rw [if_pos h]
  exact isExt_no m n osum sum a r.length cap w ho hs h
 ·rw [if_neg h]
  by_cases h0 : m = 0
  ·rw [if_pos h0]
   subst h0
   exact isExt_zero n osum sum a r.length cap w ho hs (by omega) (by omega)
  ·rw [if_neg h0]
   obtain ⟨n', rfl⟩ : ∃ n' : Nat, n = n' := ⟨n.toNat, by omega⟩
   obtain ⟨m', rfl⟩ : ∃ m' : Nat, m = m' := ⟨m.toNat, by omega⟩
   simp only [Int.toNat_natCast]
   exact isExt_yes n' m' osum sum r a cap w ho hs (by omega) (by omega) (by omega) hp hl hc
set_option maxRecDepth 100000 in
set_option maxHeartbeats 1600000 in
theorem extP_any (m n : Int) (osum sum : List UInt8) (r : List (List UInt8)) (a : Option Addr) (cap : Nat) (w : World) (ho : osum.length = 8) (hs : sum.length = 8) (hn : n ≤ 9223372036854775807) (hp : SlD w a r.reverse) (hl : r.length ≤ cap) (hc : cap ≤ 9223372036854775807) :
  Calls Try.prog 29 #[headV m osum, headV n sum, .slice a r.length cap] w fun v w' => v = .returned (.bool (extF m n osum sum r)) ∧ Below w.heap.size w w' := by
 have hA : Below w.heap.size w ((w.alloc (.cells ((Value.int .i64 m :: osum.map u8c).toArray) 47)).alloc (.cells ((Value.int .i64 n :: sum.map u8c).toArray) 47)) := ((Below.refl _ _).alloc (Nat.le_refl _) _).alloc (by simp) _
 have HC : Hid (Calls _ _ _ _ _) := isExt_any m n osum sum r a cap _ ho hs hn (hp.below hA) hl hc
 obtain ⟨s0, s1, s2, s3, s4, s5, s6, s7, rfl⟩ := list8 osum ho
 obtain ⟨x0, x1, x2, x3, x4, x5, x6, x7, rfl⟩ := list8 sum hs
 generalize extF m n [s0, s1, s2, s3, s4, s5, s6, s7] [x0, x1, x2, x3, x4, x5, x6, x7] r = v at *
 unfold headV u8c at *
 simp only [List.map_cons, List.map_nil] at *
 go_enter Try.func29, Try.ntmps29
 go_wp2_with fail
 refine HC.out.mono ?_
 rintro e w3 ⟨rfl, hb3⟩
 go_wp2
 go_ret
 exact ⟨rfl, hA.trans (hb3.mono hA.size)⟩
end Go.Proofs.Ytekegfbjbainhaa
