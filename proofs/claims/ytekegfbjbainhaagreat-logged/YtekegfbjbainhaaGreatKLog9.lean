
import Derived.Test.YtekegfbjbainhaaGreatKLog5
set_option linter.unusedVariables false
set_option linter.unusedSimpArgs false
namespace Go.Proofs.YtekegfbjbainhaaGreat
open Go.RowKit
attribute [local go_sem ↓] Go.wp_at_zero Go.wp_at_succ
def headV (n : Int) (d : List UInt8) : Value := .agg (Value.int .i64 n :: d.map u8c).toArray
def inclF (n e : Int) (sum root : List UInt8) (r : List (List UInt8)) : Bool := if e < 0 ∨ n ≤ e then false else (thrF e.toNat n.toNat root r).2 && ((thrF e.toNat n.toNat root r).1 == sum)
theorem eqD_run (x0 x1 x2 x3 x4 x5 x6 x7 y0 y1 y2 y3 y4 y5 y6 y7 : UInt8) (W : World) : (Op.equalIn 10000 36 (.agg #[Value.int .u8 (x0.toNat : Int), Value.int .u8 (x1.toNat : Int), Value.int .u8 (x2.toNat : Int), Value.int .u8 (x3.toNat : Int), Value.int .u8 (x4.toNat : Int), Value.int .u8 (x5.toNat : Int), Value.int .u8 (x6.toNat : Int), Value.int .u8 (x7.toNat : Int)]) (.agg #[Value.int .u8 (y0.toNat : Int), Value.int .u8 (y1.toNat : Int), Value.int .u8 (y2.toNat : Int), Value.int .u8 (y3.toNat : Int), Value.int .u8 (y4.toNat : Int), Value.int .u8 (y5.toNat : Int), Value.int .u8 (y6.toNat : Int), Value.int .u8 (y7.toNat : Int)])).run Tryz.prog W = .ok ([x0, x1, x2, x3, x4, x5, x6, x7] == [y0, y1, y2, y3, y4, y5, y6, y7]) W :=
 run_equalIn_bytes (P := Tryz.prog) W 9998 36 5 8 Tryz.underlying36 Tryz.underlying5 Tryz.sizeU8 [x0, x1, x2, x3, x4, x5, x6, x7] [y0, y1, y2, y3, y4, y5, y6, y7] rfl rfl
set_option maxRecDepth 100000 in
set_option maxHeartbeats 1600000 in
theorem checkIncl_no (n e : Int) (sum root : List UInt8) (a : Option Addr) (l cap : Nat) (w : World) (hs : sum.length = 8) (hr : root.length = 8) (h : e < 0 ∨ n ≤ e) :
  Calls Tryz.prog 75 #[headV n sum, .int .i64 e, dV root, .slice a l cap] w fun v w' => v = .returned (.bool false) ∧ Below w.heap.size w w' := by
 obtain ⟨s0, s1, s2, s3, s4, s5, s6, s7, rfl⟩ := list8 sum hs
 obtain ⟨x0, x1, x2, x3, x4, x5, x6, x7, rfl⟩ := list8 root hr
 unfold headV dV u8c
 simp only [List.map_cons, List.map_nil]
 by_cases h0 : e < 0
 ·go_enter Tryz.func75, Tryz.ntmps75
  go_wp2
  go_ret
  exact ⟨rfl, ((Below.refl _ _).alloc (Nat.le_refl _) _).alloc (by simp) _⟩
 ·have h1 : n ≤ e := by omega
  have h2 : ¬ e < 0 := h0
  go_enter Tryz.func75, Tryz.ntmps75
  go_wp2
  go_ret
  exact ⟨rfl, ((Below.refl _ _).alloc (Nat.le_refl _) _).alloc (by simp) _⟩
set_option maxRecDepth 100000 in
set_option maxHeartbeats 1600000 in
theorem checkIncl_yes (n e : Nat) (sum root : List UInt8) (r : List (List UInt8)) (a : Option Addr) (cap : Nat) (w : World) (hs : sum.length = 8) (hr : root.length = 8) (hn : n ≤ 9223372036854775807) (he : e < n) (hp : SlD w a r.reverse) (hl : r.length ≤ cap) (hc : cap ≤ 9223372036854775807) :
  Calls Tryz.prog 75 #[headV n sum, .int .i64 e, dV root, .slice a r.length cap] w fun v w' => v = .returned (.bool ((thrF e n root r).2 && ((thrF e n root r).1 == sum))) ∧ Below w.heap.size w w' := by
 obtain ⟨s0, s1, s2, s3, s4, s5, s6, s7, rfl⟩ := list8 sum hs
 have hA : Below w.heap.size w ((w.alloc (.cells ((Value.int .i64 (n : Int) :: [s0, s1, s2, s3, s4, s5, s6, s7].map u8c).toArray) 98)).alloc (.cells (root.map u8c).toArray 36)) := ((Below.refl _ _).alloc (Nat.le_refl _) _).alloc (by simp) _
 have HC : Hid (Calls _ _ _ _ _) := through_any r n e root a cap _ (hp.below hA) hl hc hr (by omega) hn he
 have HH : RowV ((w.alloc (.cells ((Value.int .i64 (n : Int) :: [s0, s1, s2, s3, s4, s5, s6, s7].map u8c).toArray) 98)).alloc (.cells (root.map u8c).toArray 36)) w.heap.size 98 (Value.int .i64 (n : Int) :: [s0, s1, s2, s3, s4, s5, s6, s7].map u8c) := (RowV.new w _ _).alloc _
 have HTL := thrF_length r e n root
 generalize thrF e n root r = q at *
 obtain ⟨q1, q2⟩ := q
 simp only at HTL HC ⊢
 obtain ⟨y0, y1, y2, y3, y4, y5, y6, y7, rfl⟩ := list8 q1 HTL
 obtain ⟨x0, x1, x2, x3, x4, x5, x6, x7, rfl⟩ := list8 root hr
 have heq := eqD_run y0 y1 y2 y3 y4 y5 y6 y7 s0 s1 s2 s3 s4 s5 s6 s7
 have h2 : ¬ (e : Int) < 0 := by omega
 have h3 : ¬ (n : Int) ≤ e := by omega
 unfold headV dV u8c at *
 simp only [List.map_cons, List.map_nil] at *
 generalize ([y0, y1, y2, y3, y4, y5, y6, y7] == [s0, s1, s2, s3, s4, s5, s6, s7]) = eqv at *
 go_enter Tryz.func75, Tryz.ntmps75
 go_wp2_with fail
 refine HC.out.mono ?_
 rintro v w3 ⟨rfl, hb3⟩
 have H3 := RowV.past hb3 HH
 have H4 := H3.alloc (.cells #[Value.int .u8 (y0.toNat : Int), Value.int .u8 (y1.toNat : Int), Value.int .u8 (y2.toNat : Int), Value.int .u8 (y3.toNat : Int), Value.int .u8 (y4.toNat : Int), Value.int .u8 (y5.toNat : Int), Value.int .u8 (y6.toNat : Int), Value.int .u8 (y7.toNat : Int)] 36)
 have c0 : (w3.alloc (.cells #[Value.int .u8 (y0.toNat : Int), Value.int .u8 (y1.toNat : Int), Value.int .u8 (y2.toNat : Int), Value.int .u8 (y3.toNat : Int), Value.int .u8 (y4.toNat : Int), Value.int .u8 (y5.toNat : Int), Value.int .u8 (y6.toNat : Int), Value.int .u8 (y7.toNat : Int)] 36)).cell? ⟨w.heap.size, 1, none⟩ = some (.int .u8 (s0.toNat : Int)) := RowV.cell? H4 1
 have c1 : (w3.alloc (.cells #[Value.int .u8 (y0.toNat : Int), Value.int .u8 (y1.toNat : Int), Value.int .u8 (y2.toNat : Int), Value.int .u8 (y3.toNat : Int), Value.int .u8 (y4.toNat : Int), Value.int .u8 (y5.toNat : Int), Value.int .u8 (y6.toNat : Int), Value.int .u8 (y7.toNat : Int)] 36)).cell? ⟨w.heap.size, 2, none⟩ = some (.int .u8 (s1.toNat : Int)) := RowV.cell? H4 2
 have c2 : (w3.alloc (.cells #[Value.int .u8 (y0.toNat : Int), Value.int .u8 (y1.toNat : Int), Value.int .u8 (y2.toNat : Int), Value.int .u8 (y3.toNat : Int), Value.int .u8 (y4.toNat : Int), Value.int .u8 (y5.toNat : Int), Value.int .u8 (y6.toNat : Int), Value.int .u8 (y7.toNat : Int)] 36)).cell? ⟨w.heap.size, 3, none⟩ = some (.int .u8 (s2.toNat : Int)) := RowV.cell? H4 3
 have c3 : (w3.alloc (.cells #[Value.int .u8 (y0.toNat : Int), Value.int .u8 (y1.toNat : Int), Value.int .u8 (y2.toNat : Int), Value.int .u8 (y3.toNat : Int), Value.int .u8 (y4.toNat : Int), Value.int .u8 (y5.toNat : Int), Value.int .u8 (y6.toNat : Int), Value.int .u8 (y7.toNat : Int)] 36)).cell? ⟨w.heap.size, 4, none⟩ = some (.int .u8 (s3.toNat : Int)) := RowV.cell? H4 4
 have c4 : (w3.alloc (.cells #[Value.int .u8 (y0.toNat : Int), Value.int .u8 (y1.toNat : Int), Value.int .u8 (y2.toNat : Int), Value.int .u8 (y3.toNat : Int), Value.int .u8 (y4.toNat : Int), Value.int .u8 (y5.toNat : Int), Value.int .u8 (y6.toNat : Int), Value.int .u8 (y7.toNat : Int)] 36)).cell? ⟨w.heap.size, 5, none⟩ = some (.int .u8 (s4.toNat : Int)) := RowV.cell? H4 5
 have c5 : (w3.alloc (.cells #[Value.int .u8 (y0.toNat : Int), Value.int .u8 (y1.toNat : Int), Value.int .u8 (y2.toNat : Int), Value.int .u8 (y3.toNat : Int), Value.int .u8 (y4.toNat : Int), Value.int .u8 (y5.toNat : Int), Value.int .u8 (y6.toNat : Int), Value.int .u8 (y7.toNat : Int)] 36)).cell? ⟨w.heap.size, 6, none⟩ = some (.int .u8 (s5.toNat : Int)) := RowV.cell? H4 6
 have c6 : (w3.alloc (.cells #[Value.int .u8 (y0.toNat : Int), Value.int .u8 (y1.toNat : Int), Value.int .u8 (y2.toNat : Int), Value.int .u8 (y3.toNat : Int), Value.int .u8 (y4.toNat : Int), Value.int .u8 (y5.toNat : Int), Value.int .u8 (y6.toNat : Int), Value.int .u8 (y7.toNat : Int)] 36)).cell? ⟨w.heap.size, 7, none⟩ = some (.int .u8 (s6.toNat : Int)) := RowV.cell? H4 7
 have c7 : (w3.alloc (.cells #[Value.int .u8 (y0.toNat : Int), Value.int .u8 (y1.toNat : Int), Value.int .u8 (y2.toNat : Int), Value.int .u8 (y3.toNat : Int), Value.int .u8 (y4.toNat : Int), Value.int .u8 (y5.toNat : Int), Value.int .u8 (y6.toNat : Int), Value.int .u8 (y7.toNat : Int)] 36)).cell? ⟨w.heap.size, 8, none⟩ = some (.int .u8 (s7.toNat : Int)) := RowV.cell? H4 8
 have hz3 := hb3.size
 simp only [World.size_alloc] at hz3
 cases q2
 all_goals
  go_wp2
  go_ret
  exact ⟨rfl, (hA.trans (hb3.mono hA.size)).alloc (by omega) _⟩
theorem checkIncl_any (n e : Int) (sum root : List UInt8) (r : List (List UInt8)) (a : Option Addr) (cap : Nat) (w : World) (hs : sum.length = 8) (hr : root.length = 8) (hn : n ≤ 9223372036854775807) (hp : SlD w a r.reverse) (hl : r.length ≤ cap) (hc : cap ≤ 9223372036854775807) :
  Calls Tryz.prog 75 #[headV n sum, .int .i64 e, dV root, .slice a r.length cap] w fun v w' => v = .returned (.bool (inclF n e sum root r)) ∧ Below w.heap.size w w' := by
 unfold inclF
 by_cases h : e < 0 ∨ n ≤ e
 ·rw [if_pos h]
  exact checkIncl_no n e sum root a r.length cap w hs hr h
 ·rw [if_neg h]
  obtain ⟨n', rfl⟩ : ∃ n' : Nat, n = n' := ⟨n.toNat, by omega⟩
  obtain ⟨e', rfl⟩ : ∃ e' : Nat, e = e' := ⟨e.toNat, by omega⟩
  simp only [Int.toNat_natCast]
  exact checkIncl_yes n' e' sum root r a cap w hs hr (by omega) (by omega) hp hl hc
set_option maxRecDepth 100000 in
set_option maxHeartbeats 1600000 in
theorem isIncl_no (n e : Int) (sum root : List UInt8) (a : Option Addr) (l cap : Nat) (w : World) (hs : sum.length = 8) (hr : root.length = 8) (h : e < 0 ∨ n ≤ e) :
  Calls Tryz.prog 111 #[headV n sum, .int .i64 e, dV root, .slice a l cap] w fun v w' => v = .returned (.bool false) ∧ Below w.heap.size w w' := by
 obtain ⟨s0, s1, s2, s3, s4, s5, s6, s7, rfl⟩ := list8 sum hs
 obtain ⟨x0, x1, x2, x3, x4, x5, x6, x7, rfl⟩ := list8 root hr
 unfold headV dV u8c
 simp only [List.map_cons, List.map_nil]
 by_cases h0 : e < 0
 ·go_enter Tryz.func111, Tryz.ntmps111
  go_wp2
  go_ret
  exact ⟨rfl, ((Below.refl _ _).alloc (Nat.le_refl _) _).alloc (by simp) _⟩
 ·have h1 : n ≤ e := by omega
  have h2 : ¬ e < 0 := h0
  go_enter Tryz.func111, Tryz.ntmps111
  go_wp2
  go_ret
  exact ⟨rfl, ((Below.refl _ _).alloc (Nat.le_refl _) _).alloc (by simp) _⟩
set_option maxRecDepth 100000 in
set_option maxHeartbeats 1600000 in
theorem isIncl_yes (n e : Nat) (sum root : List UInt8) (r : List (List UInt8)) (a : Option Addr) (cap : Nat) (w : World) (hs : sum.length = 8) (hr : root.length = 8) (hn : n ≤ 9223372036854775807) (he : e < n) (hp : SlD w a r.reverse) (hl : r.length ≤ cap) (hc : cap ≤ 9223372036854775807) :
  Calls Tryz.prog 111 #[headV n sum, .int .i64 e, dV root, .slice a r.length cap] w fun v w' => v = .returned (.bool ((thrF e n root r).2 && ((thrF e n root r).1 == sum))) ∧ Below w.heap.size w w' := by
 obtain ⟨s0, s1, s2, s3, s4, s5, s6, s7, rfl⟩ := list8 sum hs
 have hA : Below w.heap.size w ((w.alloc (.cells ((Value.int .i64 (n : Int) :: [s0, s1, s2, s3, s4, s5, s6, s7].map u8c).toArray) 98)).alloc (.cells (root.map u8c).toArray 36)) := ((Below.refl _ _).alloc (Nat.le_refl _) _).alloc (by simp) _
 have HC : Hid (Calls _ _ _ _ _) := sumWith_any r n e root a cap _ (hp.below hA) hl hc hr (by omega) hn he
 have HH : RowV ((w.alloc (.cells ((Value.int .i64 (n : Int) :: [s0, s1, s2, s3, s4, s5, s6, s7].map u8c).toArray) 98)).alloc (.cells (root.map u8c).toArray 36)) w.heap.size 98 (Value.int .i64 (n : Int) :: [s0, s1, s2, s3, s4, s5, s6, s7].map u8c) := (RowV.new w _ _).alloc _
 have HTL := thrF_length r e n root
 generalize thrF e n root r = q at *
 obtain ⟨q1, q2⟩ := q
 simp only at HTL HC ⊢
 obtain ⟨y0, y1, y2, y3, y4, y5, y6, y7, rfl⟩ := list8 q1 HTL
 obtain ⟨x0, x1, x2, x3, x4, x5, x6, x7, rfl⟩ := list8 root hr
 have heq := eqD_run y0 y1 y2 y3 y4 y5 y6 y7 s0 s1 s2 s3 s4 s5 s6 s7
 have h2 : ¬ (e : Int) < 0 := by omega
 have h3 : ¬ (n : Int) ≤ e := by omega
 unfold headV dV u8c at *
 simp only [List.map_cons, List.map_nil] at *
 generalize ([y0, y1, y2, y3, y4, y5, y6, y7] == [s0, s1, s2, s3, s4, s5, s6, s7]) = eqv at *
 go_enter Tryz.func111, Tryz.ntmps111
 go_wp2_with fail
 refine HC.out.mono ?_
 rintro v w3 ⟨rfl, hb3⟩
 have H3 := RowV.past hb3 HH
 have H4 := H3.alloc (.cells #[Value.int .u8 (y0.toNat : Int), Value.int .u8 (y1.toNat : Int), Value.int .u8 (y2.toNat : Int), Value.int .u8 (y3.toNat : Int), Value.int .u8 (y4.toNat : Int), Value.int .u8 (y5.toNat : Int), Value.int .u8 (y6.toNat : Int), Value.int .u8 (y7.toNat : Int)] 36)
 have c0 : (w3.alloc (.cells #[Value.int .u8 (y0.toNat : Int), Value.int .u8 (y1.toNat : Int), Value.int .u8 (y2.toNat : Int), Value.int .u8 (y3.toNat : Int), Value.int .u8 (y4.toNat : Int), Value.int .u8 (y5.toNat : Int), Value.int .u8 (y6.toNat : Int), Value.int .u8 (y7.toNat : Int)] 36)).cell? ⟨w.heap.size, 1, none⟩ = some (.int .u8 (s0.toNat : Int)) := RowV.cell? H4 1
 have c1 : (w3.alloc (.cells #[Value.int .u8 (y0.toNat : Int), Value.int .u8 (y1.toNat : Int), Value.int .u8 (y2.toNat : Int), Value.int .u8 (y3.toNat : Int), Value.int .u8 (y4.toNat : Int), Value.int .u8 (y5.toNat : Int), Value.int .u8 (y6.toNat : Int), Value.int .u8 (y7.toNat : Int)] 36)).cell? ⟨w.heap.size, 2, none⟩ = some (.int .u8 (s1.toNat : Int)) := RowV.cell? H4 2
 have c2 : (w3.alloc (.cells #[Value.int .u8 (y0.toNat : Int), Value.int .u8 (y1.toNat : Int), Value.int .u8 (y2.toNat : Int), Value.int .u8 (y3.toNat : Int), Value.int .u8 (y4.toNat : Int), Value.int .u8 (y5.toNat : Int), Value.int .u8 (y6.toNat : Int), Value.int .u8 (y7.toNat : Int)] 36)).cell? ⟨w.heap.size, 3, none⟩ = some (.int .u8 (s2.toNat : Int)) := RowV.cell? H4 3
 have c3 : (w3.alloc (.cells #[Value.int .u8 (y0.toNat : Int), Value.int .u8 (y1.toNat : Int), Value.int .u8 (y2.toNat : Int), Value.int .u8 (y3.toNat : Int), Value.int .u8 (y4.toNat : Int), Value.int .u8 (y5.toNat : Int), Value.int .u8 (y6.toNat : Int), Value.int .u8 (y7.toNat : Int)] 36)).cell? ⟨w.heap.size, 4, none⟩ = some (.int .u8 (s3.toNat : Int)) := RowV.cell? H4 4
 have c4 : (w3.alloc (.cells #[Value.int .u8 (y0.toNat : Int), Value.int .u8 (y1.toNat : Int), Value.int .u8 (y2.toNat : Int), Value.int .u8 (y3.toNat : Int), Value.int .u8 (y4.toNat : Int), Value.int .u8 (y5.toNat : Int), Value.int .u8 (y6.toNat : Int), Value.int .u8 (y7.toNat : Int)] 36)).cell? ⟨w.heap.size, 5, none⟩ = some (.int .u8 (s4.toNat : Int)) := RowV.cell? H4 5
 have c5 : (w3.alloc (.cells #[Value.int .u8 (y0.toNat : Int), Value.int .u8 (y1.toNat : Int), Value.int .u8 (y2.toNat : Int), Value.int .u8 (y3.toNat : Int), Value.int .u8 (y4.toNat : Int), Value.int .u8 (y5.toNat : Int), Value.int .u8 (y6.toNat : Int), Value.int .u8 (y7.toNat : Int)] 36)).cell? ⟨w.heap.size, 6, none⟩ = some (.int .u8 (s5.toNat : Int)) := RowV.cell? H4 6
 have c6 : (w3.alloc (.cells #[Value.int .u8 (y0.toNat : Int), Value.int .u8 (y1.toNat : Int), Value.int .u8 (y2.toNat : Int), Value.int .u8 (y3.toNat : Int), Value.int .u8 (y4.toNat : Int), Value.int .u8 (y5.toNat : Int), Value.int .u8 (y6.toNat : Int), Value.int .u8 (y7.toNat : Int)] 36)).cell? ⟨w.heap.size, 7, none⟩ = some (.int .u8 (s6.toNat : Int)) := RowV.cell? H4 7
 have c7 : (w3.alloc (.cells #[Value.int .u8 (y0.toNat : Int), Value.int .u8 (y1.toNat : Int), Value.int .u8 (y2.toNat : Int), Value.int .u8 (y3.toNat : Int), Value.int .u8 (y4.toNat : Int), Value.int .u8 (y5.toNat : Int), Value.int .u8 (y6.toNat : Int), Value.int .u8 (y7.toNat : Int)] 36)).cell? ⟨w.heap.size, 8, none⟩ = some (.int .u8 (s7.toNat : Int)) := RowV.cell? H4 8
 have hz3 := hb3.size
 simp only [World.size_alloc] at hz3
 cases q2
 all_goals
  go_wp2
  go_ret
  exact ⟨rfl, (hA.trans (hb3.mono hA.size)).alloc (by omega) _⟩
theorem isIncl_any (n e : Int) (sum root : List UInt8) (r : List (List UInt8)) (a : Option Addr) (cap : Nat) (w : World) (hs : sum.length = 8) (hr : root.length = 8) (hn : n ≤ 9223372036854775807) (hp : SlD w a r.reverse) (hl : r.length ≤ cap) (hc : cap ≤ 9223372036854775807) :
  Calls Tryz.prog 111 #[headV n sum, .int .i64 e, dV root, .slice a r.length cap] w fun v w' => v = .returned (.bool (inclF n e sum root r)) ∧ Below w.heap.size w w' := by
 unfold inclF
 by_cases h : e < 0 ∨ n ≤ e
 ·rw [if_pos h]
  exact isIncl_no n e sum root a r.length cap w hs hr h
 ·rw [if_neg h]
  obtain ⟨n', rfl⟩ : ∃ n' : Nat, n = n' := ⟨n.toNat, by omega⟩
  obtain ⟨e', rfl⟩ : ∃ e' : Nat, e = e' := ⟨e.toNat, by omega⟩
  simp only [Int.toNat_natCast]
  exact isIncl_yes n' e' sum root r a cap w hs hr (by omega) (by omega) hp hl hc
set_option maxRecDepth 100000 in
set_option maxHeartbeats 1600000 in
theorem inclP_any (n e : Int) (sum root : List UInt8) (r : List (List UInt8)) (a : Option Addr) (cap : Nat) (w : World) (hs : sum.length = 8) (hr : root.length = 8) (hn : n ≤ 9223372036854775807) (hp : SlD w a r.reverse) (hl : r.length ≤ cap) (hc : cap ≤ 9223372036854775807) :
  Calls Tryz.prog 73 #[headV n sum, .int .i64 e, dV root, .slice a r.length cap] w fun v w' => v = .returned (.bool (inclF n e sum root r)) ∧ Below w.heap.size w w' := by
 have hA : Below w.heap.size w ((w.alloc (.cells ((Value.int .i64 n :: sum.map u8c).toArray) 98)).alloc (.cells (root.map u8c).toArray 36)) := ((Below.refl _ _).alloc (Nat.le_refl _) _).alloc (by simp) _
 have HC : Hid (Calls _ _ _ _ _) := isIncl_any n e sum root r a cap _ hs hr hn (hp.below hA) hl hc
 obtain ⟨s0, s1, s2, s3, s4, s5, s6, s7, rfl⟩ := list8 sum hs
 obtain ⟨x0, x1, x2, x3, x4, x5, x6, x7, rfl⟩ := list8 root hr
 generalize inclF n e [s0, s1, s2, s3, s4, s5, s6, s7] [x0, x1, x2, x3, x4, x5, x6, x7] r = v at *
 unfold headV dV u8c at *
 simp only [List.map_cons, List.map_nil] at *
 go_enter Tryz.func73, Tryz.ntmps73
 go_wp2_with fail
 refine HC.out.mono ?_
 rintro e w3 ⟨rfl, hb3⟩
 go_wp2
 go_ret
 exact ⟨rfl, hA.trans (hb3.mono hA.size)⟩
end Go.Proofs.YtekegfbjbainhaaGreat
