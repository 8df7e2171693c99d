import Derived.Test.YtekegfbjbainhaaGreatKLog5
import Derived.BigQuiet
import Derived.Test.YtekegfbjbainhaaGreatKJoin1
import Derived.Test.YtekegfbjbainhaaGreatKJoin3
import Derived.Test.YtekegfbjbainhaaGreatKJoin6
import Derived.Deep.RegionLaw
import Derived.Deep.DrawnRows
set_option linter.unusedVariables false
set_option linter.unusedSimpArgs false

namespace Go.Proofs.YtekegfbjbainhaaGreat
open Go.RowKit
attribute [local go_sem ↓] Go.wp_at_zero Go.wp_at_succ
def headV (n : Int) (d : List UInt8) : Value := .agg (Value.int .i64 n :: d.map u8c).toArray
def inclF (n e : Int) (sum root : List UInt8) (r : List (List UInt8)) : Bool := if e < 0 ∨ n ≤ e then false else (thrF e.toNat n.toNat root r).2 && ((thrF e.toNat n.toNat root r).1 == sum)
theorem eqD_run (x0 x1 x2 x3 x4 x5 x6 x7 y0 y1 y2 y3 y4 y5 y6 y7 : UInt8) (W : World) : (Op.equalIn 10000 36 (.agg #[Value.int .u8 (x0.toNat : Int), Value.int .u8 (x1.toNat : Int), Value.int .u8 (x2.toNat : Int), Value.int .u8 (x3.toNat : Int), Value.int .u8 (x4.toNat : Int), Value.int .u8 (x5.toNat : Int), Value.int .u8 (x6.toNat : Int), Value.int .u8 (x7.toNat : Int)]) (.agg #[Value.int .u8 (y0.toNat : Int), Value.int .u8 (y1.toNat : Int), Value.int .u8 (y2.toNat : Int), Value.int .u8 (y3.toNat : Int), Value.int .u8 (y4.toNat : Int), Value.int .u8 (y5.toNat : Int), Value.int .u8 (y6.toNat : Int), Value.int .u8 (y7.toNat : Int)])).run Tryz.prog W = .ok ([x0, x1, x2, x3, x4, x5, x6, x7] == [y0, y1, y2, y3, y4, y5, y6, y7]) W :=
 run_equalIn_bytes (P := Tryz.prog) W 9998 36 5 8 Tryz.underlying36 Tryz.underlying5 Tryz.sizeU8 [x0, x1, x2, x3, x4, x5, x6, x7] [y0, y1, y2, y3, y4, y5, y6, y7] rfl rfl
set_option maxRecDepth 100000 in
set_option maxHeartbeats 1600000 in
theorem checkIncl_no (n e : Int) (sum root : List UInt8) (a : Option Addr) (l cap : Nat) (w : World) (hs : sum.length = 8) (hr : root.length = 8) (h : e < 0 ∨ n ≤ e) :
  Calls Tryz.prog 75 #[headV n sum, .int .i64 e, dV root, .slice a l cap] w fun v w' => v = .returned (.bool false) ∧ Below w.heap.size w w' := by
 obtain ⟨s0, s1, s2, s3, s4, s5, s6, s7, rfl⟩ := list8 sum hs
 obtain ⟨x0, x1, x2, x3, x4, x5, x6, x7, rfl⟩ := list8 root hr
 unfold headV dV u8c
 simp only [List.map_cons, List.map_nil]
 by_cases h0 : e < 0
 ·go_enter Tryz.func75, Tryz.ntmps75
  go_wp2
  go_ret
  exact ⟨rfl, ((Below.refl _ _).alloc (Nat.le_refl _) _).alloc (by simp) _⟩
 ·have h1 : n ≤ e := by omega
  have h2 : ¬ e < 0 := h0
  go_enter Tryz.func75, Tryz.ntmps75
  go_wp2
  go_ret
  exact ⟨rfl, ((Below.refl _ _).alloc (Nat.le_refl _) _).alloc (by simp) _⟩
set_option maxRecDepth 100000 in
set_option maxHeartbeats 1600000 in
theorem checkIncl_yes (n e : Nat) (sum root : List UInt8) (r : List (List UInt8)) (a : Option Addr) (cap : Nat) (w : World) (hs : sum.length = 8) (hr : root.length = 8) (hn : n ≤ 9223372036854775807) (he : e < n) (hp : SlD w a r.reverse) (hl : r.length ≤ cap) (hc : cap ≤ 9223372036854775807) :
  Calls Tryz.prog 75 #[headV n sum, .int .i64 e, dV root, .slice a r.length cap] w fun v w' => v = .returned (.bool ((thrF e n root r).2 && ((thrF e n root r).1 == sum))) ∧ Below w.heap.size w w' := by
 obtain ⟨s0, s1, s2, s3, s4, s5, s6, s7, rfl⟩ := list8 sum hs
 have hA : Below w.heap.size w ((w.alloc (.cells ((Value.int .i64 (n : Int) :: [s0, s1, s2, s3, s4, s5, s6, s7].map u8c).toArray) 98)).alloc (.cells (root.map u8c).toArray 36)) := ((Below.refl _ _).alloc (Nat.le_refl _) _).alloc (by simp) _
 have HC : Hid (Calls _ _ _ _ _) := through_any r n e root a cap _ (hp.below hA) hl hc hr (by omega) hn he
 have HH : RowV ((w.alloc (.cells ((Value.int .i64 (n : Int) :: [s0, s1, s2, s3, s4, s5, s6, s7].map u8c).toArray) 98)).alloc (.cells (root.map u8c).toArray 36)) w.heap.size 98 (Value.int .i64 (n : Int) :: [s0, s1, s2, s3, s4, s5, s6, s7].map u8c) := (RowV.new w _ _).alloc _
 have HTL := thrF_length r e n root
 generalize thrF e n root r = q at *
 obtain ⟨q1, q2⟩ := q
 simp only at HTL HC ⊢
 obtain ⟨y0, y1, y2, y3, y4, y5, y6, y7, rfl⟩ := list8 q1 HTL
 obtain ⟨x0, x1, x2, x3, x4, x5, x6, x7, rfl⟩ := list8 root hr
 have heq := eqD_run y0 y1 y2 y3 y4 y5 y6 y7 s0 s1 s2 s3 s4 s5 s6 s7
 have h2 : ¬ (e : Int) < 0 := by omega
 have h3 : ¬ (n : Int) ≤ e := by omega
 unfold headV dV u8c at *
 simp only [List.map_cons, List.map_nil] at *
 generalize ([y0, y1, y2, y3, y4, y5, y6, y7] == [s0, s1, s2, s3, s4, s5, s6, s7]) = eqv at *
 go_enter Tryz.func75, Tryz.ntmps75
 go_wp2_with fail
 refine HC.out.mono ?_
 rintro v w3 ⟨rfl, hb3⟩
 have H3 := RowV.past hb3 HH
 have H4 := H3.alloc (.cells #[Value.int .u8 (y0.toNat : Int), Value.int .u8 (y1.toNat : Int), Value.int .u8 (y2.toNat : Int), Value.int .u8 (y3.toNat : Int), Value.int .u8 (y4.toNat : Int), Value.int .u8 (y5.toNat : Int), Value.int .u8 (y6.toNat : Int), Value.int .u8 (y7.toNat : Int)] 36)
 have c0 : (w3.alloc (.cells #[Value.int .u8 (y0.toNat : Int), Value.int .u8 (y1.toNat : Int), Value.int .u8 (y2.toNat : Int), Value.int .u8 (y3.toNat : Int), Value.int .u8 (y4.toNat : Int), Value.int .u8 (y5.toNat : Int), Value.int .u8 (y6.toNat : Int), Value.int .u8 (y7.toNat : Int)] 36)).cell? ⟨w.heap.size, 1, none⟩ = some (.int .u8 (s0.toNat : Int)) := RowV.cell? H4 1
 have c1 : (w3.alloc (.cells #[Value.int .u8 (y0.toNat : Int), Value.int .u8 (y1.toNat : Int), Value.int .u8 (y2.toNat : Int), Value.int .u8 (y3.toNat : Int), Value.int .u8 (y4.toNat : Int), Value.int .u8 (y5.toNat : Int), Value.int .u8 (y6.toNat : Int), Value.int .u8 (y7.toNat : Int)] 36)).cell? ⟨w.heap.size, 2, none⟩ = some (.int .u8 (s1.toNat : Int)) := RowV.cell? H4 2
 have c2 : (w3.alloc (.cells #[Value.int .u8 (y0.toNat : Int), Value.int .u8 (y1.toNat : Int), Value.int .u8 (y2.toNat : Int), Value.int .u8 (y3.toNat : Int), Value.int .u8 (y4.toNat : Int), Value.int .u8 (y5.toNat : Int), Value.int .u8 (y6.toNat : Int), Value.int .u8 (y7.toNat : Int)] 36)).cell? ⟨w.heap.size, 3, none⟩ = some (.int .u8 (s2.toNat : Int)) := RowV.cell? H4 3
 have c3 : (w3.alloc (.cells #[Value.int .u8 (y0.toNat : Int), Value.int .u8 (y1.toNat : Int), Value.int .u8 (y2.toNat : Int), Value.int .u8 (y3.toNat : Int), Value.int .u8 (y4.toNat : Int), Value.int .u8 (y5.toNat : Int), Value.int .u8 (y6.toNat : Int), Value.int .u8 (y7.toNat : Int)] 36)).cell? ⟨w.heap.size, 4, none⟩ = some (.int .u8 (s3.toNat : Int)) := RowV.cell? H4 4
 have c4 : (w3.alloc (.cells #[Value.int .u8 (y0.toNat : Int), Value.int .u8 (y1.toNat : Int), Value.int .u8 (y2.toNat : Int), Value.int .u8 (y3.toNat : Int), Value.int .u8 (y4.toNat : Int), Value.int .u8 (y5.toNat : Int), Value.int .u8 (y6.toNat : Int), Value.int .u8 (y7.toNat : Int)] 36)).cell? ⟨w.heap.size, 5, none⟩ = some (.int .u8 (s4.toNat : Int)) := RowV.cell? H4 5
 have c5 : (w3.alloc (.cells #[Value.int .u8 (y0.toNat : Int), Value.int .u8 (y1.toNat : Int), Value.int .u8 (y2.toNat : Int), Value.int .u8 (y3.toNat : Int), Value.int .u8 (y4.toNat : Int), Value.int .u8 (y5.toNat : Int), Value.int .u8 (y6.toNat : Int), Value.int .u8 (y7.toNat : Int)] 36)).cell? ⟨w.heap.size, 6, none⟩ = some (.int .u8 (s5.toNat : Int)) := RowV.cell? H4 6
 have c6 : (w3.alloc (.cells #[Value.int .u8 (y0.toNat : Int), Value.int .u8 (y1.toNat : Int), Value.int .u8 (y2.toNat : Int), Value.int .u8 (y3.toNat : Int), Value.int .u8 (y4.toNat : Int), Value.int .u8 (y5.toNat : Int), Value.int .u8 (y6.toNat : Int), Value.int .u8 (y7.toNat : Int)] 36)).cell? ⟨w.heap.size, 7, none⟩ = some (.int .u8 (s6.toNat : Int)) := RowV.cell? H4 7
 have c7 : (w3.alloc (.cells #[Value.int .u8 (y0.toNat : Int), Value.int .u8 (y1.toNat : Int), Value.int .u8 (y2.toNat : Int), Value.int .u8 (y3.toNat : Int), Value.int .u8 (y4.toNat : Int), Value.int .u8 (y5.toNat : Int), Value.int .u8 (y6.toNat : Int), Value.int .u8 (y7.toNat : Int)] 36)).cell? ⟨w.heap.size, 8, none⟩ = some (.int .u8 (s7.toNat : Int)) := RowV.cell? H4 8
 have hz3 := hb3.size
 simp only [World.size_alloc] at hz3
 cases q2
 all_goals
  go_wp2
  go_ret
  exact ⟨rfl, (hA.trans (hb3.mono hA.size)).alloc (by omega) _⟩
theorem checkIncl_any (n e : Int) (sum root : List UInt8) (r : List (List UInt8)) (a : Option Addr) (cap : Nat) (w : World) (hs : sum.length = 8) (hr : root.length = 8) (hn : n ≤ 9223372036854775807) (hp : SlD w a r.reverse) (hl : r.length ≤ cap) (hc : cap ≤ 9223372036854775807) :
  Calls Tryz.prog 75 #[headV n sum, .int .i64 e, dV root, .slice a r.length cap] w fun v w' => v = .returned (.bool (inclF n e sum root r)) ∧ Below w.heap.size w w' := by
 unfold inclF
 by_cases h : e < 0 ∨ n ≤ e
 ·rw [if_pos h]
  exact checkIncl_no n e sum root a r.length cap w hs hr h
 ·rw [if_neg h]
  obtain ⟨n', rfl⟩ : ∃ n' : Nat, n = n' := ⟨n.toNat, by omega⟩
  obtain ⟨e', rfl⟩ : ∃ e' : Nat, e = e' := ⟨e.toNat, by omega⟩
  simp only [Int.toNat_natCast]
  exact checkIncl_yes n' e' sum root r a cap w hs hr (by omega) (by omega) hp hl hc
set_option maxRecDepth 100000 in
set_option maxHeartbeats 1600000 in
theorem isIncl_no (n e : Int) (sum root : List UInt8) (a : Option Addr) (l cap : Nat) (w : World) (hs : sum.length = 8) (hr : root.length = 8) (h : e < 0 ∨ n ≤ e) :
  Calls Tryz.prog 111 #[headV n sum, .int .i64 e, dV root, .slice a l cap] w fun v w' => v = .returned (.bool false) ∧ Below w.heap.size w w' := by
 obtain ⟨s0, s1, s2, s3, s4, s5, s6, s7, rfl⟩ := list8 sum hs
 obtain ⟨x0, x1, x2, x3, x4, x5, x6, x7, rfl⟩ := list8 root hr
 unfold headV dV u8c
 simp only [List.map_cons, List.map_nil]
 by_cases h0 : e < 0
 ·go_enter Tryz.func111, Tryz.ntmps111
  go_wp2
  go_ret
  exact ⟨rfl, ((Below.refl _ _).alloc (Nat.le_refl _) _).alloc (by simp) _⟩
 ·have h1 : n ≤ e := by omega
  have h2 : ¬ e < 0 := h0
  go_enter Tryz.func111, Tryz.ntmps111
  go_wp2
  go_ret
  exact ⟨rfl, ((Below.refl _ _).alloc (Nat.le_refl _) _).alloc (by simp) _⟩
set_option maxRecDepth 100000 in
set_option maxHeartbeats 1600000 in
theorem isIncl_yes (n e : Nat) (sum root : List UInt8) (r : List (List UInt8)) (a : Option Addr) (cap : Nat) (w : World) (hs : sum.length = 8) (hr : root.length = 8) (hn : n ≤ 9223372036854775807) (he : e < n) (hp : SlD w a r.reverse) (hl : r.length ≤ cap) (hc : cap ≤ 9223372036854775807) :
  Calls Tryz.prog 111 #[headV n sum, .int .i64 e, dV root, .slice a r.length cap] w fun v w' => v = .returned (.bool ((thrF e n root r).2 && ((thrF e n root r).1 == sum))) ∧ Below w.heap.size w w' := by
 obtain ⟨s0, s1, s2, s3, s4, s5, s6, s7, rfl⟩ := list8 sum hs
 have hA : Below w.heap.size w ((w.alloc (.cells ((Value.int .i64 (n : Int) :: [s0, s1, s2, s3, s4, s5, s6, s7].map u8c).toArray) 98)).alloc (.cells (root.map u8c).toArray 36)) := ((Below.refl _ _).alloc (Nat.le_refl _) _).alloc (by simp) _
 have HC : Hid (Calls _ _ _ _ _) := sumWith_any r n e root a cap _ (hp.below hA) hl hc hr (by omega) hn he
 have HH : RowV ((w.alloc (.cells ((Value.int .i64 (n : Int) :: [s0, s1, s2, s3, s4, s5, s6, s7].map u8c).toArray) 98)).alloc (.cells (root.map u8c).toArray 36)) w.heap.size 98 (Value.int .i64 (n : Int) :: [s0, s1, s2, s3, s4, s5, s6, s7].map u8c) := (RowV.new w _ _).alloc _
 have HTL := thrF_length r e n root
 generalize thrF e n root r = q at *
 obtain ⟨q1, q2⟩ := q
 simp only at HTL HC ⊢
 obtain ⟨y0, y1, y2, y3, y4, y5, y6, y7, rfl⟩ := list8 q1 HTL
 obtain ⟨x0, x1, x2, x3, x4, x5, x6, x7, rfl⟩ := list8 root hr
 have heq := eqD_run y0 y1 y2 y3 y4 y5 y6 y7 s0 s1 s2 s3 s4 s5 s6 s7
 have h2 : ¬ (e : Int) < 0 := by omega
 have h3 : ¬ (n : Int) ≤ e := by omega
 unfold headV dV u8c at *
 simp only [List.map_cons, List.map_nil] at *
 generalize ([y0, y1, y2, y3, y4, y5, y6, y7] == [s0, s1, s2, s3, s4, s5, s6, s7]) = eqv at *
 go_enter Tryz.func111, Tryz.ntmps111
 go_wp2_with fail
 refine HC.out.mono ?_
 rintro v w3 ⟨rfl, hb3⟩
 have H3 := RowV.past hb3 HH
 have H4 := H3.alloc (.cells #[Value.int .u8 (y0.toNat : Int), Value.int .u8 (y1.toNat : Int), Value.int .u8 (y2.toNat : Int), Value.int .u8 (y3.toNat : Int), Value.int .u8 (y4.toNat : Int), Value.int .u8 (y5.toNat : Int), Value.int .u8 (y6.toNat : Int), Value.int .u8 (y7.toNat : Int)] 36)
 have c0 : (w3.alloc (.cells #[Value.int .u8 (y0.toNat : Int), Value.int .u8 (y1.toNat : Int), Value.int .u8 (y2.toNat : Int), Value.int .u8 (y3.toNat : Int), Value.int .u8 (y4.toNat : Int), Value.int .u8 (y5.toNat : Int), Value.int .u8 (y6.toNat : Int), Value.int .u8 (y7.toNat : Int)] 36)).cell? ⟨w.heap.size, 1, none⟩ = some (.int .u8 (s0.toNat : Int)) := RowV.cell? H4 1
 have c1 : (w3.alloc (.cells #[Value.int .u8 (y0.toNat : Int), Value.int .u8 (y1.toNat : Int), Value.int .u8 (y2.toNat : Int), Value.int .u8 (y3.toNat : Int), Value.int .u8 (y4.toNat : Int), Value.int .u8 (y5.toNat : Int), Value.int .u8 (y6.toNat : Int), Value.int .u8 (y7.toNat : Int)] 36)).cell? ⟨w.heap.size, 2, none⟩ = some (.int .u8 (s1.toNat : Int)) := RowV.cell? H4 2
 have c2 : (w3.alloc (.cells #[Value.int .u8 (y0.toNat : Int), Value.int .u8 (y1.toNat : Int), Value.int .u8 (y2.toNat : Int), Value.int .u8 (y3.toNat : Int), Value.int .u8 (y4.toNat : Int), Value.int .u8 (y5.toNat : Int), Value.int .u8 (y6.toNat : Int), Value.int .u8 (y7.toNat : Int)] 36)).cell? ⟨w.heap.size, 3, none⟩ = some (.int .u8 (s2.toNat : Int)) := RowV.cell? H4 3
 have c3 : (w3.alloc (.cells #[Value.int .u8 (y0.toNat : Int), Value.int .u8 (y1.toNat : Int), Value.int .u8 (y2.toNat : Int), Value.int .u8 (y3.toNat : Int), Value.int .u8 (y4.toNat : Int), Value.int .u8 (y5.toNat : Int), Value.int .u8 (y6.toNat : Int), Value.int .u8 (y7.toNat : Int)] 36)).cell? ⟨w.heap.size, 4, none⟩ = some (.int .u8 (s3.toNat : Int)) := RowV.cell? H4 4
 have c4 : (w3.alloc (.cells #[Value.int .u8 (y0.toNat : Int), Value.int .u8 (y1.toNat : Int), Value.int .u8 (y2.toNat : Int), Value.int .u8 (y3.toNat : Int), Value.int .u8 (y4.toNat : Int), Value.int .u8 (y5.toNat : Int), Value.int .u8 (y6.toNat : Int), Value.int .u8 (y7.toNat : Int)] 36)).cell? ⟨w.heap.size, 5, none⟩ = some (.int .u8 (s4.toNat : Int)) := RowV.cell? H4 5
 have c5 : (w3.alloc (.cells #[Value.int .u8 (y0.toNat : Int), Value.int .u8 (y1.toNat : Int), Value.int .u8 (y2.toNat : Int), Value.int .u8 (y3.toNat : Int), Value.int .u8 (y4.toNat : Int), Value.int .u8 (y5.toNat : Int), Value.int .u8 (y6.toNat : Int), Value.int .u8 (y7.toNat : Int)] 36)).cell? ⟨w.heap.size, 6, none⟩ = some (.int .u8 (s5.toNat : Int)) := RowV.cell? H4 6
 have c6 : (w3.alloc (.cells #[Value.int .u8 (y0.toNat : Int), Value.int .u8 (y1.toNat : Int), Value.int .u8 (y2.toNat : Int), Value.int .u8 (y3.toNat : Int), Value.int .u8 (y4.toNat : Int), Value.int .u8 (y5.toNat : Int), Value.int .u8 (y6.toNat : Int), Value.int .u8 (y7.toNat : Int)] 36)).cell? ⟨w.heap.size, 7, none⟩ = some (.int .u8 (s6.toNat : Int)) := RowV.cell? H4 7
 have c7 : (w3.alloc (.cells #[Value.int .u8 (y0.toNat : Int), Value.int .u8 (y1.toNat : Int), Value.int .u8 (y2.toNat : Int), Value.int .u8 (y3.toNat : Int), Value.int .u8 (y4.toNat : Int), Value.int .u8 (y5.toNat : Int), Value.int .u8 (y6.toNat : Int), Value.int .u8 (y7.toNat : Int)] 36)).cell? ⟨w.heap.size, 8, none⟩ = some (.int .u8 (s7.toNat : Int)) := RowV.cell? H4 8
 have hz3 := hb3.size
 simp only [World.size_alloc] at hz3
 cases q2
 all_goals
  go_wp2
  go_ret
  exact ⟨rfl, (hA.trans (hb3.mono hA.size)).alloc (by omega) _⟩
theorem isIncl_any (n e : Int) (sum root : List UInt8) (r : List (List UInt8)) (a : Option Addr) (cap : Nat) (w : World) (hs : sum.length = 8) (hr : root.length = 8) (hn : n ≤ 9223372036854775807) (hp : SlD w a r.reverse) (hl : r.length ≤ cap) (hc : cap ≤ 9223372036854775807) :
  Calls Tryz.prog 111 #[headV n sum, .int .i64 e, dV root, .slice a r.length cap] w fun v w' => v = .returned (.bool (inclF n e sum root r)) ∧ Below w.heap.size w w' := by
 unfold inclF
 by_cases h : e < 0 ∨ n ≤ e
 ·rw [if_pos h]
  exact isIncl_no n e sum root a r.length cap w hs hr h
 ·rw [if_neg h]
  obtain ⟨n', rfl⟩ : ∃ n' : Nat, n = n' := ⟨n.toNat, by omega⟩
  obtain ⟨e', rfl⟩ : ∃ e' : Nat, e = e' := ⟨e.toNat, by omega⟩
  simp only [Int.toNat_natCast]
  exact isIncl_yes n' e' sum root r a cap w hs hr (by omega) (by omega) hp hl hc
set_option maxRecDepth 100000 in
set_option maxHeartbeats 1600000 in
theorem inclP_any (n e : Int) (sum root : List UInt8) (r : List (List UInt8)) (a : Option Addr) (cap : Nat) (w : World) (hs : sum.length = 8) (hr : root.length = 8) (hn : n ≤ 9223372036854775807) (hp : SlD w a r.reverse) (hl : r.length ≤ cap) (hc : cap ≤ 9223372036854775807) :
  Calls Tryz.prog 73 #[headV n sum, .int .i64 e, dV root, .slice a r.length cap] w fun v w' => v = .returned (.bool (inclF n e sum root r)) ∧ Below w.heap.size w w' := by
 have hA : Below w.heap.size w ((w.alloc (.cells ((Value.int .i64 n :: sum.map u8c).toArray) 98)).alloc (.cells (root.map u8c).toArray 36)) := ((Below.refl _ _).alloc (Nat.le_refl _) _).alloc (by simp) _
 have HC : Hid (Calls _ _ _ _ _) := isIncl_any n e sum root r a cap _ hs hr hn (hp.below hA) hl hc
 obtain ⟨s0, s1, s2, s3, s4, s5, s6, s7, rfl⟩ := list8 sum hs
 obtain ⟨x0, x1, x2, x3, x4, x5, x6, x7, rfl⟩ := list8 root hr
 generalize inclF n e [s0, s1, s2, s3, s4, s5, s6, s7] [x0, x1, x2, x3, x4, x5, x6, x7] r = v at *
 unfold headV dV u8c at *
 simp only [List.map_cons, List.map_nil] at *
 go_enter Tryz.func73, Tryz.ntmps73
 go_wp2_with fail
 refine HC.out.mono ?_
 rintro e w3 ⟨rfl, hb3⟩
 go_wp2
 go_ret
 exact ⟨rfl, hA.trans (hb3.mono hA.size)⟩
end Go.Proofs.YtekegfbjbainhaaGreat


namespace Go.Proofs.YtekegfbjbainhaaGreat
open Go.RowKit
attribute [local go_sem ↓] Go.wp_at_zero Go.wp_at_succ
theorem SlD.at {w : World} {a : Option Addr} {l : List (List UInt8)} (h : SlD w a l) (k : Nat) (hk : k < l.length) : ∃ b o, a = some ⟨b, o, none⟩ ∧ b < w.heap.size ∧ w.rangeAt b (o + k * 8) (l[k].map u8c) := by
 have hlen := digsC_length l h.2
 obtain ⟨b, o, ha, hb, _⟩ := h.1 (k * 8) (by omega)
 subst ha
 have hd := h.drop k (by omega)
 refine ⟨b, o, rfl, hb, fun j v hv => ?_⟩
 obtain ⟨hj, hv⟩ := List.getElem?_eq_some_iff.1 hv
 have h8 : l[k].length = 8 := h.2 _ (List.getElem_mem hk)
 have e : l.drop k = l[k] :: l.drop (k + 1) := List.drop_eq_getElem_cons hk
 rw [e] at hd
 have hj' : j < (digsC (l[k] :: l.drop (k + 1))).length := by
  rw [digsC_length _ hd.2]; simp at hj ⊢; omega
 obtain ⟨b', o', ha, hb', hc'⟩ := hd.1 j hj'
 cases ha
 rw [hc', ← hv]
 congr 1
 simp only [digsC, List.flatMap_cons]
 rw [List.getElem_append_left (by simpa using hj)]
set_option maxRecDepth 100000 in
set_option maxHeartbeats 1600000 in
theorem samePath_any (l : List (List UInt8)) (a b : Option Addr) (ca cb : Nat) (w : World) (hA : SlD w a l) (hB : SlD w b l) (hl : l.length ≤ 9223372036854775807) :
  Calls Tryz.prog 52 #[.slice a l.length ca, .slice b l.length cb] w fun e w' => e = .returned (.bool true) ∧ ∃ m, w' = w.drewN m := by
 have hlI : (l.length : Int) ≤ 9223372036854775807 := by omega
 have hne : ((l.length : Int) != (l.length : Int)) = false := by simp
 go_enter Tryz.func52, Tryz.ntmps52
 go_wp2
 go_loopw [5] (fun i wr => ∃ (k m : Nat), k ≤ l.length ∧ i = .int .i64 k ∧ wr = w.drewN m) (fun i _ => l.length - (intOf i).toNat)
 case atStart => exact ⟨0, 0, by omega, by simp, rfl⟩
 case round =>
  obtain ⟨k, m, hk, rfl, rfl⟩ := hrel
  by_cases hlt : k < l.length
  ·obtain ⟨b1, o1, rfl, hb1, hr1⟩ := hA.at k hlt
   obtain ⟨b2, o2, rfl, hb2, hr2⟩ := hB.at k hlt
   obtain ⟨x0, x1, x2, x3, x4, x5, x6, x7, hx⟩ := list8 l[k] (hA.2 _ (List.getElem_mem hlt))
   rw [hx] at hr1 hr2
   have heq : ∀ W, (Op.equalIn 10000 36 (.agg #[Value.int .u8 (x0.toNat : Int), Value.int .u8 (x1.toNat : Int), Value.int .u8 (x2.toNat : Int), Value.int .u8 (x3.toNat : Int), Value.int .u8 (x4.toNat : Int), Value.int .u8 (x5.toNat : Int), Value.int .u8 (x6.toNat : Int), Value.int .u8 (x7.toNat : Int)]) (.agg #[Value.int .u8 (x0.toNat : Int), Value.int .u8 (x1.toNat : Int), Value.int .u8 (x2.toNat : Int), Value.int .u8 (x3.toNat : Int), Value.int .u8 (x4.toNat : Int), Value.int .u8 (x5.toNat : Int), Value.int .u8 (x6.toNat : Int), Value.int .u8 (x7.toNat : Int)])).run Tryz.prog W = .ok true W := fun W => by
    have h := eqD_run x0 x1 x2 x3 x4 x5 x6 x7 x0 x1 x2 x3 x4 x5 x6 x7 W
    rw [beq_self_eq_true] at h
    exact h
   have hkI : (k : Int) < l.length := by omega
   have p0 : w.cell? ⟨b1, o1 + k * 8, none⟩ = some (.int .u8 (x0.toNat : Int)) := hr1 0 _ rfl
   have q0 : w.cell? ⟨b2, o2 + k * 8, none⟩ = some (.int .u8 (x0.toNat : Int)) := hr2 0 _ rfl
   have p1 : w.cell? ⟨b1, o1 + k * 8 + 1, none⟩ = some (.int .u8 (x1.toNat : Int)) := hr1 1 _ rfl
   have q1 : w.cell? ⟨b2, o2 + k * 8 + 1, none⟩ = some (.int .u8 (x1.toNat : Int)) := hr2 1 _ rfl
   have p2 : w.cell? ⟨b1, o1 + k * 8 + 2, none⟩ = some (.int .u8 (x2.toNat : Int)) := hr1 2 _ rfl
   have q2 : w.cell? ⟨b2, o2 + k * 8 + 2, none⟩ = some (.int .u8 (x2.toNat : Int)) := hr2 2 _ rfl
   have p3 : w.cell? ⟨b1, o1 + k * 8 + 3, none⟩ = some (.int .u8 (x3.toNat : Int)) := hr1 3 _ rfl
   have q3 : w.cell? ⟨b2, o2 + k * 8 + 3, none⟩ = some (.int .u8 (x3.toNat : Int)) := hr2 3 _ rfl
   have p4 : w.cell? ⟨b1, o1 + k * 8 + 4, none⟩ = some (.int .u8 (x4.toNat : Int)) := hr1 4 _ rfl
   have q4 : w.cell? ⟨b2, o2 + k * 8 + 4, none⟩ = some (.int .u8 (x4.toNat : Int)) := hr2 4 _ rfl
   have p5 : w.cell? ⟨b1, o1 + k * 8 + 5, none⟩ = some (.int .u8 (x5.toNat : Int)) := hr1 5 _ rfl
   have q5 : w.cell? ⟨b2, o2 + k * 8 + 5, none⟩ = some (.int .u8 (x5.toNat : Int)) := hr2 5 _ rfl
   have p6 : w.cell? ⟨b1, o1 + k * 8 + 6, none⟩ = some (.int .u8 (x6.toNat : Int)) := hr1 6 _ rfl
   have q6 : w.cell? ⟨b2, o2 + k * 8 + 6, none⟩ = some (.int .u8 (x6.toNat : Int)) := hr2 6 _ rfl
   have p7 : w.cell? ⟨b1, o1 + k * 8 + 7, none⟩ = some (.int .u8 (x7.toNat : Int)) := hr1 7 _ rfl
   have q7 : w.cell? ⟨b2, o2 + k * 8 + 7, none⟩ = some (.int .u8 (x7.toNat : Int)) := hr2 7 _ rfl
   clear hr1 hr2 hx
   go_wp2
   go_quiet (fail)
   go_wp2
   refine ⟨⟨k + 1, m + nq, by omega, by go_num, rfl⟩, by simp [intOf]; omega⟩
  ·have hge : ¬ (k : Int) < l.length := by omega
   go_wp2
   go_ret
   exact ⟨rfl, m, rfl⟩
end Go.Proofs.YtekegfbjbainhaaGreat


namespace Go.Proofs.YtekegfbjbainhaaGreat
open Go.RowKit
def patL (pat : Nat → Value) (k : Nat) : List Value := (List.range k).map pat
theorem patL_length (pat : Nat → Value) (k : Nat) : (patL pat k).length = k := by simp [patL]
theorem patL_get (pat : Nat → Value) (k j : Nat) (h : j < k) : (patL pat k)[j]? = some (pat j) := by simp [patL, h]
theorem patL_add (pat : Nat → Value) (a b : Nat) : patL pat (a + b) = patL pat a ++ patL (fun j => pat (a + j)) b := by
 unfold patL
 rw [List.range_add, List.map_append, List.map_map]; rfl
def PatKeep (pat : Nat → Value) (w w' : World) : Prop := ∀ b j, b < w.heap.size → w.cell? ⟨b, j, none⟩ = some (pat j) → w'.cell? ⟨b, j, none⟩ = some (pat j)
theorem PatKeep.trans {pat : Nat → Value} {a b c : World} (h : PatKeep pat a b) (k : PatKeep pat b c) (hs : a.heap.size ≤ b.heap.size) : PatKeep pat a c := fun g j hg hc => k g j (by omega) (h g j hg hc)
theorem PatKeep.below {pat : Nat → Value} {w w' : World} (h : Below w.heap.size w w') : PatKeep pat w w' := fun b j hb hc => by rw [h.cell (p := ⟨b, j, none⟩) hb]; exact hc
theorem run_appendP {P : Program} (w : World) (base : Nat) (t ty e : TypeId) (i : TypeInfo) (z : Value) (size bytes : Nat) (ht : P.underlying t = some (.slice e)) (hi : P.info? e = some i) (hz : i.zero = some z)
  (hsize : i.size = size) (hby : i.bytes = bytes) (hzs : z.cells.size = size) (hsz : 0 < size) (pat : Nat → Value) (v : Value) (n : Nat) (hown : w.ownsRow base e size v n (patL pat (n * size)))
  (a : Addr) (m c : Nat) (hnews : ∀ j u, (patL (fun j => pat (n * size + j)) (m * size))[j]? = some u → w.cell? (a.add j) = some u) (h1 : ∀ j, (pat j).oneCell' = true) (hm : 0 < m)
  (h63 : n + m ≤ maxLen) (hbytes : (n + m) * bytes ≤ 140737488355328) (hbase : base ≤ w.heap.size) :
  ∃ v' w', (Builtin.append_ #[t, t] ty #[v, .slice (some a) m c]).run P w = .ok v' w' ∧ w'.ownsRow base e size v' (n + m) (patL pat ((n + m) * size)) ∧ Frame (fun k => v.ownBlock = some k) w w' ∧ (v'.ownBlock = v.ownBlock ∨ v'.ownBlock = some w.heap.size) ∧ PatKeep pat w w' ∧ w'.ownsRow base e size v n (patL pat (n * size)) := by
 subst hsize
 subst hby
 have hsmall : n + m ≤ 9223372036854775807 := by simp only [maxLen] at h63; omega
 have hadd : patL pat ((n + m) * i.size) = patL pat (n * i.size) ++ patL (fun j => pat (n * i.size + j)) (m * i.size) := by rw [Nat.add_mul, patL_add]
 generalize hnw : patL (fun j => pat (n * i.size + j)) (m * i.size) = news at *
 have hl : news.length = m * i.size := by rw [← hnw, patL_length]
 have h1n : ∀ u ∈ news, u.oneCell' = true := fun u hu => by
  rw [← hnw] at hu
  obtain ⟨j, _, rfl⟩ := List.mem_map.1 hu
  exact h1 _
 have hlen : (patL pat (n * i.size) ++ news).length = (n + m) * i.size := by rw [List.length_append, patL_length, hl, Nat.add_mul]
 have grown : ∀ (old : Nat), old < n + m → ∀ (row : Option Nat),
   (w.drew.alloc (.cells ((patL pat (n * i.size)).toArray ++ news.toArray ++ Builtin.zeroCells z.cells (grownCap w (n + m) old e - (n + m))) e)).ownsRow base e i.size
    (.slice (some ⟨w.heap.size, 0, none⟩) (n + m) (grownCap w (n + m) old e)) (n + m) (patL pat (n * i.size) ++ news) ∧
   Below w.heap.size w (w.drew.alloc (.cells ((patL pat (n * i.size)).toArray ++ news.toArray ++ Builtin.zeroCells z.cells (grownCap w (n + m) old e - (n + m))) e)) := by
  intro old ho row
  have hge := grownCap_ge w (n + m) old e
  have hcm : grownCap w (n + m) old e ≤ maxLen := grownCap_le_maxLen w (n + m) old e h63
  refine ⟨⟨hlen, .inr ⟨w.heap.size, _, _, rfl, hbase, heap_alloc_new w.drew _, hge, hcm, ?_, ?_⟩⟩, ⟨rfl, rfl, rfl, by simp, fun k hk => Below.heap_alloc w.drew _ k hk⟩⟩
  ·simp only [Array.size_append, List.size_toArray, size_zeroCells, hzs, patL_length, hl, ← Nat.add_mul]
   congr 1
   omega
  ·simp only [Array.toList_append, List.append_assoc]
   rw [← List.append_assoc, ← hlen]
   exact List.take_left
 rw [hadd]
 rcases hown.2 with ⟨rfl, rfl⟩ | ⟨g, cap, cur, rfl, hbg, hg, hnc, hcm, hcs, htake⟩
 ·have hr := run_append_nil (P := P) w t ty e i z ht hi hz a m c news hl hnews (by omega) (by omega) (by have hb := hbytes; simp only [Nat.zero_add] at hb; omega)
  have hgr := grown 0 (by omega) none
  have e0 : patL pat (0 * i.size) = [] := by simp [patL]
  rw [e0] at hgr hown ⊢
  simp only [Nat.zero_add, List.nil_append, Array.empty_append] at hgr ⊢
  exact ⟨_, _, hr, hgr.1, Frame.of_below_all hgr.2, Or.inr rfl, PatKeep.below hgr.2, World.ownsRow_nil _ _ _ _⟩
 ·by_cases hroom : n + m ≤ cap
  ·have hfit : n * i.size + news.length ≤ cur.size := by rw [hl, hcs, ← Nat.add_mul]; exact Nat.mul_le_mul_right _ hroom
   have hr := run_append_room (P := P) w t ty e i ht hi g n cap cur hg a m c news hl hnews h1n hroom hfit
   have hh := setRow_heap w g cur (cur.toList.take (n * i.size) ++ news ++ cur.toList.drop (n * i.size + news.length)).toArray e _ hg
   have hcl : (cur.toList.take (n * i.size) ++ news ++ cur.toList.drop (n * i.size + news.length)).length = cap * i.size := by
    simp only [List.length_append, List.length_take, List.length_drop, Array.length_toList]
    omega
   refine ⟨_, _, hr, ⟨hlen, .inr ⟨g, cap, _, rfl, hbg, hh, hroom, hcm, ?_, ?_⟩⟩, ⟨rfl, rfl, rfl, by simp, fun k _ hk => setRow_other w g k _ (fun e => hk (by simp [Value.ownBlock, e]))⟩, Or.inl rfl, ?_, ⟨hown.1, .inr ⟨g, cap, _, rfl, hbg, hh, hnc, hcm, ?_, ?_⟩⟩⟩
   ·rw [List.size_toArray]; exact hcl
   ·rw [htake, ← hlen]
    exact List.take_left
   ·intro b j hb hc
    by_cases hbg' : b = g
    ·subst hbg'
     rw [cell_setRow_same w b j cur _ e _ hg]
     have hc2 : cur[j]? = some (pat j) := by
      rw [← hc]
      simp [World.cell?, hg]
     rw [List.getElem?_toArray]
     have hjc : j < cur.size := (Array.getElem?_eq_some_iff.1 hc2).1
     rw [htake]
     by_cases hj1 : j < n * i.size
     ·rw [List.append_assoc, List.getElem?_append_left (by rw [patL_length]; exact hj1)]
      exact patL_get pat _ j hj1
     ·by_cases hj2 : j < n * i.size + news.length
      ·rw [List.getElem?_append_left (by rw [List.length_append, patL_length]; exact hj2), List.getElem?_append_right (by rw [patL_length]; omega), patL_length, ← hnw, patL_get _ _ _ (by rw [hl] at hj2; omega)]
       rw [show n * i.size + (j - n * i.size) = j by omega]
      ·rw [List.getElem?_append_right (by rw [List.length_append, patL_length]; omega), List.length_append, patL_length, List.getElem?_drop, show n * i.size + news.length + (j - (n * i.size + news.length)) = j by omega]
       rw [Array.getElem?_toList]; exact hc2
    ·rw [cell_setRow_other w g _ ⟨b, j, none⟩ hbg']; exact hc
   ·rw [List.size_toArray]; exact hcl
   ·rw [htake, List.append_assoc]
    have := List.take_left (l₁ := patL pat (n * i.size)) (l₂ := news ++ cur.toList.drop (n * i.size + news.length))
    rw [patL_length] at this
    exact this
  ·have holds : ∀ j u, (patL pat (n * i.size))[j]? = some u → w.cell? ((⟨g, 0, none⟩ : Addr).add j) = some u := hown.cells (g := g) rfl
   have hr := run_append_grow (P := P) w t ty e i z ht hi hz ⟨g, 0, none⟩ n cap (patL pat (n * i.size)) hown.1 holds a m c news hl hnews (by omega) (by omega) (growslice_fits (by omega) hbytes)
   have hgr := grown cap (by omega) none
   exact ⟨_, _, hr, hgr.1, Frame.of_below_all hgr.2, Or.inr rfl, PatKeep.below hgr.2, owns_below hown hgr.2⟩
theorem wp_appendPat {P : Program} {w : World} {ops : Array Oper} {rest : List Oper} {o : Oper} {a : Act} {Q : Exit → Act → World → Prop} (hgd : o.guard = none) (s x : Operand) (t : TypeId)
  (ho : o.op = .call { callee := .builtin .append, args := #[s, x], argTypes := #[t, t] })
  (base : Nat) (e : TypeId) (z : Value) (size bytes : Nat) (ht : P.underlying t = some (.slice e)) (hi : (P.info? e).map (fun i => (i.zero, i.size, i.bytes)) = some (some z, size, bytes)) (hzs : z.cells.size = size) (hsz : 0 < size)
  (pat : Nat → Value) (v : Value) (n : Nat) (hs : a.eval s = v) (hown : w.ownsRow base e size v n (patL pat (n * size)))
  (ad : Addr) (m c : Nat) (hx : a.eval x = .slice (some ad) m c) (hnews : SlV w (some ad) (patL (fun j => pat (n * size + j)) (m * size))) (h1 : ∀ j, (pat j).oneCell' = true) (hm : 0 < m)
  (h63 : n + m ≤ maxLen) (hbytes : (n + m) * bytes ≤ 140737488355328) (hbase : base ≤ w.heap.size)
  (h : ∀ a' c' w', w'.ownsRow base e size (.slice a' (n + m) c') (n + m) (patL pat ((n + m) * size)) → Frame (fun k => v.ownBlock = some k) w w' → ((Value.slice a' (n + m) c').ownBlock = v.ownBlock ∨ (Value.slice a' (n + m) c').ownBlock = some w.heap.size) → PatKeep pat w w' → w'.ownsRow base e size v n (patL pat (n * size)) → wpList P ops Q rest (a.put o.dst (.slice a' (n + m) c')) w') :
  wpList P ops Q (o :: rest) a w := by
 obtain ⟨i, hi0, hz, hsize, hby⟩ := info_parts hi
 obtain ⟨v', w', hr, h2, h3, h4, h5, h6⟩ := run_appendP (P := P) w base t o.type e i z size bytes ht hi0 hz hsize hby hzs hsz pat v n hown ad m c (fun j u hj => by
  obtain ⟨hj1, hj2⟩ := List.getElem?_eq_some_iff.1 hj
  obtain ⟨b, k, ha, _, hc⟩ := hnews j hj1
  cases ha
  rw [addr_add, hc, hj2]) h1 hm h63 hbytes hbase
 obtain ⟨a', c', rfl, _⟩ := owns_form h2
 refine wpList_plain hgd fun K hK => ?_
 unfold Oper.wp execOp
 simp only [ho, resolve, invoke, builtin, Sem.run_bind, Sem.run_pure, Result.andThen_ok, List.map_toArray, List.map_cons, List.map_nil, hs, hx, hr]
 exact hK _ _ (h a' c' w' h2 h3 h4 h5 h6)
end Go.Proofs.YtekegfbjbainhaaGreat


namespace Go.Proofs.YtekegfbjbainhaaGreat
open Go.RowKit
def PatSl (w : World) (pat : Nat → Value) (size : Nat) (s : SlR) : Prop := ∀ j, j < s.n * size → ∃ g, s.a = some ⟨g, 0, none⟩ ∧ g < w.heap.size ∧ w.cell? ⟨g, j, none⟩ = some (pat j)
theorem PatSl.keep {w w' : World} {pat : Nat → Value} {size : Nat} {s : SlR} (h : PatSl w pat size s) (hk : PatKeep pat w w') (hz : w.heap.size ≤ w'.heap.size) : PatSl w' pat size s := fun j hj => by
 obtain ⟨g, h1, h2, h3⟩ := h j hj
 exact ⟨g, h1, by omega, hk g j h2 h3⟩
theorem PatSl.frame {w w' : World} {S : Nat → Prop} {pat : Nat → Value} {size : Nat} {s : SlR} (h : PatSl w pat size s) (hf : Frame S w w') (hS : ∀ k, s.val.ownBlock = some k → ¬ S k) : PatSl w' pat size s := fun j hj => by
 obtain ⟨g, h1, h2, h3⟩ := h j hj
 refine ⟨g, h1, Nat.lt_of_lt_of_le h2 hf.size, ?_⟩
 rw [World.cell?_of_block (w := w) (w' := w') (a := ⟨g, j, none⟩) (hf.block g h2 (hS g (by unfold SlR.val; rw [h1]; rfl)))]
 exact h3
theorem PatSl.own {w : World} {pat : Nat → Value} {base e size n : Nat} {s : SlR} (h : w.ownsRow base e size s.val n (patL pat (n * size))) : PatSl w pat size s := fun j hj => by
 have hn := (owns_cap (a := s.a) (n' := s.n) (cap := s.cap) h).1
 obtain ⟨hs, _⟩ := SlV.ofOwn (s := s) h
 obtain ⟨b, o, ha, hb, hc⟩ := hs j (by rw [patL_length, ← hn]; exact hj)
 rcases (owns_cap (a := s.a) (n' := s.n) (cap := s.cap) h).2.2.2 with ⟨e1, _⟩ | ⟨g, e1, _, _⟩
 ·rw [ha] at e1; cases e1
 ·rw [ha] at e1
  cases e1
  refine ⟨b, ha, hb, ?_⟩
  rw [Nat.zero_add] at hc
  rw [hc]
  simp [patL]
def patB (m : Nat) : Nat → Value := fun _ => .int .u8 ((m : Int) % 251)
set_option maxRecDepth 100000 in
set_option maxHeartbeats 400000 in
theorem allBytes_any (s : SlR) (m : Nat) (w : World) (h : PatSl w (patB m) 1 s) (hn : s.n ≤ 140737488355328) (hm : m ≤ 140737488355328) :
  Calls Tryz.prog 57 #[s.val, .int .i64 (m : Int)] w fun e w' => e = .returned (.bool true) ∧ w' = w := by
 have hmI : (m : Int) ≤ 140737488355328 := by omega
 have hnI : (s.n : Int) ≤ 140737488355328 := by omega
 have HP : Hid (PatSl w (patB m) 1 s) := h
 clear h
 unfold SlR.val
 go_enter Tryz.func57, Tryz.ntmps57
 go_wp2
 go_loop [5] (fun i => ∃ k : Nat, k ≤ s.n ∧ i = .int .i64 k) (fun i => s.n - (intOf i).toNat)
 case atStart => exact ⟨0, by omega, rfl⟩
 case round =>
  obtain ⟨k, hk, rfl⟩ := hrel
  by_cases hlt : k < s.n
  ·have hltI : (k : Int) < s.n := by omega
   obtain ⟨g, ha, hg, hc⟩ := HP.out k (by omega)
   have hc' : w.cell? ⟨g, k, none⟩ = some (.int .u8 ((m : Int) % 251)) := hc
   rw [ha]
   clear hc
   go_wp2
   go_round
   case rel => exact ⟨k + 1, by omega, by go_num⟩
   case measure => simp [intOf]; omega
  ·have hltI : ¬ (k : Int) < s.n := by omega
   go_wp2
   go_ret
   exact ⟨rfl, rfl⟩
structure BkR where
 l : SlR
 one : SlR
 two : SlR
 three : SlR
def bkC (r : BkR) (m : Nat) : List Value := [r.l.val, r.one.val, r.two.val, r.three.val, .int .i64 (m : Int)]
def bkF (r : BkR) (k : Nat) : Prop := r.l.val.ownBlock = some k ∨ r.one.val.ownBlock = some k ∨ r.two.val.ownBlock = some k ∨ r.three.val.ownBlock = some k
structure BkOk (w : World) (pat : Nat → Value) (size : Nat) (r : BkR) : Prop where
 l : PatSl w pat size r.l
 one : PatSl w pat size r.one
 two : PatSl w pat size r.two
 three : PatSl w pat size r.three
 nl : r.l.n ≤ 100000000000010
 n1 : r.one.n ≤ 100000000000010
 n2 : r.two.n ≤ 100000000000010
 n3 : r.three.n ≤ 100000000000010
 lt : ∀ k, bkF r k → k < w.heap.size
theorem BkOk.frame {w w' : World} {S : Nat → Prop} {pat : Nat → Value} {size : Nat} {r : BkR} (h : BkOk w pat size r) (hf : Frame S w w') (hS : ∀ k, bkF r k → ¬ S k) : BkOk w' pat size r :=
 ⟨h.l.frame hf (fun k hk => hS k (Or.inl hk)), h.one.frame hf (fun k hk => hS k (Or.inr (Or.inl hk))), h.two.frame hf (fun k hk => hS k (Or.inr (Or.inr (Or.inl hk)))), h.three.frame hf (fun k hk => hS k (Or.inr (Or.inr (Or.inr hk)))), h.nl, h.n1, h.n2, h.n3, fun k hk => Nat.lt_of_lt_of_le (h.lt k hk) hf.size⟩
theorem BkOk.below {w w' : World} {pat : Nat → Value} {size : Nat} {r : BkR} (h : BkOk w pat size r) (hb : Below w.heap.size w w') : BkOk w' pat size r := h.frame (Frame.of_below_all (S := fun _ => False) hb) (fun _ _ e => e)
set_option maxRecDepth 100000 in
set_option maxHeartbeats 1000000 in
theorem still_any (r : BkR) (m : Nat) (w : World) (h : BkOk w (patB m) 1 r) (hm : m ≤ 140737488355328) :
  Calls Tryz.prog 24 #[.agg (bkC r m).toArray] w fun e w' => e = .returned (.bool true) ∧ Below w.heap.size w w' := by
 have hb : Below w.heap.size w (w.alloc (.cells #[.slice r.l.a r.l.n r.l.cap, .slice r.one.a r.one.n r.one.cap, .slice r.two.a r.two.n r.two.cap, .slice r.three.a r.three.n r.three.cap, .int .i64 (m : Int)] 60)) := (Below.refl _ _).alloc (Nat.le_refl _) _
 have h' := h.below hb
 have H1 : Hid (Calls _ _ _ _ _) := allBytes_any r.l m _ h'.l (by have := h.nl; omega) hm
 have H2 : Hid (Calls _ _ _ _ _) := allBytes_any r.one m _ h'.one (by have := h.n1; omega) hm
 have H3 : Hid (Calls _ _ _ _ _) := allBytes_any r.two m _ h'.two (by have := h.n2; omega) hm
 have H4 : Hid (Calls _ _ _ _ _) := allBytes_any r.three m _ h'.three (by have := h.n3; omega) hm
 clear h h' hb
 unfold bkC
 unfold SlR.val at H1 H2 H3 H4 ⊢
 go_enter Tryz.func24, Tryz.ntmps24
 go_wp2_with fail
 refine H1.out.mono ?_
 rintro e w1 ⟨rfl, rfl⟩
 go_wp2_with fail
 refine H2.out.mono ?_
 rintro e w1 ⟨rfl, rfl⟩
 go_wp2_with fail
 refine H3.out.mono ?_
 rintro e w1 ⟨rfl, rfl⟩
 go_wp2_with fail
 refine H4.out.mono ?_
 rintro e w1 ⟨rfl, rfl⟩
 go_wp2
 go_ret
 exact ⟨rfl, by go_grown⟩
end Go.Proofs.YtekegfbjbainhaaGreat


namespace Go.Proofs.YtekegfbjbainhaaGreat
open Go.RowKit
theorem Tryz.sizeBytes : (Tryz.prog.info? 60).map (·.size) = some 5 := by kernel_rfl
theorem pat_set (pat : Nat → Value) (xs : List Value) (k : Nat) (h : k < xs.length) : (patL pat k ++ xs.drop k).set k (pat k) = patL pat (k + 1) ++ xs.drop (k + 1) := by
 rw [List.set_append_right _ _ (by rw [patL_length]; exact Nat.le_refl _), patL_length, Nat.sub_self, List.drop_eq_getElem_cons h, List.set_cons_zero, patL_add]
 simp [patL]
theorem bk_one {a b c d : Option Addr} {n1 n2 n3 n4 c1 c2 c3 c4 : Nat} {x : Int} {u : Value} (hu : u ∈ [Value.slice a n1 c1, .slice b n2 c2, .slice c n3 c3, .slice d n4 c4, .int .i64 x]) : u.oneCell' = true := by
 simp only [List.mem_cons, List.not_mem_nil, or_false] at hu
 rcases hu with rfl | rfl | rfl | rfl | rfl <;> rfl
theorem mark_more {W : World} {base k m : Nat} {v : Value} (q : Nat) (h : W.ownsRow base 5 1 v k (patL (patB m) (k * 1))) : (W.alloc (.cells (List.replicate q (Value.int .u8 ((m : Int) % 251))).toArray 5)).ownsRow base 5 1 v k (patL (patB m) (k * 1)) ∧ SlV (W.alloc (.cells (List.replicate q (Value.int .u8 ((m : Int) % 251))).toArray 5)) (some ⟨W.heap.size, 0, none⟩) (patL (fun j => patB m (k * 1 + j)) (q * 1)) := by
 refine ⟨h.alloc _, ?_⟩
 have e : patL (fun j => patB m (k * 1 + j)) (q * 1) = List.replicate q (Value.int .u8 ((m : Int) % 251)) := by
  unfold patL patB
  apply List.ext_getElem
  ·simp
  ·intro i h1 h2; simp
 rw [e]
 exact SlV.alloc_new W _ _
set_option maxRecDepth 100000 in
set_option maxHeartbeats 2000000 in
theorem ownBytes_any (v : SlR) (L : List UInt8) (base m : Nat) (w : World) (ho : OwnB w base v.val L) (hL : L.length ≤ 100000000000000) (hm : m ≤ 140737488355328) (hb : base ≤ w.heap.size) :
  Calls Tryz.prog 34 #[v.val, .int .i64 (m : Int)] w fun e w' => ∃ r : BkR, e = .returned (.agg (bkC r m).toArray) ∧ BkOk w' (patB m) 1 r ∧ Frame (fun k => v.val.ownBlock = some k) w w' ∧ (∀ k, bkF r k → v.val.ownBlock = some k ∨ w.heap.size < k) := by
 have hcp := owns_cap (a := v.a) (n' := v.n) (cap := v.cap) ho
 obtain ⟨va, vn, vc⟩ := v
 unfold SlR.val at ho ⊢
 simp only at ho hcp ⊢
 obtain ⟨h1, h2, h3, h4⟩ := hcp
 subst h1
 have hmI : (m : Int) ≤ 140737488355328 := by omega
 have hA : Below w.heap.size w (w.alloc (.cells #[.slice none 0 0, .slice none 0 0, .slice none 0 0, .slice none 0 0, .int .i64 0] 60)) := (Below.refl _ _).alloc (Nat.le_refl _) _
 have HR0 : Hid (RowV (w.alloc (.cells #[.slice none 0 0, .slice none 0 0, .slice none 0 0, .slice none 0 0, .int .i64 0] 60)) w.heap.size 60 [.slice none 0 0, .slice none 0 0, .slice none 0 0, .slice none 0 0, .int .i64 0]) := RowV.new w _ _
 have HO0 : Hid ((w.alloc (.cells #[.slice none 0 0, .slice none 0 0, .slice none 0 0, .slice none 0 0, .int .i64 0] 60)).ownsRow base 5 1 (.slice va L.length vc) L.length (L.map u8c)) := owns_below ho hA
 have HFR0 : Hid (Frame (fun k => (Value.slice va L.length vc).ownBlock = some k) w (w.alloc (.cells #[.slice none 0 0, .slice none 0 0, .slice none 0 0, .slice none 0 0, .int .i64 0] 60))) := Frame.of_below_all hA
 have HVL : Hid (∀ k, (Value.slice va L.length vc).ownBlock = some k → base ≤ k ∧ k < w.heap.size) := ho.lt
 have hnI : (L.length : Int) ≤ 100000000000000 := by omega
 have HAD : Hid (va = none ∧ L.length = 0 ∧ vc = 0 ∨ ∃ g, va = some ⟨g, 0, none⟩ ∧ base ≤ g ∧ g < w.heap.size) := h4
 have HB : Hid (base ≤ w.heap.size) := hb
 have HL : Hid (L.length ≤ 100000000000000) := hL
 have HXL : Hid ((L.map u8c).length = L.length) := by unfold Hid; simp
 have HDR : Hid ((L.map u8c).drop L.length = []) := by unfold Hid; exact List.drop_eq_nil_of_le (by simp)
 generalize L.map u8c = xs at *
 generalize L.length = n at *
 clear hA ho h2 h3 h4 hb hL
 go_enter Tryz.func34, Tryz.ntmps34
 go_wp2
 go_loopw [6] (fun i wr => ∃ k : Nat, k ≤ n ∧ i = .int .i64 k ∧ Hid (wr.ownsRow base 5 1 (.slice va n vc) n (patL (patB m) k ++ xs.drop k)) ∧ Hid (Frame (fun k => (Value.slice va n vc).ownBlock = some k) w wr) ∧ Hid (RowV wr w.heap.size 60 [.slice none 0 0, .slice none 0 0, .slice none 0 0, .slice none 0 0, .int .i64 0])) (fun i _ => n - (intOf i).toNat)
 case atStart => exact ⟨0, by omega, by simp, by unfold Hid; simpa [patL] using HO0.out, HFR0, HR0⟩
 case round =>
  obtain ⟨k, hk, rfl, HO, HF, HR⟩ := hrel
  by_cases hlt : k < n
  ·have hltI : (k : Int) < n := by omega
   obtain ⟨g, hva, hbg, hgw⟩ : ∃ g, va = some ⟨g, 0, none⟩ ∧ base ≤ g ∧ g < w.heap.size := by
    rcases HAD.out with ⟨_, h0, _⟩ | h
    ·omega
    ·exact h
   subst hva
   have hc := World.ownsRow.cellAt HO.out k (by omega)
   have hkx : k < xs.length := by have := HXL.out; omega
   rw [List.getElem?_append_right (by rw [patL_length]; exact Nat.le_refl _), patL_length, Nat.sub_self, List.getElem?_drop, Nat.add_zero, List.getElem?_eq_getElem hkx] at hc
   have hf := World.ownsRow.frozenAt HO.out k
   have HO' : Hid ((wr.setCell ⟨g, k, none⟩ (patB m k)).ownsRow base 5 1 (.slice (some ⟨g, 0, none⟩) n vc) n (patL (patB m) (k + 1) ++ xs.drop (k + 1))) := by
    have := (World.ownsRow.stored HO.out k (patB m k)).1
    rw [pat_set _ _ _ hkx] at this
    exact this
   have HF' : Hid (Frame (fun k => (Value.slice (some ⟨g, 0, none⟩) n vc).ownBlock = some k) w (wr.setCell ⟨g, k, none⟩ (patB m k))) := HF.out.setCell (p := ⟨g, k, none⟩) rfl _
   have HR' : Hid (RowV (wr.setCell ⟨g, k, none⟩ (patB m k)) w.heap.size 60 [.slice none 0 0, .slice none 0 0, .slice none 0 0, .slice none 0 0, .int .i64 0]) := HR.out.other (by show w.heap.size ≠ g; omega) _
   unfold patB at HO' HF' HR'
   clear hbg hgw
   go_wp2
   refine ⟨⟨k + 1, by omega, by go_num, ?_, HF'.out, HR'.out⟩, by simp [intOf]; omega⟩
   exact HO'.out
  ·obtain rfl : k = n := by omega
   have hltI : ¬ (k : Int) < k := by omega
   have HO1 : Hid (wr.ownsRow base 5 1 (.slice va k vc) k (patL (patB m) (k * 1))) := by
    have := HO.out
    rw [HDR.out, List.append_nil] at this
    unfold Hid; rw [Nat.mul_one]; exact this
   have H1 : Hid (∀ j, (patB m j).oneCell' = true) := fun j => rfl
   clear HO
   have HKR : Hid (∀ W W', RowV W w.heap.size 60 [.slice none 0 0, .slice none 0 0, .slice none 0 0, .slice none 0 0, .int .i64 0] → Frame (fun k_1 => (Value.slice va k vc).ownBlock = some k_1) W W' → RowV W' w.heap.size 60 [.slice none 0 0, .slice none 0 0, .slice none 0 0, .slice none 0 0, .int .i64 0]) := fun W W' h hf => h.of_block (hf.block _ h.lt (fun e => by have := (HVL.out _ e).2; omega))
   have HBW : Hid (base ≤ wr.heap.size) := Nat.le_trans HB.out HF.out.size
   go_wp2_with (first
    | (at_builtin; obtain ⟨ox1, sx1⟩ := mark_more 1 HO1.out; refine wp_appendPat (by rfl) (.tmp 23) (.tmp 25) 38 (by rfl) base 5 _ 1 1 Tryz.underlying38 Tryz.infoU8 rfl (by decide) (patB m) (.slice va k vc) k (by rfl) ox1 ⟨wr.heap.size, 0, none⟩ 1 1 (by rfl) sx1 H1.out (by decide) (by have := HL.out; unfold maxLen; omega) (by have := HL.out; omega) (by have := HBW.out; simp; omega) ?_; intro a2 c2 w2 ho2 hf2 hat2 hk2 hv2)
    | (at_builtin; obtain ⟨ox2, sx2⟩ := mark_more 2 hv2; refine wp_appendPat (by rfl) (.tmp 27) (.tmp 30) 38 (by rfl) base 5 _ 1 1 Tryz.underlying38 Tryz.infoU8 rfl (by decide) (patB m) (.slice va k vc) k (by rfl) ox2 ⟨w2.heap.size, 0, none⟩ 2 2 (by rfl) sx2 H1.out (by decide) (by have := HL.out; unfold maxLen; omega) (by have := HL.out; omega) (by have := (Nat.le_trans HBW.out (Nat.le_trans (by simp) hf2.size) : base ≤ w2.heap.size); simp; omega) ?_; intro a3 c3 w3 ho3 hf3 hat3 hk3 hv3)
    | (at_builtin; obtain ⟨ox3, sx3⟩ := mark_more 3 hv3; refine wp_appendPat (by rfl) (.tmp 32) (.tmp 36) 38 (by rfl) base 5 _ 1 1 Tryz.underlying38 Tryz.infoU8 rfl (by decide) (patB m) (.slice va k vc) k (by rfl) ox3 ⟨w3.heap.size, 0, none⟩ 3 3 (by rfl) sx3 H1.out (by decide) (by have := HL.out; unfold maxLen; omega) (by have := HL.out; omega) (by have := (Nat.le_trans HBW.out (Nat.le_trans (Nat.le_trans (by simp) hf2.size) (Nat.le_trans (by simp) hf3.size)) : base ≤ w3.heap.size); simp; omega) ?_; intro a4 c4 w4 ho4 hf4 hat4 hk4 hv4; have hR4 := HKR.out _ _ (RowV.alloc (HKR.out _ _ (RowV.alloc (HKR.out _ _ (RowV.alloc HR.out _) hf2) _) hf3) _) hf4)
    | (refine wp_storeR (by rfl) 60 (.tmp 4) (.tmp 43) (by rfl) w.heap.size (by rfl) [.slice va k vc, .slice a2 (k + 1) c2, .slice a3 (k + 2) c3, .slice a4 (k + 3) c4, .int .i64 (m : Int)] (by rfl) hR4 rfl Tryz.sizeBytes (fun u hu => bk_one hu) ?_; intro w5 hR5 hf5 hz5))
   have hwr := HR.out.lt
   have z2 := hf2.size
   have z3 := hf3.size
   have z4 := hf4.size
   simp only [World.size_alloc] at z2 z3 z4
   have hb2 : Below w2.heap.size w2 (w2.alloc (.cells #[Value.int .u8 ((m : Int) % 251), Value.int .u8 ((m : Int) % 251)] 5)) := (Below.refl _ _).alloc (Nat.le_refl _) _
   have hb3 : Below w3.heap.size w3 (w3.alloc (.cells #[Value.int .u8 ((m : Int) % 251), Value.int .u8 ((m : Int) % 251), Value.int .u8 ((m : Int) % 251)] 5)) := (Below.refl _ _).alloc (Nat.le_refl _) _
   have hbw : Below wr.heap.size wr (wr.alloc (.cells #[Value.int .u8 ((m : Int) % 251)] 5)) := (Below.refl _ _).alloc (Nat.le_refl _) _
   have k23 : PatKeep (patB m) w2 w3 := (PatKeep.below hb2).trans hk3 hb2.size
   have k34 : PatKeep (patB m) w3 w4 := (PatKeep.below hb3).trans hk4 hb3.size
   have k24 : PatKeep (patB m) w2 w4 := k23.trans k34 (by omega)
   have g1 : ∀ k_1, (Value.slice a2 (k + 1) c2).ownBlock = some k_1 → (Value.slice va k vc).ownBlock = some k_1 ∨ w.heap.size < k_1 := fun q hq => by
    rcases hat2 with e | e
    ·exact Or.inl (by rw [← e]; exact hq)
    ·rw [e] at hq; have := Option.some.inj hq; simp at this; exact Or.inr (by omega)
   have g2 : ∀ k_1, (Value.slice a3 (k + 2) c3).ownBlock = some k_1 → (Value.slice va k vc).ownBlock = some k_1 ∨ w.heap.size < k_1 := fun q hq => by
    rcases hat3 with e | e
    ·exact Or.inl (by rw [← e]; exact hq)
    ·rw [e] at hq; have := Option.some.inj hq; simp at this; exact Or.inr (by omega)
   have g3 : ∀ k_1, (Value.slice a4 (k + 3) c4).ownBlock = some k_1 → (Value.slice va k vc).ownBlock = some k_1 ∨ w.heap.size < k_1 := fun q hq => by
    rcases hat4 with e | e
    ·exact Or.inl (by rw [← e]; exact hq)
    ·rw [e] at hq; have := Option.some.inj hq; simp at this; exact Or.inr (by omega)
   have hne : ∀ q, ((Value.slice va k vc).ownBlock = some q ∨ w.heap.size < q) → ¬ q = w.heap.size := fun q hq e => by
    rcases hq with h | h
    ·have := (HVL.out q h).2; omega
    ·omega
   have hfw : Frame (fun k_1 => (Value.slice va k vc).ownBlock = some k_1) w w4 := (((((HF.out.alloc _).trans hf2).alloc _).trans hf3).alloc _).trans hf4
   have hl60 := HL.out
   refine ret_agg (k := 4) (cs := bkC ⟨⟨va, k, vc⟩, ⟨a2, k + 1, c2⟩, ⟨a3, k + 2, c3⟩, ⟨a4, k + 3, c4⟩⟩ m) rfl rfl hR5 Tryz.underlying60 rfl Tryz.sizeBytes rfl ⟨⟨⟨va, k, vc⟩, ⟨a2, k + 1, c2⟩, ⟨a3, k + 2, c3⟩, ⟨a4, k + 3, c4⟩⟩, rfl, ⟨?_, ?_, ?_, ?_, by simp only; omega, by simp only; omega, by simp only; omega, by simp only; omega, ?_⟩, ?_, ?_⟩
   ·exact (PatSl.own (s := ⟨va, k, vc⟩) hv4).frame hf5 (fun q hq => hne q (Or.inl hq))
   ·exact ((PatSl.own (s := ⟨a2, k + 1, c2⟩) ho2).keep k24 (by omega)).frame hf5 (fun q hq => hne q (g1 q hq))
   ·exact ((PatSl.own (s := ⟨a3, k + 2, c3⟩) ho3).keep k34 (by omega)).frame hf5 (fun q hq => hne q (g2 q hq))
   ·exact (PatSl.own (s := ⟨a4, k + 3, c4⟩) ho4).frame hf5 (fun q hq => hne q (g3 q hq))
   ·intro q hq
    have z5 := hf5.size
    rcases hq with hq | hq | hq | hq
    ·have := (hv4.lt q hq).2; omega
    ·have := (ho2.lt q hq).2; omega
    ·have := (ho3.lt q hq).2; omega
    ·have := (ho4.lt q hq).2; omega
   ·exact Frame.inside hfw hf5 (fun q hlt' e => by omega)
   ·intro q hq
    rcases hq with hq | hq | hq | hq
    ·exact Or.inl hq
    ·exact g1 q hq
    ·exact g2 q hq
    ·exact g3 q hq
end Go.Proofs.YtekegfbjbainhaaGreat


namespace Go.Proofs.YtekegfbjbainhaaGreat
open Go.RowKit
def bksF : Nat → List BkR → List Value
 | _, [] => []
 | i, r :: rs => bkC r i ++ bksF (i + 1) rs
theorem bksF_length : ∀ (i : Nat) (rs : List BkR), (bksF i rs).length = rs.length * 5
 | _, [] => rfl
 | i, r :: rs => by simp [bksF, bksF_length (i + 1) rs, bkC]; omega
theorem bksF_snoc : ∀ (i : Nat) (rs : List BkR) (r : BkR), bksF i (rs ++ [r]) = bksF i rs ++ bkC r (i + rs.length)
 | i, [], r => by simp [bksF]
 | i, x :: rs, r => by
  have := bksF_snoc (i + 1) rs r
  simp only [List.cons_append, bksF, this, List.append_assoc, List.length_cons]
  rw [show i + 1 + rs.length = i + (rs.length + 1) by omega]
theorem bksF_get : ∀ (i : Nat) (rs : List BkR) (k : Nat) (h : k < rs.length) (j : Nat), j < 5 → (bksF i rs)[k * 5 + j]? = (bkC rs[k] (i + k))[j]?
 | i, [], k, h, j, hj => absurd h (Nat.not_lt_zero _)
 | i, r :: rs, 0, h, j, hj => by
  simp only [bksF, Nat.zero_mul, Nat.zero_add, Nat.add_zero, List.getElem_cons_zero]
  rw [List.getElem?_append_left (by simpa [bkC] using hj)]
 | i, r :: rs, k + 1, h, j, hj => by
  have := bksF_get (i + 1) rs k (by simpa using h) j hj
  simp only [bksF, List.getElem_cons_succ]
  rw [List.getElem?_append_right (by simp [bkC]; omega)]
  rw [show (k + 1) * 5 + j - (bkC r i).length = k * 5 + j by simp [bkC]; omega, this, show i + 1 + k = i + (k + 1) by omega]
theorem Tryz.infoBytes : (Tryz.prog.info? 60).map (fun i => (i.zero, i.size, i.bytes)) = some (some (.agg #[.slice none 0 0, .slice none 0 0, .slice none 0 0, .slice none 0 0, .int .i64 0]), 5, 104) := by kernel_rfl
structure BkAt (w : World) (bs : SlR) (rs : List BkR) : Prop where
 own : w.ownsRow 0 60 5 bs.val rs.length (bksF 0 rs)
 ok : ∀ i (h : i < rs.length), BkOk w (patB i) 1 rs[i]
 apart : ∀ r ∈ rs, ∀ k, bkF r k → bs.val.ownBlock ≠ some k
def bookF (bs : SlR) (rs : List BkR) (k : Nat) : Prop := bs.val.ownBlock = some k ∨ ∃ r ∈ rs, bkF r k
theorem BkAt.frame {w w' : World} {S : Nat → Prop} {bs : SlR} {rs : List BkR} (h : BkAt w bs rs) (hf : Frame S w w') (hS : ∀ k, bookF bs rs k → ¬ S k) : BkAt w' bs rs :=
 ⟨owns_frame h.own hf (fun k hk => hS k (Or.inl hk)), fun i hi => (h.ok i hi).frame hf (fun k hk => hS k (Or.inr ⟨rs[i], List.getElem_mem hi, hk⟩)), h.apart⟩
theorem BkAt.below {w w' : World} {bs : SlR} {rs : List BkR} (h : BkAt w bs rs) (hb : Below w.heap.size w w') : BkAt w' bs rs := h.frame (Frame.of_below_all (S := fun _ => False) hb) (fun _ _ e => e)
theorem BkAt.lt {w : World} {bs : SlR} {rs : List BkR} (h : BkAt w bs rs) : ∀ k, bookF bs rs k → k < w.heap.size := fun k hk => by
 rcases hk with hk | ⟨r, hr, hk⟩
 ·exact (h.own.lt k hk).2
 ·obtain ⟨i, hi, rfl⟩ := List.getElem_of_mem hr
  exact (h.ok i hi).lt k hk
theorem BkAt.nil (w : World) : BkAt w ⟨none, 0, 0⟩ [] := ⟨World.ownsRow_nil _ _ _ _, fun i h => absurd h (Nat.not_lt_zero _), fun r hr => (by cases hr)⟩
theorem book_fin {w W2 w2 : World} {wb : Nat} {ps bs ds es : SlR} {v : Value} {rs : List BkR} {r : BkR} {a2 : Option Addr} {n2 c2 : Nat} (HB : BkAt w bs rs) (HB2 : BkAt W2 bs rs) (hW3 : RowV w2 wb 34 [ps.val, bs.val, ds.val, es.val]) (HR2 : BkOk W2 (patB rs.length) 1 r) (HFR : Frame (fun k => v.ownBlock = some k) w W2)
  (HNW : ∀ k, bkF r k → ¬ bs.val.ownBlock = some k ∧ k ≠ wb) (HG : ∀ k, bkF r k → v.ownBlock = some k ∨ w.heap.size < k) (hbw : ∀ k, bookF bs rs k → k ≠ wb) (ho2 : w2.ownsRow 0 60 5 (.slice a2 n2 c2) (rs.length + 1) (bksF 0 rs ++ bkC r rs.length)) (hf2 : Frame (fun k => bs.val.ownBlock = some k) W2 w2)
  (hat2 : (Value.slice a2 n2 c2).ownBlock = bs.val.ownBlock ∨ (Value.slice a2 n2 c2).ownBlock = some W2.heap.size) :
  RowV (w2.setCell ⟨wb, 1, none⟩ (.slice a2 n2 c2)) wb 34 [ps.val, .slice a2 n2 c2, ds.val, es.val] ∧ BkAt (w2.setCell ⟨wb, 1, none⟩ (.slice a2 n2 c2)) ⟨a2, n2, c2⟩ (rs ++ [r]) ∧ Frame (fun k => k = wb ∨ v.ownBlock = some k ∨ bs.val.ownBlock = some k) w (w2.setCell ⟨wb, 1, none⟩ (.slice a2 n2 c2)) ∧
   (∀ k, bookF ⟨a2, n2, c2⟩ (rs ++ [r]) k → k < w.heap.size → bookF bs rs k ∨ v.ownBlock = some k) := by
 have hfs : Frame (fun k => k = wb) w2 (w2.setCell ⟨wb, 1, none⟩ (.slice a2 n2 c2)) := (Frame.refl (fun k => k = wb) _).setCell (p := ⟨wb, 1, none⟩) rfl _
 have hz2 := hf2.size
 have hz0 := HFR.size
 have hbl : ∀ k, (Value.slice a2 n2 c2).ownBlock = some k → bs.val.ownBlock = some k ∨ W2.heap.size ≤ k := fun k hk => by
  rcases hat2 with e | e
  ·exact Or.inl (by rw [← e]; exact hk)
  ·rw [e] at hk; have := Option.some.inj hk; exact Or.inr (by omega)
 have hnb : ∀ k, bkF r k → (Value.slice a2 n2 c2).ownBlock ≠ some k := fun k hk e => by
  rcases hbl k e with h | h
  ·exact (HNW k hk).1 h
  ·have := HR2.lt k hk; omega
 have hob : ∀ x ∈ rs, ∀ k, bkF x k → (Value.slice a2 n2 c2).ownBlock ≠ some k := fun x hx k hk e => by
  rcases hbl k e with h | h
  ·exact HB.apart x hx k hk h
  ·have := HB2.lt k (Or.inr ⟨x, hx, hk⟩); omega
 have hr3 : BkOk (w2.setCell ⟨wb, 1, none⟩ (.slice a2 n2 c2)) (patB rs.length) 1 r := (HR2.frame hf2 (fun k hk => (HNW k hk).1)).frame hfs (fun k hk => (HNW k hk).2)
 have ho3 : ∀ i (h : i < rs.length), BkOk (w2.setCell ⟨wb, 1, none⟩ (.slice a2 n2 c2)) (patB i) 1 rs[i] := fun i h => ((HB2.ok i h).frame hf2 (fun k hk e => HB.apart _ (List.getElem_mem h) k hk e)).frame hfs (fun k hk e => hbw k (Or.inr ⟨_, List.getElem_mem h, hk⟩) e)
 refine ⟨by simpa using hW3.set 1 (.slice a2 n2 c2), ⟨?_, ?_, ?_⟩, ?_, ?_⟩
 ·rw [List.length_append, List.length_singleton, bksF_snoc, Nat.zero_add]
  exact owns_frame ho2 hfs (fun k hk e => owns_ne ho2 hW3 (by decide) (by rw [← e]; exact hk))
 ·intro i hi
  by_cases hlt : i < rs.length
  ·rw [List.getElem_append_left hlt]; exact ho3 i hlt
  ·have : i = rs.length := by simp at hi; omega
   subst this
   rw [List.getElem_append_right (Nat.le_refl _)]
   simpa using hr3
 ·intro x hx k hk
  rcases List.mem_append.1 hx with hx | hx
  ·exact hob x hx k hk
  ·simp only [List.mem_singleton] at hx; subst hx; exact hnb k hk
 ·refine Frame.inside (Frame.inside (HFR.mono (fun k _ hk => Or.inr (Or.inl hk))) hf2 (fun k _ hk => Or.inr (Or.inr hk))) hfs (fun k _ hk => Or.inl hk)
 ·intro k hk hlt
  rcases hk with hk | ⟨x, hx, hk⟩
  ·rcases hbl k hk with h | h
   ·exact Or.inl (Or.inl h)
   ·omega
  ·rcases List.mem_append.1 hx with hx | hx
   ·exact Or.inl (Or.inr ⟨x, hx, hk⟩)
   ·simp only [List.mem_singleton] at hx; subst hx
    rcases HG k hk with h | h
    ·exact Or.inr h
    ·omega
attribute [local go_sem ↓] Go.wp_at_zero Go.wp_at_succ
set_option maxRecDepth 100000 in
set_option maxHeartbeats 4000000 in
theorem book_byte (wb : Nat) (ps bs ds es v : SlR) (rs : List BkR) (L : List UInt8) (base : Nat) (w : World) (hW : RowV w wb 34 [ps.val, bs.val, ds.val, es.val]) (hB : BkAt w bs rs) (ho : OwnB w base v.val L) (hL : L.length ≤ 100000000000000) (hn : rs.length ≤ 1200000000000) (hb : base ≤ w.heap.size)
  (hvw : ∀ k, v.val.ownBlock = some k → k ≠ wb ∧ ¬ bookF bs rs k) (hbw : ∀ k, bookF bs rs k → k ≠ wb) :
  Calls Tryz.prog 18 #[.pointer (some ⟨wb, 1, none⟩), v.val] w fun e w' => e = .returned (.tuple #[]) ∧ ∃ (bs' : SlR) (r : BkR), RowV w' wb 34 [ps.val, bs'.val, ds.val, es.val] ∧ BkAt w' bs' (rs ++ [r]) ∧ Frame (fun k => k = wb ∨ v.val.ownBlock = some k ∨ bs.val.ownBlock = some k) w w' ∧ (∀ k, bookF bs' (rs ++ [r]) k → k < w.heap.size → bookF bs rs k ∨ v.val.ownBlock = some k) := by
 have hn' := (owns_cap (a := bs.a) (n' := bs.n) (cap := bs.cap) hB.own).1
 have HOB : Hid (Calls _ _ _ _ _) := ownBytes_any v L base rs.length w ho hL (by omega) hb
 have c1 : w.cell? ⟨wb, 1, none⟩ = some (.slice bs.a bs.n bs.cap) := hW.cell 1 (by simp)
 have hnI : (bs.n : Int) ≤ 1200000000000 := by rw [hn']; omega
 have HE : Hid ((rs.length : Int) = (bs.n : Int)) := by unfold Hid; rw [hn']
 rw [HE.out] at HOB
 have HWL : Hid (wb < w.heap.size) := hW.lt
 have HB : Hid (BkAt w bs rs) := hB
 have HW : Hid (RowV w wb 34 [ps.val, bs.val, ds.val, es.val]) := hW
 have HVW : Hid (∀ k, v.val.ownBlock = some k → k ≠ wb ∧ ¬ bookF bs rs k) := hvw
 have HBWB : Hid (∀ k, bookF bs rs k → k ≠ wb) := hbw
 clear hn' hW hB ho hb hL hvw hbw
 unfold SlR.val at HOB ⊢
 go_enter Tryz.func18, Tryz.ntmps18
 go_wp2_with fail
 refine HOB.out.mono ?_
 rintro e w1 ⟨r, rfl, hr1, hf1, hg1⟩
 have HVB : Hid (∀ k, bookF bs rs k → ¬ (Value.slice v.a v.n v.cap).ownBlock = some k) := fun k hk e => (HVW.out k e).2 hk
 have hB1 : BkAt w1 bs rs := HB.out.frame hf1 HVB.out
 have hW1 : RowV w1 wb 34 [ps.val, bs.val, ds.val, es.val] := HW.out.of_block (hf1.block _ HW.out.lt (fun e => (HVW.out _ e).1 rfl))
 have hbx : Below w1.heap.size w1 ((w1.alloc (.cells #[.slice r.l.a r.l.n r.l.cap, .slice r.one.a r.one.n r.one.cap, .slice r.two.a r.two.n r.two.cap, .slice r.three.a r.three.n r.three.cap, .int .i64 (rs.length : Int)] 60)).alloc (.cells #[.slice r.l.a r.l.n r.l.cap, .slice r.one.a r.one.n r.one.cap, .slice r.two.a r.two.n r.two.cap, .slice r.three.a r.three.n r.three.cap, .int .i64 (rs.length : Int)] 60)).drew := by
  have hz : Below w1.heap.size w1 ((w1.alloc (.cells #[.slice r.l.a r.l.n r.l.cap, .slice r.one.a r.one.n r.one.cap, .slice r.two.a r.two.n r.two.cap, .slice r.three.a r.three.n r.three.cap, .int .i64 (rs.length : Int)] 60)).alloc (.cells #[.slice r.l.a r.l.n r.l.cap, .slice r.one.a r.one.n r.one.cap, .slice r.two.a r.two.n r.two.cap, .slice r.three.a r.three.n r.three.cap, .int .i64 (rs.length : Int)] 60)) := ((Below.refl _ _).alloc (Nat.le_refl _) _).alloc (by simp) _
  exact ⟨hz.os, hz.tape, hz.output, hz.size, hz.block⟩
 have hB2 := hB1.below hbx
 have hW2 := hW1.below hW1.lt hbx
 have hr2 := hr1.below hbx
 have hR0 : RowV (w1.alloc (.cells #[.slice r.l.a r.l.n r.l.cap, .slice r.one.a r.one.n r.one.cap, .slice r.two.a r.two.n r.two.cap, .slice r.three.a r.three.n r.three.cap, .int .i64 (rs.length : Int)] 60)) w1.heap.size 60 [.slice r.l.a r.l.n r.l.cap, .slice r.one.a r.one.n r.one.cap, .slice r.two.a r.two.n r.two.cap, .slice r.three.a r.three.n r.three.cap, .int .i64 (rs.length : Int)] := RowV.new w1 _ _
 have x0 : (w1.alloc (.cells #[.slice r.l.a r.l.n r.l.cap, .slice r.one.a r.one.n r.one.cap, .slice r.two.a r.two.n r.two.cap, .slice r.three.a r.three.n r.three.cap, .int .i64 (rs.length : Int)] 60)).cell? ⟨w1.heap.size, 0, none⟩ = some (.slice r.l.a r.l.n r.l.cap) := hR0.cell 0 (by simp)
 have x1 : (w1.alloc (.cells #[.slice r.l.a r.l.n r.l.cap, .slice r.one.a r.one.n r.one.cap, .slice r.two.a r.two.n r.two.cap, .slice r.three.a r.three.n r.three.cap, .int .i64 (rs.length : Int)] 60)).cell? ⟨w1.heap.size, 1, none⟩ = some (.slice r.one.a r.one.n r.one.cap) := hR0.cell 1 (by simp)
 have x2 : (w1.alloc (.cells #[.slice r.l.a r.l.n r.l.cap, .slice r.one.a r.one.n r.one.cap, .slice r.two.a r.two.n r.two.cap, .slice r.three.a r.three.n r.three.cap, .int .i64 (rs.length : Int)] 60)).cell? ⟨w1.heap.size, 2, none⟩ = some (.slice r.two.a r.two.n r.two.cap) := hR0.cell 2 (by simp)
 have x3 : (w1.alloc (.cells #[.slice r.l.a r.l.n r.l.cap, .slice r.one.a r.one.n r.one.cap, .slice r.two.a r.two.n r.two.cap, .slice r.three.a r.three.n r.three.cap, .int .i64 (rs.length : Int)] 60)).cell? ⟨w1.heap.size, 3, none⟩ = some (.slice r.three.a r.three.n r.three.cap) := hR0.cell 3 (by simp)
 have x4 : (w1.alloc (.cells #[.slice r.l.a r.l.n r.l.cap, .slice r.one.a r.one.n r.one.cap, .slice r.two.a r.two.n r.two.cap, .slice r.three.a r.three.n r.three.cap, .int .i64 (rs.length : Int)] 60)).cell? ⟨w1.heap.size, 4, none⟩ = some (.int .i64 (rs.length : Int)) := hR0.cell 4 (by simp)
 have y1 : (w1.alloc (.cells #[.slice r.l.a r.l.n r.l.cap, .slice r.one.a r.one.n r.one.cap, .slice r.two.a r.two.n r.two.cap, .slice r.three.a r.three.n r.three.cap, .int .i64 (rs.length : Int)] 60)).cell? ⟨wb, 1, none⟩ = some (.slice bs.a bs.n bs.cap) := (hW1.alloc _).cell 1 (by simp)
 have y2 : ((w1.alloc (.cells #[.slice r.l.a r.l.n r.l.cap, .slice r.one.a r.one.n r.one.cap, .slice r.two.a r.two.n r.two.cap, .slice r.three.a r.three.n r.three.cap, .int .i64 (rs.length : Int)] 60)).alloc (.cells #[.slice r.l.a r.l.n r.l.cap, .slice r.one.a r.one.n r.one.cap, .slice r.two.a r.two.n r.two.cap, .slice r.three.a r.three.n r.three.cap, .int .i64 (rs.length : Int)] 60)).cell? ⟨wb, 1, none⟩ = some (.slice bs.a bs.n bs.cap) := ((hW1.alloc _).alloc _).cell 1 (by simp)
 have hR1 := hR0.alloc (.cells #[.slice r.l.a r.l.n r.l.cap, .slice r.one.a r.one.n r.one.cap, .slice r.two.a r.two.n r.two.cap, .slice r.three.a r.three.n r.three.cap, .int .i64 (rs.length : Int)] 60)
 have HOX : Hid (World.ownsRow ((w1.alloc (.cells #[.slice r.l.a r.l.n r.l.cap, .slice r.one.a r.one.n r.one.cap, .slice r.two.a r.two.n r.two.cap, .slice r.three.a r.three.n r.three.cap, .int .i64 (rs.length : Int)] 60)).alloc (.cells #[.slice r.l.a r.l.n r.l.cap, .slice r.one.a r.one.n r.one.cap, .slice r.two.a r.two.n r.two.cap, .slice r.three.a r.three.n r.three.cap, .int .i64 (rs.length : Int)] 60)).drew 0 60 5 (.slice bs.a bs.n bs.cap) rs.length (bksF 0 rs)) := hB2.own
 have HSX : Hid (SlV ((w1.alloc (.cells #[.slice r.l.a r.l.n r.l.cap, .slice r.one.a r.one.n r.one.cap, .slice r.two.a r.two.n r.two.cap, .slice r.three.a r.three.n r.three.cap, .int .i64 (rs.length : Int)] 60)).alloc (.cells #[.slice r.l.a r.l.n r.l.cap, .slice r.one.a r.one.n r.one.cap, .slice r.two.a r.two.n r.two.cap, .slice r.three.a r.three.n r.three.cap, .int .i64 (rs.length : Int)] 60)).drew (some ⟨w1.heap.size + 1, 0, none⟩) (bkC r rs.length)) := by
  have := SlV.alloc_new (w1.alloc (.cells #[.slice r.l.a r.l.n r.l.cap, .slice r.one.a r.one.n r.one.cap, .slice r.two.a r.two.n r.two.cap, .slice r.three.a r.three.n r.three.cap, .int .i64 (rs.length : Int)] 60)) (bkC r rs.length) 60
  simp only [World.size_alloc] at this
  exact this
 have H1 : Hid (∀ u ∈ bkC r rs.length, u.oneCell' = true) := fun u hu => bk_one hu
 have HB2 : Hid (BkAt ((w1.alloc (.cells #[.slice r.l.a r.l.n r.l.cap, .slice r.one.a r.one.n r.one.cap, .slice r.two.a r.two.n r.two.cap, .slice r.three.a r.three.n r.three.cap, .int .i64 (rs.length : Int)] 60)).alloc (.cells #[.slice r.l.a r.l.n r.l.cap, .slice r.one.a r.one.n r.one.cap, .slice r.two.a r.two.n r.two.cap, .slice r.three.a r.three.n r.three.cap, .int .i64 (rs.length : Int)] 60)).drew bs rs) := hB2
 have HW2 : Hid (RowV ((w1.alloc (.cells #[.slice r.l.a r.l.n r.l.cap, .slice r.one.a r.one.n r.one.cap, .slice r.two.a r.two.n r.two.cap, .slice r.three.a r.three.n r.three.cap, .int .i64 (rs.length : Int)] 60)).alloc (.cells #[.slice r.l.a r.l.n r.l.cap, .slice r.one.a r.one.n r.one.cap, .slice r.two.a r.two.n r.two.cap, .slice r.three.a r.three.n r.three.cap, .int .i64 (rs.length : Int)] 60)).drew wb 34 [ps.val, bs.val, ds.val, es.val]) := hW2
 have HR2 : Hid (BkOk ((w1.alloc (.cells #[.slice r.l.a r.l.n r.l.cap, .slice r.one.a r.one.n r.one.cap, .slice r.two.a r.two.n r.two.cap, .slice r.three.a r.three.n r.three.cap, .int .i64 (rs.length : Int)] 60)).alloc (.cells #[.slice r.l.a r.l.n r.l.cap, .slice r.one.a r.one.n r.one.cap, .slice r.two.a r.two.n r.two.cap, .slice r.three.a r.three.n r.three.cap, .int .i64 (rs.length : Int)] 60)).drew (patB rs.length) 1 r) := hr2
 have HR1 : Hid (RowV ((w1.alloc (.cells #[.slice r.l.a r.l.n r.l.cap, .slice r.one.a r.one.n r.one.cap, .slice r.two.a r.two.n r.two.cap, .slice r.three.a r.three.n r.three.cap, .int .i64 (rs.length : Int)] 60)).alloc (.cells #[.slice r.l.a r.l.n r.l.cap, .slice r.one.a r.one.n r.one.cap, .slice r.two.a r.two.n r.two.cap, .slice r.three.a r.three.n r.three.cap, .int .i64 (rs.length : Int)] 60)) w1.heap.size 60 [.slice r.l.a r.l.n r.l.cap, .slice r.one.a r.one.n r.one.cap, .slice r.two.a r.two.n r.two.cap, .slice r.three.a r.three.n r.three.cap, .int .i64 (rs.length : Int)]) := hR1
 have HG1 : Hid (∀ k, bkF r k → (Value.slice v.a v.n v.cap).ownBlock = some k ∨ w.heap.size < k) := hg1
 have HFR : Hid (Frame (fun k => (Value.slice v.a v.n v.cap).ownBlock = some k) w ((w1.alloc (.cells #[.slice r.l.a r.l.n r.l.cap, .slice r.one.a r.one.n r.one.cap, .slice r.two.a r.two.n r.two.cap, .slice r.three.a r.three.n r.three.cap, .int .i64 (rs.length : Int)] 60)).alloc (.cells #[.slice r.l.a r.l.n r.l.cap, .slice r.one.a r.one.n r.one.cap, .slice r.two.a r.two.n r.two.cap, .slice r.three.a r.three.n r.three.cap, .int .i64 (rs.length : Int)] 60)).drew) := hf1.trans (Frame.of_below_all hbx)
 have HNW : Hid (∀ k, bkF r k → ¬ bs.val.ownBlock = some k ∧ k ≠ wb) := fun k hk => by
  rcases hg1 k hk with h | h
  ·exact ⟨fun e => (HVW.out k h).2 (Or.inl e), (HVW.out k h).1⟩
  ·exact ⟨fun e => by have := HB.out.lt k (Or.inl e); omega, by have := HWL.out; omega⟩
 have hwb1 : wb < w1.heap.size := hW1.lt
 have hne1 : wb ≠ w1.heap.size := by omega
 have HN12 : Hid (rs.length ≤ 1200000000000) := hn
 clear hB1 hW1 hbx hB2 hW2 hr2 hR0 hR1 hf1 hg1 hr1 hn
 unfold bkC
 unfold SlR.val
 go_wp2
 go_region_law ((refine step_appendV (by rfl) (.tmp 16) (.tmp 18) 28 (by rfl) 0 60 _ 5 104 Tryz.underlying28 Tryz.infoBytes rfl (by decide) (.slice bs.a bs.n bs.cap) rs.length (bksF 0 rs) (by rfl) HOX.out ⟨w1.heap.size + 1, 0, none⟩ 1 1 (bkC r rs.length) (by rfl) rfl HSX.out H1.out (by have := HN12.out; unfold maxLen; omega) (by have := HN12.out; omega) (Nat.zero_le _) ?_; intro a2 n2 c2 w2 ho2 hf2 hat2; have hW3 := RowV.of_block HW2.out (hf2.block _ HW2.out.lt (fun e => owns_ne HOX.out HW2.out (by decide) e)); have z1 : w2.cell? ⟨wb, 1, none⟩ = some (.slice bs.a bs.n bs.cap) := RowV.cell hW3 1 (by simp); have z2 : w2.frozen? ⟨wb, 1, none⟩ = false := RowV.frozen hW3 1))
 all_goals
  go_wp2
  go_returns
  obtain ⟨q1, q2, q3, q4⟩ := book_fin (v := .slice v.a v.n v.cap) HB.out HB2.out hW3 HR2.out HFR.out HNW.out HG1.out HBWB.out ho2 hf2 hat2
  exact ⟨rfl, ⟨a2, n2, c2⟩, r, q1, q2, q3, q4⟩
end Go.Proofs.YtekegfbjbainhaaGreat
