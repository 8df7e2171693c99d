
import Derived.Test.YtekegfbjbainhaaKJoin5
set_option linter.unusedVariables false
set_option linter.unusedSimpArgs false
namespace Go.Proofs.Ytekegfbjbainhaa
open Go.RowKit
attribute [local go_sem ↓] Go.wp_at_zero Go.wp_at_succ
set_option maxRecDepth 100000 in
set_option maxHeartbeats 1600000 in
theorem sums_own (l m p q : Nat) (sum : List UInt8) (a : Option Addr) (cap : Nat) (w : World) (hr : sum.length = 8) (hl : l ≤ 9223372036854775807) (hp : p < w.heap.size) (hs : w.rangeAt p q (sum.map u8c)) :
  Calls Try.prog 70 #[.int .i64 (m : Int), .int .i64 (m : Int), .pointer (some ⟨p, q, none⟩), .slice a l cap] w fun r w' => r = .returned (.tuple #[dV sum, dV sum, .bool ((l : Int) == 0)]) ∧ Below w.heap.size w w' := by
 obtain ⟨x0, x1, x2, x3, x4, x5, x6, x7, rfl⟩ := list8 sum hr
 have hlI : (l : Int) ≤ 9223372036854775807 := by omega
 have hB0 : Below w.heap.size w ((w.alloc (.cells #[Value.int .u8 0, Value.int .u8 0, Value.int .u8 0, Value.int .u8 0, Value.int .u8 0, Value.int .u8 0, Value.int .u8 0, Value.int .u8 0] 45)).alloc (.cells #[Value.int .u8 0, Value.int .u8 0, Value.int .u8 0, Value.int .u8 0, Value.int .u8 0, Value.int .u8 0, Value.int .u8 0, Value.int .u8 0] 45)) := ((Below.refl _ _).alloc (Nat.le_refl _) _).alloc (by simp) _
 have q0 : ((w.alloc (.cells #[Value.int .u8 0, Value.int .u8 0, Value.int .u8 0, Value.int .u8 0, Value.int .u8 0, Value.int .u8 0, Value.int .u8 0, Value.int .u8 0] 45)).alloc (.cells #[Value.int .u8 0, Value.int .u8 0, Value.int .u8 0, Value.int .u8 0, Value.int .u8 0, Value.int .u8 0, Value.int .u8 0, Value.int .u8 0] 45)).cell? ⟨p, q, none⟩ = some (.int .u8 (x0.toNat : Int)) := by rw [hB0.cell (p := ⟨p, q, none⟩) hp]; exact hs 0 _ rfl
 have k0 : ∀ z0 z1 z2 z3 z4 z5 z6 z7 : Value, ((w.alloc (.cells #[z0, z1, z2, z3, z4, z5, z6, z7] 45)).alloc (.cells #[Value.int .u8 0, Value.int .u8 0, Value.int .u8 0, Value.int .u8 0, Value.int .u8 0, Value.int .u8 0, Value.int .u8 0, Value.int .u8 0] 45)).cell? ⟨p, q, none⟩ = some (.int .u8 (x0.toNat : Int)) := fun z0 z1 z2 z3 z4 z5 z6 z7 => by rw [Below.cell (B := w.heap.size) (((Below.refl _ _).alloc (Nat.le_refl _) _).alloc (by simp) _) (p := ⟨p, q, none⟩) hp]; exact hs 0 _ rfl
 have q1 : ((w.alloc (.cells #[Value.int .u8 0, Value.int .u8 0, Value.int .u8 0, Value.int .u8 0, Value.int .u8 0, Value.int .u8 0, Value.int .u8 0, Value.int .u8 0] 45)).alloc (.cells #[Value.int .u8 0, Value.int .u8 0, Value.int .u8 0, Value.int .u8 0, Value.int .u8 0, Value.int .u8 0, Value.int .u8 0, Value.int .u8 0] 45)).cell? ⟨p, q + 1, none⟩ = some (.int .u8 (x1.toNat : Int)) := by rw [hB0.cell (p := ⟨p, q + 1, none⟩) hp]; exact hs 1 _ rfl
 have k1 : ∀ z0 z1 z2 z3 z4 z5 z6 z7 : Value, ((w.alloc (.cells #[z0, z1, z2, z3, z4, z5, z6, z7] 45)).alloc (.cells #[Value.int .u8 0, Value.int .u8 0, Value.int .u8 0, Value.int .u8 0, Value.int .u8 0, Value.int .u8 0, Value.int .u8 0, Value.int .u8 0] 45)).cell? ⟨p, q + 1, none⟩ = some (.int .u8 (x1.toNat : Int)) := fun z0 z1 z2 z3 z4 z5 z6 z7 => by rw [Below.cell (B := w.heap.size) (((Below.refl _ _).alloc (Nat.le_refl _) _).alloc (by simp) _) (p := ⟨p, q + 1, none⟩) hp]; exact hs 1 _ rfl
 have q2 : ((w.alloc (.cells #[Value.int .u8 0, Value.int .u8 0, Value.int .u8 0, Value.int .u8 0, Value.int .u8 0, Value.int .u8 0, Value.int .u8 0, Value.int .u8 0] 45)).alloc (.cells #[Value.int .u8 0, Value.int .u8 0, Value.int .u8 0, Value.int .u8 0, Value.int .u8 0, Value.int .u8 0, Value.int .u8 0, Value.int .u8 0] 45)).cell? ⟨p, q + 2, none⟩ = some (.int .u8 (x2.toNat : Int)) := by rw [hB0.cell (p := ⟨p, q + 2, none⟩) hp]; exact hs 2 _ rfl
 have k2 : ∀ z0 z1 z2 z3 z4 z5 z6 z7 : Value, ((w.alloc (.cells #[z0, z1, z2, z3, z4, z5, z6, z7] 45)).alloc (.cells #[Value.int .u8 0, Value.int .u8 0, Value.int .u8 0, Value.int .u8 0, Value.int .u8 0, Value.int .u8 0, Value.int .u8 0, Value.int .u8 0] 45)).cell? ⟨p, q + 2, none⟩ = some (.int .u8 (x2.toNat : Int)) := fun z0 z1 z2 z3 z4 z5 z6 z7 => by rw [Below.cell (B := w.heap.size) (((Below.refl _ _).alloc (Nat.le_refl _) _).alloc (by simp) _) (p := ⟨p, q + 2, none⟩) hp]; exact hs 2 _ rfl
 have q3 : ((w.alloc (.cells #[Value.int .u8 0, Value.int .u8 0, Value.int .u8 0, Value.int .u8 0, Value.int .u8 0, Value.int .u8 0, Value.int .u8 0, Value.int .u8 0] 45)).alloc (.cells #[Value.int .u8 0, Value.int .u8 0, Value.int .u8 0, Value.int .u8 0, Value.int .u8 0, Value.int .u8 0, Value.int .u8 0, Value.int .u8 0] 45)).cell? ⟨p, q + 3, none⟩ = some (.int .u8 (x3.toNat : Int)) := by rw [hB0.cell (p := ⟨p, q + 3, none⟩) hp]; exact hs 3 _ rfl
 have k3 : ∀ z0 z1 z2 z3 z4 z5 z6 z7 : Value, ((w.alloc (.cells #[z0, z1, z2, z3, z4, z5, z6, z7] 45)).alloc (.cells #[Value.int .u8 0, Value.int .u8 0, Value.int .u8 0, Value.int .u8 0, Value.int .u8 0, Value.int .u8 0, Value.int .u8 0, Value.int .u8 0] 45)).cell? ⟨p, q + 3, none⟩ = some (.int .u8 (x3.toNat : Int)) := fun z0 z1 z2 z3 z4 z5 z6 z7 => by rw [Below.cell (B := w.heap.size) (((Below.refl _ _).alloc (Nat.le_refl _) _).alloc (by simp) _) (p := ⟨p, q + 3, none⟩) hp]; exact hs 3 _ rfl
 have q4 : ((w.alloc (.cells #[Value.int .u8 0, Value.int .u8 0, Value.int .u8 0, Value.int .u8 0, Value.int .u8 0, Value.int .u8 0, Value.int .u8 0, Value.int .u8 0] 45)).alloc (.cells #[Value.int .u8 0, Value.int .u8 0, Value.int .u8 0, Value.int .u8 0, Value.int .u8 0, Value.int .u8 0, Value.int .u8 0, Value.int .u8 0] 45)).cell? ⟨p, q + 4, none⟩ = some (.int .u8 (x4.toNat : Int)) := by rw [hB0.cell (p := ⟨p, q + 4, none⟩) hp]; exact hs 4 _ rfl
 have k4 : ∀ z0 z1 z2 z3 z4 z5 z6 z7 : Value, ((w.alloc (.cells #[z0, z1, z2, z3, z4, z5, z6, z7] 45)).alloc (.cells #[Value.int .u8 0, Value.int .u8 0, Value.int .u8 0, Value.int .u8 0, Value.int .u8 0, Value.int .u8 0, Value.int .u8 0, Value.int .u8 0] 45)).cell? ⟨p, q + 4, none⟩ = some (.int .u8 (x4.toNat : Int)) := fun z0 z1 z2 z3 z4 z5 z6 z7 => by rw [Below.cell (B := w.heap.size) (((Below.refl _ _).alloc (Nat.le_refl _) _).alloc (by simp) _) (p := ⟨p, q + 4, none⟩) hp]; exact hs 4 _ rfl
 have q5 : ((w.alloc (.cells #[Value.int .u8 0, Value.int .u8 0, Value.int .u8 0, Value.int .u8 0, Value.int .u8 0, Value.int .u8 0, Value.int .u8 0, Value.int .u8 0] 45)).alloc (.cells #[Value.int .u8 0, Value.int .u8 0, Value.int .u8 0, Value.int .u8 0, Value.int .u8 0, Value.int .u8 0, Value.int .u8 0, Value.int .u8 0] 45)).cell? ⟨p, q + 5, none⟩ = some (.int .u8 (x5.toNat : Int)) := by rw [hB0.cell (p := ⟨p, q + 5, none⟩) hp]; exact hs 5 _ rfl
 have k5 : ∀ z0 z1 z2 z3 z4 z5 z6 z7 : Value, ((w.alloc (.cells #[z0, z1, z2, z3, z4, z5, z6, z7] 45)).alloc (.cells #[Value.int .u8 0, Value.int .u8 0, Value.int .u8 0, Value.int .u8 0, Value.int .u8 0, Value.int .u8 0, Value.int .u8 0, Value.int .u8 0] 45)).cell? ⟨p, q + 5, none⟩ = some (.int .u8 (x5.toNat : Int)) := fun z0 z1 z2 z3 z4 z5 z6 z7 => by rw [Below.cell (B := w.heap.size) (((Below.refl _ _).alloc (Nat.le_refl _) _).alloc (by simp) _) (p := ⟨p, q + 5, none⟩) hp]; exact hs 5 _ rfl
 have q6 : ((w.alloc (.cells #[Value.int .u8 0, Value.int .u8 0, Value.int .u8 0, Value.int .u8 0, Value.int .u8 0, Value.int .u8 0, Value.int .u8 0, Value.int .u8 0] 45)).alloc (.cells #[Value.int .u8 0, Value.int .u8 0, Value.int .u8 0, Value.int .u8 0, Value.int .u8 0, Value.int .u8 0, Value.int .u8 0, Value.int .u8 0] 45)).cell? ⟨p, q + 6, none⟩ = some (.int .u8 (x6.toNat : Int)) := by rw [hB0.cell (p := ⟨p, q + 6, none⟩) hp]; exact hs 6 _ rfl
 have k6 : ∀ z0 z1 z2 z3 z4 z5 z6 z7 : Value, ((w.alloc (.cells #[z0, z1, z2, z3, z4, z5, z6, z7] 45)).alloc (.cells #[Value.int .u8 0, Value.int .u8 0, Value.int .u8 0, Value.int .u8 0, Value.int .u8 0, Value.int .u8 0, Value.int .u8 0, Value.int .u8 0] 45)).cell? ⟨p, q + 6, none⟩ = some (.int .u8 (x6.toNat : Int)) := fun z0 z1 z2 z3 z4 z5 z6 z7 => by rw [Below.cell (B := w.heap.size) (((Below.refl _ _).alloc (Nat.le_refl _) _).alloc (by simp) _) (p := ⟨p, q + 6, none⟩) hp]; exact hs 6 _ rfl
 have q7 : ((w.alloc (.cells #[Value.int .u8 0, Value.int .u8 0, Value.int .u8 0, Value.int .u8 0, Value.int .u8 0, Value.int .u8 0, Value.int .u8 0, Value.int .u8 0] 45)).alloc (.cells #[Value.int .u8 0, Value.int .u8 0, Value.int .u8 0, Value.int .u8 0, Value.int .u8 0, Value.int .u8 0, Value.int .u8 0, Value.int .u8 0] 45)).cell? ⟨p, q + 7, none⟩ = some (.int .u8 (x7.toNat : Int)) := by rw [hB0.cell (p := ⟨p, q + 7, none⟩) hp]; exact hs 7 _ rfl
 have k7 : ∀ z0 z1 z2 z3 z4 z5 z6 z7 : Value, ((w.alloc (.cells #[z0, z1, z2, z3, z4, z5, z6, z7] 45)).alloc (.cells #[Value.int .u8 0, Value.int .u8 0, Value.int .u8 0, Value.int .u8 0, Value.int .u8 0, Value.int .u8 0, Value.int .u8 0, Value.int .u8 0] 45)).cell? ⟨p, q + 7, none⟩ = some (.int .u8 (x7.toNat : Int)) := fun z0 z1 z2 z3 z4 z5 z6 z7 => by rw [Below.cell (B := w.heap.size) (((Below.refl _ _).alloc (Nat.le_refl _) _).alloc (by simp) _) (p := ⟨p, q + 7, none⟩) hp]; exact hs 7 _ rfl
 clear hs
 unfold dV u8c
 simp only [List.map_cons, List.map_nil]
 go_enter Try.func70, Try.ntmps70
 go_wp2
 go_region
 all_goals
  go_wp2
  refine ret_dig3 (k := 8) (k' := 9) (j := 10) (d := [x0, x1, x2, x3, x4, x5, x6, x7]) (d' := [x0, x1, x2, x3, x4, x5, x6, x7]) rfl rfl rfl ?_ rfl ?_ rfl rfl rfl ⟨rfl, ?_⟩
  ·exact ((RowV.new_at _ 45 w.heap.size ([x0, x1, x2, x3, x4, x5, x6, x7].map u8c) rfl).alloc _).of_block rfl
  ·exact (RowV.new_at _ 45 (w.heap.size + 1) ([x0, x1, x2, x3, x4, x5, x6, x7].map u8c) (by simp)).of_block rfl
  ·exact (((Below.refl _ _).alloc (Nat.le_refl _) _).alloc (by simp) _).drew
set_option maxRecDepth 100000 in
set_option maxHeartbeats 1600000 in
theorem sums_nil (n m : Nat) (po : Option Addr) (a : Option Addr) (cap : Nat) (w : World) (hn : ¬ (m = n ∧ po ≠ none)) :
  Calls Try.prog 70 #[.int .i64 (m : Int), .int .i64 (n : Int), .pointer po, .slice a 0 cap] w fun r w' => r = .returned (.tuple #[dV nulD, dV nulD, .bool false]) ∧ Below w.heap.size w w' := by
 by_cases hmn : m = n
 ·subst hmn
  obtain rfl : po = none := by cases po; rfl; exact absurd ⟨rfl, by simp⟩ hn
  clear hn
  go_enter Try.func70, Try.ntmps70
  go_wp2
  go_region
  all_goals
   go_wp2
   refine ret_dig3 (k := 8) (k' := 9) (j := 10) (d := nulD) (d' := nulD) rfl rfl rfl ?_ rfl ?_ rfl rfl rfl ⟨rfl, ?_⟩
   ·exact ((RowV.new_at _ 45 w.heap.size z8 rfl).alloc _).of_block rfl
   ·exact (RowV.new_at _ 45 (w.heap.size + 1) z8 (by simp)).of_block rfl
   ·exact (((Below.refl _ _).alloc (Nat.le_refl _) _).alloc (by simp) _).drew
 ·have hmi : ((m : Int) == (n : Int)) = false := by rw [Bool.eq_false_iff]; simp only [ne_eq, beq_iff_eq]; omega
  clear hn
  go_enter Try.func70, Try.ntmps70
  go_wp2
  go_region
  all_goals
   go_wp2
   refine ret_dig3 (k := 8) (k' := 9) (j := 10) (d := nulD) (d' := nulD) rfl rfl rfl ?_ rfl ?_ rfl rfl rfl ⟨rfl, ?_⟩
   ·exact ((RowV.new_at _ 45 w.heap.size z8 rfl).alloc _).of_block rfl
   ·exact (RowV.new_at _ 45 (w.heap.size + 1) z8 (by simp)).of_block rfl
   ·exact (((Below.refl _ _).alloc (Nat.le_refl _) _).alloc (by simp) _).drew
set_option maxRecDepth 100000 in
set_option maxHeartbeats 1600000 in
theorem sums_eq (l m b o : Nat) (x : List UInt8) (cap : Nat) (w : World) (hx : x.length = 8) (hb : b < w.heap.size) (hl : l + 1 ≤ cap) (hc : cap ≤ 9223372036854775807) (hlast : w.rangeAt b (o + l * 8) (x.map u8c)) :
  Calls Try.prog 70 #[.int .i64 (m : Int), .int .i64 (m : Int), .pointer none, .slice (some ⟨b, o, none⟩) (l + 1) cap] w fun r w' => r = .returned (.tuple #[dV x, dV x, .bool ((l : Int) == 0)]) ∧ Below w.heap.size w w' := by
 obtain ⟨x0, x1, x2, x3, x4, x5, x6, x7, rfl⟩ := list8 x hx
 have hB0 : Below w.heap.size w ((w.alloc (.cells #[Value.int .u8 0, Value.int .u8 0, Value.int .u8 0, Value.int .u8 0, Value.int .u8 0, Value.int .u8 0, Value.int .u8 0, Value.int .u8 0] 45)).alloc (.cells #[Value.int .u8 0, Value.int .u8 0, Value.int .u8 0, Value.int .u8 0, Value.int .u8 0, Value.int .u8 0, Value.int .u8 0, Value.int .u8 0] 45)) := ((Below.refl _ _).alloc (Nat.le_refl _) _).alloc (by simp) _
 have hB1 : Below w.heap.size w (((w.alloc (.cells #[Value.int .u8 0, Value.int .u8 0, Value.int .u8 0, Value.int .u8 0, Value.int .u8 0, Value.int .u8 0, Value.int .u8 0, Value.int .u8 0] 45)).alloc (.cells #[Value.int .u8 0, Value.int .u8 0, Value.int .u8 0, Value.int .u8 0, Value.int .u8 0, Value.int .u8 0, Value.int .u8 0, Value.int .u8 0] 45)).alloc (.cells #[Value.int .u8 0, Value.int .u8 0, Value.int .u8 0, Value.int .u8 0, Value.int .u8 0, Value.int .u8 0, Value.int .u8 0, Value.int .u8 0] 45)) := hB0.alloc hB0.size _
 have q0 : ((w.alloc (.cells #[Value.int .u8 0, Value.int .u8 0, Value.int .u8 0, Value.int .u8 0, Value.int .u8 0, Value.int .u8 0, Value.int .u8 0, Value.int .u8 0] 45)).alloc (.cells #[Value.int .u8 0, Value.int .u8 0, Value.int .u8 0, Value.int .u8 0, Value.int .u8 0, Value.int .u8 0, Value.int .u8 0, Value.int .u8 0] 45)).cell? ⟨b, o + l * 8, none⟩ = some (.int .u8 (x0.toNat : Int)) := by rw [hB0.cell (p := ⟨b, o + l * 8, none⟩) hb]; exact hlast 0 _ rfl
 have k0 : (((w.alloc (.cells #[Value.int .u8 0, Value.int .u8 0, Value.int .u8 0, Value.int .u8 0, Value.int .u8 0, Value.int .u8 0, Value.int .u8 0, Value.int .u8 0] 45)).alloc (.cells #[Value.int .u8 0, Value.int .u8 0, Value.int .u8 0, Value.int .u8 0, Value.int .u8 0, Value.int .u8 0, Value.int .u8 0, Value.int .u8 0] 45)).alloc (.cells #[Value.int .u8 0, Value.int .u8 0, Value.int .u8 0, Value.int .u8 0, Value.int .u8 0, Value.int .u8 0, Value.int .u8 0, Value.int .u8 0] 45)).cell? ⟨b, o + l * 8, none⟩ = some (.int .u8 (x0.toNat : Int)) := by rw [hB1.cell (p := ⟨b, o + l * 8, none⟩) hb]; exact hlast 0 _ rfl
 have q1 : ((w.alloc (.cells #[Value.int .u8 0, Value.int .u8 0, Value.int .u8 0, Value.int .u8 0, Value.int .u8 0, Value.int .u8 0, Value.int .u8 0, Value.int .u8 0] 45)).alloc (.cells #[Value.int .u8 0, Value.int .u8 0, Value.int .u8 0, Value.int .u8 0, Value.int .u8 0, Value.int .u8 0, Value.int .u8 0, Value.int .u8 0] 45)).cell? ⟨b, o + l * 8 + 1, none⟩ = some (.int .u8 (x1.toNat : Int)) := by rw [hB0.cell (p := ⟨b, o + l * 8 + 1, none⟩) hb]; exact hlast 1 _ rfl
 have k1 : (((w.alloc (.cells #[Value.int .u8 0, Value.int .u8 0, Value.int .u8 0, Value.int .u8 0, Value.int .u8 0, Value.int .u8 0, Value.int .u8 0, Value.int .u8 0] 45)).alloc (.cells #[Value.int .u8 0, Value.int .u8 0, Value.int .u8 0, Value.int .u8 0, Value.int .u8 0, Value.int .u8 0, Value.int .u8 0, Value.int .u8 0] 45)).alloc (.cells #[Value.int .u8 0, Value.int .u8 0, Value.int .u8 0, Value.int .u8 0, Value.int .u8 0, Value.int .u8 0, Value.int .u8 0, Value.int .u8 0] 45)).cell? ⟨b, o + l * 8 + 1, none⟩ = some (.int .u8 (x1.toNat : Int)) := by rw [hB1.cell (p := ⟨b, o + l * 8 + 1, none⟩) hb]; exact hlast 1 _ rfl
 have q2 : ((w.alloc (.cells #[Value.int .u8 0, Value.int .u8 0, Value.int .u8 0, Value.int .u8 0, Value.int .u8 0, Value.int .u8 0, Value.int .u8 0, Value.int .u8 0] 45)).alloc (.cells #[Value.int .u8 0, Value.int .u8 0, Value.int .u8 0, Value.int .u8 0, Value.int .u8 0, Value.int .u8 0, Value.int .u8 0, Value.int .u8 0] 45)).cell? ⟨b, o + l * 8 + 2, none⟩ = some (.int .u8 (x2.toNat : Int)) := by rw [hB0.cell (p := ⟨b, o + l * 8 + 2, none⟩) hb]; exact hlast 2 _ rfl
 have k2 : (((w.alloc (.cells #[Value.int .u8 0, Value.int .u8 0, Value.int .u8 0, Value.int .u8 0, Value.int .u8 0, Value.int .u8 0, Value.int .u8 0, Value.int .u8 0] 45)).alloc (.cells #[Value.int .u8 0, Value.int .u8 0, Value.int .u8 0, Value.int .u8 0, Value.int .u8 0, Value.int .u8 0, Value.int .u8 0, Value.int .u8 0] 45)).alloc (.cells #[Value.int .u8 0, Value.int .u8 0, Value.int .u8 0, Value.int .u8 0, Value.int .u8 0, Value.int .u8 0, Value.int .u8 0, Value.int .u8 0] 45)).cell? ⟨b, o + l * 8 + 2, none⟩ = some (.int .u8 (x2.toNat : Int)) := by rw [hB1.cell (p := ⟨b, o + l * 8 + 2, none⟩) hb]; exact hlast 2 _ rfl
 have q3 : ((w.alloc (.cells #[Value.int .u8 0, Value.int .u8 0, Value.int .u8 0, Value.int .u8 0, Value.int .u8 0, Value.int .u8 0, Value.int .u8 0, Value.int .u8 0] 45)).alloc (.cells #[Value.int .u8 0, Value.int .u8 0, Value.int .u8 0, Value.int .u8 0, Value.int .u8 0, Value.int .u8 0, Value.int .u8 0, Value.int .u8 0] 45)).cell? ⟨b, o + l * 8 + 3, none⟩ = some (.int .u8 (x3.toNat : Int)) := by rw [hB0.cell (p := ⟨b, o + l * 8 + 3, none⟩) hb]; exact hlast 3 _ rfl
 have k3 : (((w.alloc (.cells #[Value.int .u8 0, Value.int .u8 0, Value.int .u8 0, Value.int .u8 0, Value.int .u8 0, Value.int .u8 0, Value.int .u8 0, Value.int .u8 0] 45)).alloc (.cells #[Value.int .u8 0, Value.int .u8 0, Value.int .u8 0, Value.int .u8 0, Value.int .u8 0, Value.int .u8 0, Value.int .u8 0, Value.int .u8 0] 45)).alloc (.cells #[Value.int .u8 0, Value.int .u8 0, Value.int .u8 0, Value.int .u8 0, Value.int .u8 0, Value.int .u8 0, Value.int .u8 0, Value.int .u8 0] 45)).cell? ⟨b, o + l * 8 + 3, none⟩ = some (.int .u8 (x3.toNat : Int)) := by rw [hB1.cell (p := ⟨b, o + l * 8 + 3, none⟩) hb]; exact hlast 3 _ rfl
 have q4 : ((w.alloc (.cells #[Value.int .u8 0, Value.int .u8 0, Value.int .u8 0, Value.int .u8 0, Value.int .u8 0, Value.int .u8 0, Value.int .u8 0, Value.int .u8 0] 45)).alloc (.cells #[Value.int .u8 0, Value.int .u8 0, Value.int .u8 0, Value.int .u8 0, Value.int .u8 0, Value.int .u8 0, Value.int .u8 0, Value.int .u8 0] 45)).cell? ⟨b, o + l * 8 + 4, none⟩ = some (.int .u8 (x4.toNat : Int)) := by rw [hB0.cell (p := ⟨b, o + l * 8 + 4, none⟩) hb]; exact hlast 4 _ rfl
 have k4 : (((w.alloc (.cells #[Value.int .u8 0, Value.int .u8 0, Value.int .u8 0, Value.int .u8 0, Value.int .u8 0, Value.int .u8 0, Value.int .u8 0, Value.int .u8 0] 45)).alloc (.cells #[Value.int .u8 0, Value.int .u8 0, Value.int .u8 0, Value.int .u8 0, Value.int .u8 0, Value.int .u8 0, Value.int .u8 0, Value.int .u8 0] 45)).alloc (.cells #[Value.int .u8 0, Value.int .u8 0, Value.int .u8 0, Value.int .u8 0, Value.int .u8 0, Value.int .u8 0, Value.int .u8 0, Value.int .u8 0] 45)).cell? ⟨b, o + l * 8 + 4, none⟩ = some (.int .u8 (x4.toNat : Int)) := by rw [hB1.cell (p := ⟨b, o + l * 8 + 4, none⟩) hb]; exact hlast 4 _ rfl
 have q5 : ((w.alloc (.cells #[Value.int .u8 0, Value.int .u8 0, Value.int .u8 0, Value.int .u8 0, Value.int .u8 0, Value.int .u8 0, Value.int .u8 0, Value.int .u8 0] 45)).alloc (.cells #[Value.int .u8 0, Value.int .u8 0, Value.int .u8 0, Value.int .u8 0, Value.int .u8 0, Value.int .u8 0, Value.int .u8 0, Value.int .u8 0] 45)).cell? ⟨b, o + l * 8 + 5, none⟩ = some (.int .u8 (x5.toNat : Int)) := by rw [hB0.cell (p := ⟨b, o + l * 8 + 5, none⟩) hb]; exact hlast 5 _ rfl
 have k5 : (((w.alloc (.cells #[Value.int .u8 0, Value.int .u8 0, Value.int .u8 0, Value.int .u8 0, Value.int .u8 0, Value.int .u8 0, Value.int .u8 0, Value.int .u8 0] 45)).alloc (.cells #[Value.int .u8 0, Value.int .u8 0, Value.int .u8 0, Value.int .u8 0, Value.int .u8 0, Value.int .u8 0, Value.int .u8 0, Value.int .u8 0] 45)).alloc (.cells #[Value.int .u8 0, Value.int .u8 0, Value.int .u8 0, Value.int .u8 0, Value.int .u8 0, Value.int .u8 0, Value.int .u8 0, Value.int .u8 0] 45)).cell? ⟨b, o + l * 8 + 5, none⟩ = some (.int .u8 (x5.toNat : Int)) := by rw [hB1.cell (p := ⟨b, o + l * 8 + 5, none⟩) hb]; exact hlast 5 _ rfl
 have q6 : ((w.alloc (.cells #[Value.int .u8 0, Value.int .u8 0, Value.int .u8 0, Value.int .u8 0, Value.int .u8 0, Value.int .u8 0, Value.int .u8 0, Value.int .u8 0] 45)).alloc (.cells #[Value.int .u8 0, Value.int .u8 0, Value.int .u8 0, Value.int .u8 0, Value.int .u8 0, Value.int .u8 0, Value.int .u8 0, Value.int .u8 0] 45)).cell? ⟨b, o + l * 8 + 6, none⟩ = some (.int .u8 (x6.toNat : Int)) := by rw [hB0.cell (p := ⟨b, o + l * 8 + 6, none⟩) hb]; exact hlast 6 _ rfl
 have k6 : (((w.alloc (.cells #[Value.int .u8 0, Value.int .u8 0, Value.int .u8 0, Value.int .u8 0, Value.int .u8 0, Value.int .u8 0, Value.int .u8 0, Value.int .u8 0] 45)).alloc (.cells #[Value.int .u8 0, Value.int .u8 0, Value.int .u8 0, Value.int .u8 0, Value.int .u8 0, Value.int .u8 0, Value.int .u8 0, Value.int .u8 0] 45)).alloc (.cells #[Value.int .u8 0, Value.int .u8 0, Value.int .u8 0, Value.int .u8 0, Value.int .u8 0, Value.int .u8 0, Value.int .u8 0, Value.int .u8 0] 45)).cell? ⟨b, o + l * 8 + 6, none⟩ = some (.int .u8 (x6.toNat : Int)) := by rw [hB1.cell (p := ⟨b, o + l * 8 + 6, none⟩) hb]; exact hlast 6 _ rfl
 have q7 : ((w.alloc (.cells #[Value.int .u8 0, Value.int .u8 0, Value.int .u8 0, Value.int .u8 0, Value.int .u8 0, Value.int .u8 0, Value.int .u8 0, Value.int .u8 0] 45)).alloc (.cells #[Value.int .u8 0, Value.int .u8 0, Value.int .u8 0, Value.int .u8 0, Value.int .u8 0, Value.int .u8 0, Value.int .u8 0, Value.int .u8 0] 45)).cell? ⟨b, o + l * 8 + 7, none⟩ = some (.int .u8 (x7.toNat : Int)) := by rw [hB0.cell (p := ⟨b, o + l * 8 + 7, none⟩) hb]; exact hlast 7 _ rfl
 have k7 : (((w.alloc (.cells #[Value.int .u8 0, Value.int .u8 0, Value.int .u8 0, Value.int .u8 0, Value.int .u8 0, Value.int .u8 0, Value.int .u8 0, Value.int .u8 0] 45)).alloc (.cells #[Value.int .u8 0, Value.int .u8 0, Value.int .u8 0, Value.int .u8 0, Value.int .u8 0, Value.int .u8 0, Value.int .u8 0, Value.int .u8 0] 45)).alloc (.cells #[Value.int .u8 0, Value.int .u8 0, Value.int .u8 0, Value.int .u8 0, Value.int .u8 0, Value.int .u8 0, Value.int .u8 0, Value.int .u8 0] 45)).cell? ⟨b, o + l * 8 + 7, none⟩ = some (.int .u8 (x7.toNat : Int)) := by rw [hB1.cell (p := ⟨b, o + l * 8 + 7, none⟩) hb]; exact hlast 7 _ rfl
 have hmI : ((l + 1 : Nat) : Int) - 1 = (l : Int) := by omega
 have hm0 : (((l + 1 : Nat) : Int) == 0) = false := by rw [Bool.eq_false_iff]; simp only [ne_eq, beq_iff_eq]; omega
 have hmp : ((l + 1 : Nat) : Int) = (l : Int) + 1 := by omega
 have hcI : (cap : Int) ≤ 9223372036854775807 := by omega
 have hlc : (l : Int) < cap := by omega
 have hlI : (l : Int) ≤ 9223372036854775807 := by omega
 have hkc : ¬ cap = l := by omega
 have hwr : IntKind.i64.wrap (l : Int) = (l : Int) := Go.IntWalk.i64_in _ ⟨by omega, by omega⟩
 clear hlast
 unfold dV u8c
 simp only [List.map_cons, List.map_nil]
 go_enter Try.func70, Try.ntmps70
 go_wp2
 go_region
 all_goals
  go_wp2
  go_region
  all_goals
   go_wp2
   refine ret_dig3 (k := 8) (k' := 9) (j := 10) (d := [x0, x1, x2, x3, x4, x5, x6, x7]) (d' := [x0, x1, x2, x3, x4, x5, x6, x7]) rfl rfl rfl ?_ rfl ?_ rfl rfl rfl ⟨rfl, ?_⟩
   ·exact (((RowV.new_at _ 45 w.heap.size ([x0, x1, x2, x3, x4, x5, x6, x7].map u8c) rfl).alloc _).alloc _).of_block rfl
   ·exact ((RowV.new_at _ 45 (w.heap.size + 1) ([x0, x1, x2, x3, x4, x5, x6, x7].map u8c) (by simp)).alloc _).of_block rfl
   ·exact ((((Below.refl _ _).alloc (Nat.le_refl _) _).alloc (by simp) _).alloc (by simp; omega) _).drew.drew
end Go.Proofs.Ytekegfbjbainhaa
