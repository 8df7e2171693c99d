import Derived.Test.YtekegfbjbainhaaGreatKLog5
set_option linter.unusedVariables false
set_option linter.unusedSimpArgs false

namespace Go.Proofs.YtekegfbjbainhaaGreat
open Go.RowKit
attribute [local go_sem ↓] Go.wp_at_zero Go.wp_at_succ
set_option maxRecDepth 100000 in
set_option maxHeartbeats 1600000 in
theorem sums_own (l m p q : Nat) (sum : List UInt8) (a : Option Addr) (cap : Nat) (w : World) (hr : sum.length = 8) (hl : l ≤ 9223372036854775807) (hp : p < w.heap.size) (hs : w.rangeAt p q (sum.map u8c)) :
  Calls Tryz.prog 136 #[.int .i64 (m : Int), .int .i64 (m : Int), .pointer (some ⟨p, q, none⟩), .slice a l cap] w fun r w' => r = .returned (.tuple #[dV sum, dV sum, .bool ((l : Int) == 0)]) ∧ Below w.heap.size w w' := by
 obtain ⟨x0, x1, x2, x3, x4, x5, x6, x7, rfl⟩ := list8 sum hr
 have hlI : (l : Int) ≤ 9223372036854775807 := by omega
 have hB0 : Below w.heap.size w ((w.alloc (.cells #[Value.int .u8 0, Value.int .u8 0, Value.int .u8 0, Value.int .u8 0, Value.int .u8 0, Value.int .u8 0, Value.int .u8 0, Value.int .u8 0] 36)).alloc (.cells #[Value.int .u8 0, Value.int .u8 0, Value.int .u8 0, Value.int .u8 0, Value.int .u8 0, Value.int .u8 0, Value.int .u8 0, Value.int .u8 0] 36)) := ((Below.refl _ _).alloc (Nat.le_refl _) _).alloc (by simp) _
 have q0 : ((w.alloc (.cells #[Value.int .u8 0, Value.int .u8 0, Value.int .u8 0, Value.int .u8 0, Value.int .u8 0, Value.int .u8 0, Value.int .u8 0, Value.int .u8 0] 36)).alloc (.cells #[Value.int .u8 0, Value.int .u8 0, Value.int .u8 0, Value.int .u8 0, Value.int .u8 0, Value.int .u8 0, Value.int .u8 0, Value.int .u8 0] 36)).cell? ⟨p, q, none⟩ = some (.int .u8 (x0.toNat : Int)) := by rw [hB0.cell (p := ⟨p, q, none⟩) hp]; exact hs 0 _ rfl
 have k0 : ∀ z0 z1 z2 z3 z4 z5 z6 z7 : Value, ((w.alloc (.cells #[z0, z1, z2, z3, z4, z5, z6, z7] 36)).alloc (.cells #[Value.int .u8 0, Value.int .u8 0, Value.int .u8 0, Value.int .u8 0, Value.int .u8 0, Value.int .u8 0, Value.int .u8 0, Value.int .u8 0] 36)).cell? ⟨p, q, none⟩ = some (.int .u8 (x0.toNat : Int)) := fun z0 z1 z2 z3 z4 z5 z6 z7 => by rw [Below.cell (B := w.heap.size) (((Below.refl _ _).alloc (Nat.le_refl _) _).alloc (by simp) _) (p := ⟨p, q, none⟩) hp]; exact hs 0 _ rfl
 have q1 : ((w.alloc (.cells #[Value.int .u8 0, Value.int .u8 0, Value.int .u8 0, Value.int .u8 0, Value.int .u8 0, Value.int .u8 0, Value.int .u8 0, Value.int .u8 0] 36)).alloc (.cells #[Value.int .u8 0, Value.int .u8 0, Value.int .u8 0, Value.int .u8 0, Value.int .u8 0, Value.int .u8 0, Value.int .u8 0, Value.int .u8 0] 36)).cell? ⟨p, q + 1, none⟩ = some (.int .u8 (x1.toNat : Int)) := by rw [hB0.cell (p := ⟨p, q + 1, none⟩) hp]; exact hs 1 _ rfl
 have k1 : ∀ z0 z1 z2 z3 z4 z5 z6 z7 : Value, ((w.alloc (.cells #[z0, z1, z2, z3, z4, z5, z6, z7] 36)).alloc (.cells #[Value.int .u8 0, Value.int .u8 0, Value.int .u8 0, Value.int .u8 0, Value.int .u8 0, Value.int .u8 0, Value.int .u8 0, Value.int .u8 0] 36)).cell? ⟨p, q + 1, none⟩ = some (.int .u8 (x1.toNat : Int)) := fun z0 z1 z2 z3 z4 z5 z6 z7 => by rw [Below.cell (B := w.heap.size) (((Below.refl _ _).alloc (Nat.le_refl _) _).alloc (by simp) _) (p := ⟨p, q + 1, none⟩) hp]; exact hs 1 _ rfl
 have q2 : ((w.alloc (.cells #[Value.int .u8 0, Value.int .u8 0, Value.int .u8 0, Value.int .u8 0, Value.int .u8 0, Value.int .u8 0, Value.int .u8 0, Value.int .u8 0] 36)).alloc (.cells #[Value.int .u8 0, Value.int .u8 0, Value.int .u8 0, Value.int .u8 0, Value.int .u8 0, Value.int .u8 0, Value.int .u8 0, Value.int .u8 0] 36)).cell? ⟨p, q + 2, none⟩ = some (.int .u8 (x2.toNat : Int)) := by rw [hB0.cell (p := ⟨p, q + 2, none⟩) hp]; exact hs 2 _ rfl
 have k2 : ∀ z0 z1 z2 z3 z4 z5 z6 z7 : Value, ((w.alloc (.cells #[z0, z1, z2, z3, z4, z5, z6, z7] 36)).alloc (.cells #[Value.int .u8 0, Value.int .u8 0, Value.int .u8 0, Value.int .u8 0, Value.int .u8 0, Value.int .u8 0, Value.int .u8 0, Value.int .u8 0] 36)).cell? ⟨p, q + 2, none⟩ = some (.int .u8 (x2.toNat : Int)) := fun z0 z1 z2 z3 z4 z5 z6 z7 => by rw [Below.cell (B := w.heap.size) (((Below.refl _ _).alloc (Nat.le_refl _) _).alloc (by simp) _) (p := ⟨p, q + 2, none⟩) hp]; exact hs 2 _ rfl
 have q3 : ((w.alloc (.cells #[Value.int .u8 0, Value.int .u8 0, Value.int .u8 0, Value.int .u8 0, Value.int .u8 0, Value.int .u8 0, Value.int .u8 0, Value.int .u8 0] 36)).alloc (.cells #[Value.int .u8 0, Value.int .u8 0, Value.int .u8 0, Value.int .u8 0, Value.int .u8 0, Value.int .u8 0, Value.int .u8 0, Value.int .u8 0] 36)).cell? ⟨p, q + 3, none⟩ = some (.int .u8 (x3.toNat : Int)) := by rw [hB0.cell (p := ⟨p, q + 3, none⟩) hp]; exact hs 3 _ rfl
 have k3 : ∀ z0 z1 z2 z3 z4 z5 z6 z7 : Value, ((w.alloc (.cells #[z0, z1, z2, z3, z4, z5, z6, z7] 36)).alloc (.cells #[Value.int .u8 0, Value.int .u8 0, Value.int .u8 0, Value.int .u8 0, Value.int .u8 0, Value.int .u8 0, Value.int .u8 0, Value.int .u8 0] 36)).cell? ⟨p, q + 3, none⟩ = some (.int .u8 (x3.toNat : Int)) := fun z0 z1 z2 z3 z4 z5 z6 z7 => by rw [Below.cell (B := w.heap.size) (((Below.refl _ _).alloc (Nat.le_refl _) _).alloc (by simp) _) (p := ⟨p, q + 3, none⟩) hp]; exact hs 3 _ rfl
 have q4 : ((w.alloc (.cells #[Value.int .u8 0, Value.int .u8 0, Value.int .u8 0, Value.int .u8 0, Value.int .u8 0, Value.int .u8 0, Value.int .u8 0, Value.int .u8 0] 36)).alloc (.cells #[Value.int .u8 0, Value.int .u8 0, Value.int .u8 0, Value.int .u8 0, Value.int .u8 0, Value.int .u8 0, Value.int .u8 0, Value.int .u8 0] 36)).cell? ⟨p, q + 4, none⟩ = some (.int .u8 (x4.toNat : Int)) := by rw [hB0.cell (p := ⟨p, q + 4, none⟩) hp]; exact hs 4 _ rfl
 have k4 : ∀ z0 z1 z2 z3 z4 z5 z6 z7 : Value, ((w.alloc (.cells #[z0, z1, z2, z3, z4, z5, z6, z7] 36)).alloc (.cells #[Value.int .u8 0, Value.int .u8 0, Value.int .u8 0, Value.int .u8 0, Value.int .u8 0, Value.int .u8 0, Value.int .u8 0, Value.int .u8 0] 36)).cell? ⟨p, q + 4, none⟩ = some (.int .u8 (x4.toNat : Int)) := fun z0 z1 z2 z3 z4 z5 z6 z7 => by rw [Below.cell (B := w.heap.size) (((Below.refl _ _).alloc (Nat.le_refl _) _).alloc (by simp) _) (p := ⟨p, q + 4, none⟩) hp]; exact hs 4 _ rfl
 have q5 : ((w.alloc (.cells #[Value.int .u8 0, Value.int .u8 0, Value.int .u8 0, Value.int .u8 0, Value.int .u8 0, Value.int .u8 0, Value.int .u8 0, Value.int .u8 0] 36)).alloc (.cells #[Value.int .u8 0, Value.int .u8 0, Value.int .u8 0, Value.int .u8 0, Value.int .u8 0, Value.int .u8 0, Value.int .u8 0, Value.int .u8 0] 36)).cell? ⟨p, q + 5, none⟩ = some (.int .u8 (x5.toNat : Int)) := by rw [hB0.cell (p := ⟨p, q + 5, none⟩) hp]; exact hs 5 _ rfl
 have k5 : ∀ z0 z1 z2 z3 z4 z5 z6 z7 : Value, ((w.alloc (.cells #[z0, z1, z2, z3, z4, z5, z6, z7] 36)).alloc (.cells #[Value.int .u8 0, Value.int .u8 0, Value.int .u8 0, Value.int .u8 0, Value.int .u8 0, Value.int .u8 0, Value.int .u8 0, Value.int .u8 0] 36)).cell? ⟨p, q + 5, none⟩ = some (.int .u8 (x5.toNat : Int)) := fun z0 z1 z2 z3 z4 z5 z6 z7 => by rw [Below.cell (B := w.heap.size) (((Below.refl _ _).alloc (Nat.le_refl _) _).alloc (by simp) _) (p := ⟨p, q + 5, none⟩) hp]; exact hs 5 _ rfl
 have q6 : ((w.alloc (.cells #[Value.int .u8 0, Value.int .u8 0, Value.int .u8 0, Value.int .u8 0, Value.int .u8 0, Value.int .u8 0, Value.int .u8 0, Value.int .u8 0] 36)).alloc (.cells #[Value.int .u8 0, Value.int .u8 0, Value.int .u8 0, Value.int .u8 0, Value.int .u8 0, Value.int .u8 0, Value.int .u8 0, Value.int .u8 0] 36)).cell? ⟨p, q + 6, none⟩ = some (.int .u8 (x6.toNat : Int)) := by rw [hB0.cell (p := ⟨p, q + 6, none⟩) hp]; exact hs 6 _ rfl
 have k6 : ∀ z0 z1 z2 z3 z4 z5 z6 z7 : Value, ((w.alloc (.cells #[z0, z1, z2, z3, z4, z5, z6, z7] 36)).alloc (.cells #[Value.int .u8 0, Value.int .u8 0, Value.int .u8 0, Value.int .u8 0, Value.int .u8 0, Value.int .u8 0, Value.int .u8 0, Value.int .u8 0] 36)).cell? ⟨p, q + 6, none⟩ = some (.int .u8 (x6.toNat : Int)) := fun z0 z1 z2 z3 z4 z5 z6 z7 => by rw [Below.cell (B := w.heap.size) (((Below.refl _ _).alloc (Nat.le_refl _) _).alloc (by simp) _) (p := ⟨p, q + 6, none⟩) hp]; exact hs 6 _ rfl
 have q7 : ((w.alloc (.cells #[Value.int .u8 0, Value.int .u8 0, Value.int .u8 0, Value.int .u8 0, Value.int .u8 0, Value.int .u8 0, Value.int .u8 0, Value.int .u8 0] 36)).alloc (.cells #[Value.int .u8 0, Value.int .u8 0, Value.int .u8 0, Value.int .u8 0, Value.int .u8 0, Value.int .u8 0, Value.int .u8 0, Value.int .u8 0] 36)).cell? ⟨p, q + 7, none⟩ = some (.int .u8 (x7.toNat : Int)) := by rw [hB0.cell (p := ⟨p, q + 7, none⟩) hp]; exact hs 7 _ rfl
 have k7 : ∀ z0 z1 z2 z3 z4 z5 z6 z7 : Value, ((w.alloc (.cells #[z0, z1, z2, z3, z4, z5, z6, z7] 36)).alloc (.cells #[Value.int .u8 0, Value.int .u8 0, Value.int .u8 0, Value.int .u8 0, Value.int .u8 0, Value.int .u8 0, Value.int .u8 0, Value.int .u8 0] 36)).cell? ⟨p, q + 7, none⟩ = some (.int .u8 (x7.toNat : Int)) := fun z0 z1 z2 z3 z4 z5 z6 z7 => by rw [Below.cell (B := w.heap.size) (((Below.refl _ _).alloc (Nat.le_refl _) _).alloc (by simp) _) (p := ⟨p, q + 7, none⟩) hp]; exact hs 7 _ rfl
 clear hs
 unfold dV u8c
 simp only [List.map_cons, List.map_nil]
 go_enter Tryz.func136, Tryz.ntmps136
 go_wp2
 go_region
 all_goals
  go_wp2
  refine ret_dig3 (k := 8) (k' := 9) (j := 10) (d := [x0, x1, x2, x3, x4, x5, x6, x7]) (d' := [x0, x1, x2, x3, x4, x5, x6, x7]) rfl rfl rfl ?_ rfl ?_ rfl rfl rfl ⟨rfl, ?_⟩
  ·exact ((RowV.new_at _ 36 w.heap.size ([x0, x1, x2, x3, x4, x5, x6, x7].map u8c) rfl).alloc _).of_block rfl
  ·exact (RowV.new_at _ 36 (w.heap.size + 1) ([x0, x1, x2, x3, x4, x5, x6, x7].map u8c) (by simp)).of_block rfl
  ·exact (((Below.refl _ _).alloc (Nat.le_refl _) _).alloc (by simp) _).drew
set_option maxRecDepth 100000 in
set_option maxHeartbeats 1600000 in
theorem sums_nil (n m : Nat) (po : Option Addr) (a : Option Addr) (cap : Nat) (w : World) (hn : ¬ (m = n ∧ po ≠ none)) :
  Calls Tryz.prog 136 #[.int .i64 (m : Int), .int .i64 (n : Int), .pointer po, .slice a 0 cap] w fun r w' => r = .returned (.tuple #[dV nulD, dV nulD, .bool false]) ∧ Below w.heap.size w w' := by
 by_cases hmn : m = n
 ·subst hmn
  obtain rfl : po = none := by cases po; rfl; exact absurd ⟨rfl, by simp⟩ hn
  clear hn
  go_enter Tryz.func136, Tryz.ntmps136
  go_wp2
  go_region
  all_goals
   go_wp2
   refine ret_dig3 (k := 8) (k' := 9) (j := 10) (d := nulD) (d' := nulD) rfl rfl rfl ?_ rfl ?_ rfl rfl rfl ⟨rfl, ?_⟩
   ·exact ((RowV.new_at _ 36 w.heap.size z8 rfl).alloc _).of_block rfl
   ·exact (RowV.new_at _ 36 (w.heap.size + 1) z8 (by simp)).of_block rfl
   ·exact (((Below.refl _ _).alloc (Nat.le_refl _) _).alloc (by simp) _).drew
 ·have hmi : ((m : Int) == (n : Int)) = false := by rw [Bool.eq_false_iff]; simp only [ne_eq, beq_iff_eq]; omega
  clear hn
  go_enter Tryz.func136, Tryz.ntmps136
  go_wp2
  go_region
  all_goals
   go_wp2
   refine ret_dig3 (k := 8) (k' := 9) (j := 10) (d := nulD) (d' := nulD) rfl rfl rfl ?_ rfl ?_ rfl rfl rfl ⟨rfl, ?_⟩
   ·exact ((RowV.new_at _ 36 w.heap.size z8 rfl).alloc _).of_block rfl
   ·exact (RowV.new_at _ 36 (w.heap.size + 1) z8 (by simp)).of_block rfl
   ·exact (((Below.refl _ _).alloc (Nat.le_refl _) _).alloc (by simp) _).drew
set_option maxRecDepth 100000 in
set_option maxHeartbeats 1600000 in
theorem sums_eq (l m b o : Nat) (x : List UInt8) (cap : Nat) (w : World) (hx : x.length = 8) (hb : b < w.heap.size) (hl : l + 1 ≤ cap) (hc : cap ≤ 9223372036854775807) (hlast : w.rangeAt b (o + l * 8) (x.map u8c)) :
  Calls Tryz.prog 136 #[.int .i64 (m : Int), .int .i64 (m : Int), .pointer none, .slice (some ⟨b, o, none⟩) (l + 1) cap] w fun r w' => r = .returned (.tuple #[dV x, dV x, .bool ((l : Int) == 0)]) ∧ Below w.heap.size w w' := by
 obtain ⟨x0, x1, x2, x3, x4, x5, x6, x7, rfl⟩ := list8 x hx
 have hB0 : Below w.heap.size w ((w.alloc (.cells #[Value.int .u8 0, Value.int .u8 0, Value.int .u8 0, Value.int .u8 0, Value.int .u8 0, Value.int .u8 0, Value.int .u8 0, Value.int .u8 0] 36)).alloc (.cells #[Value.int .u8 0, Value.int .u8 0, Value.int .u8 0, Value.int .u8 0, Value.int .u8 0, Value.int .u8 0, Value.int .u8 0, Value.int .u8 0] 36)) := ((Below.refl _ _).alloc (Nat.le_refl _) _).alloc (by simp) _
 have hB1 : Below w.heap.size w (((w.alloc (.cells #[Value.int .u8 0, Value.int .u8 0, Value.int .u8 0, Value.int .u8 0, Value.int .u8 0, Value.int .u8 0, Value.int .u8 0, Value.int .u8 0] 36)).alloc (.cells #[Value.int .u8 0, Value.int .u8 0, Value.int .u8 0, Value.int .u8 0, Value.int .u8 0, Value.int .u8 0, Value.int .u8 0, Value.int .u8 0] 36)).alloc (.cells #[Value.int .u8 0, Value.int .u8 0, Value.int .u8 0, Value.int .u8 0, Value.int .u8 0, Value.int .u8 0, Value.int .u8 0, Value.int .u8 0] 36)) := hB0.alloc hB0.size _
 have q0 : ((w.alloc (.cells #[Value.int .u8 0, Value.int .u8 0, Value.int .u8 0, Value.int .u8 0, Value.int .u8 0, Value.int .u8 0, Value.int .u8 0, Value.int .u8 0] 36)).alloc (.cells #[Value.int .u8 0, Value.int .u8 0, Value.int .u8 0, Value.int .u8 0, Value.int .u8 0, Value.int .u8 0, Value.int .u8 0, Value.int .u8 0] 36)).cell? ⟨b, o + l * 8, none⟩ = some (.int .u8 (x0.toNat : Int)) := by rw [hB0.cell (p := ⟨b, o + l * 8, none⟩) hb]; exact hlast 0 _ rfl
 have k0 : (((w.alloc (.cells #[Value.int .u8 0, Value.int .u8 0, Value.int .u8 0, Value.int .u8 0, Value.int .u8 0, Value.int .u8 0, Value.int .u8 0, Value.int .u8 0] 36)).alloc (.cells #[Value.int .u8 0, Value.int .u8 0, Value.int .u8 0, Value.int .u8 0, Value.int .u8 0, Value.int .u8 0, Value.int .u8 0, Value.int .u8 0] 36)).alloc (.cells #[Value.int .u8 0, Value.int .u8 0, Value.int .u8 0, Value.int .u8 0, Value.int .u8 0, Value.int .u8 0, Value.int .u8 0, Value.int .u8 0] 36)).cell? ⟨b, o + l * 8, none⟩ = some (.int .u8 (x0.toNat : Int)) := by rw [hB1.cell (p := ⟨b, o + l * 8, none⟩) hb]; exact hlast 0 _ rfl
 have q1 : ((w.alloc (.cells #[Value.int .u8 0, Value.int .u8 0, Value.int .u8 0, Value.int .u8 0, Value.int .u8 0, Value.int .u8 0, Value.int .u8 0, Value.int .u8 0] 36)).alloc (.cells #[Value.int .u8 0, Value.int .u8 0, Value.int .u8 0, Value.int .u8 0, Value.int .u8 0, Value.int .u8 0, Value.int .u8 0, Value.int .u8 0] 36)).cell? ⟨b, o + l * 8 + 1, none⟩ = some (.int .u8 (x1.toNat : Int)) := by rw [hB0.cell (p := ⟨b, o + l * 8 + 1, none⟩) hb]; exact hlast 1 _ rfl
 have k1 : (((w.alloc (.cells #[Value.int .u8 0, Value.int .u8 0, Value.int .u8 0, Value.int .u8 0, Value.int .u8 0, Value.int .u8 0, Value.int .u8 0, Value.int .u8 0] 36)).alloc (.cells #[Value.int .u8 0, Value.int .u8 0, Value.int .u8 0, Value.int .u8 0, Value.int .u8 0, Value.int .u8 0, Value.int .u8 0, Value.int .u8 0] 36)).alloc (.cells #[Value.int .u8 0, Value.int .u8 0, Value.int .u8 0, Value.int .u8 0, Value.int .u8 0, Value.int .u8 0, Value.int .u8 0, Value.int .u8 0] 36)).cell? ⟨b, o + l * 8 + 1, none⟩ = some (.int .u8 (x1.toNat : Int)) := by rw [hB1.cell (p := ⟨b, o + l * 8 + 1, none⟩) hb]; exact hlast 1 _ rfl
 have q2 : ((w.alloc (.cells #[Value.int .u8 0, Value.int .u8 0, Value.int .u8 0, Value.int .u8 0, Value.int .u8 0, Value.int .u8 0, Value.int .u8 0, Value.int .u8 0] 36)).alloc (.cells #[Value.int .u8 0, Value.int .u8 0, Value.int .u8 0, Value.int .u8 0, Value.int .u8 0, Value.int .u8 0, Value.int .u8 0, Value.int .u8 0] 36)).cell? ⟨b, o + l * 8 + 2, none⟩ = some (.int .u8 (x2.toNat : Int)) := by rw [hB0.cell (p := ⟨b, o + l * 8 + 2, none⟩) hb]; exact hlast 2 _ rfl
 have k2 : (((w.alloc (.cells #[Value.int .u8 0, Value.int .u8 0, Value.int .u8 0, Value.int .u8 0, Value.int .u8 0, Value.int .u8 0, Value.int .u8 0, Value.int .u8 0] 36)).alloc (.cells #[Value.int .u8 0, Value.int .u8 0, Value.int .u8 0, Value.int .u8 0, Value.int .u8 0, Value.int .u8 0, Value.int .u8 0, Value.int .u8 0] 36)).alloc (.cells #[Value.int .u8 0, Value.int .u8 0, Value.int .u8 0, Value.int .u8 0, Value.int .u8 0, Value.int .u8 0, Value.int .u8 0, Value.int .u8 0] 36)).cell? ⟨b, o + l * 8 + 2, none⟩ = some (.int .u8 (x2.toNat : Int)) := by rw [hB1.cell (p := ⟨b, o + l * 8 + 2, none⟩) hb]; exact hlast 2 _ rfl
 have q3 : ((w.alloc (.cells #[Value.int .u8 0, Value.int .u8 0, Value.int .u8 0, Value.int .u8 0, Value.int .u8 0, Value.int .u8 0, Value.int .u8 0, Value.int .u8 0] 36)).alloc (.cells #[Value.int .u8 0, Value.int .u8 0, Value.int .u8 0, Value.int .u8 0, Value.int .u8 0, Value.int .u8 0, Value.int .u8 0, Value.int .u8 0] 36)).cell? ⟨b, o + l * 8 + 3, none⟩ = some (.int .u8 (x3.toNat : Int)) := by rw [hB0.cell (p := ⟨b, o + l * 8 + 3, none⟩) hb]; exact hlast 3 _ rfl
 have k3 : (((w.alloc (.cells #[Value.int .u8 0, Value.int .u8 0, Value.int .u8 0, Value.int .u8 0, Value.int .u8 0, Value.int .u8 0, Value.int .u8 0, Value.int .u8 0] 36)).alloc (.cells #[Value.int .u8 0, Value.int .u8 0, Value.int .u8 0, Value.int .u8 0, Value.int .u8 0, Value.int .u8 0, Value.int .u8 0, Value.int .u8 0] 36)).alloc (.cells #[Value.int .u8 0, Value.int .u8 0, Value.int .u8 0, Value.int .u8 0, Value.int .u8 0, Value.int .u8 0, Value.int .u8 0, Value.int .u8 0] 36)).cell? ⟨b, o + l * 8 + 3, none⟩ = some (.int .u8 (x3.toNat : Int)) := by rw [hB1.cell (p := ⟨b, o + l * 8 + 3, none⟩) hb]; exact hlast 3 _ rfl
 have q4 : ((w.alloc (.cells #[Value.int .u8 0, Value.int .u8 0, Value.int .u8 0, Value.int .u8 0, Value.int .u8 0, Value.int .u8 0, Value.int .u8 0, Value.int .u8 0] 36)).alloc (.cells #[Value.int .u8 0, Value.int .u8 0, Value.int .u8 0, Value.int .u8 0, Value.int .u8 0, Value.int .u8 0, Value.int .u8 0, Value.int .u8 0] 36)).cell? ⟨b, o + l * 8 + 4, none⟩ = some (.int .u8 (x4.toNat : Int)) := by rw [hB0.cell (p := ⟨b, o + l * 8 + 4, none⟩) hb]; exact hlast 4 _ rfl
 have k4 : (((w.alloc (.cells #[Value.int .u8 0, Value.int .u8 0, Value.int .u8 0, Value.int .u8 0, Value.int .u8 0, Value.int .u8 0, Value.int .u8 0, Value.int .u8 0] 36)).alloc (.cells #[Value.int .u8 0, Value.int .u8 0, Value.int .u8 0, Value.int .u8 0, Value.int .u8 0, Value.int .u8 0, Value.int .u8 0, Value.int .u8 0] 36)).alloc (.cells #[Value.int .u8 0, Value.int .u8 0, Value.int .u8 0, Value.int .u8 0, Value.int .u8 0, Value.int .u8 0, Value.int .u8 0, Value.int .u8 0] 36)).cell? ⟨b, o + l * 8 + 4, none⟩ = some (.int .u8 (x4.toNat : Int)) := by rw [hB1.cell (p := ⟨b, o + l * 8 + 4, none⟩) hb]; exact hlast 4 _ rfl
 have q5 : ((w.alloc (.cells #[Value.int .u8 0, Value.int .u8 0, Value.int .u8 0, Value.int .u8 0, Value.int .u8 0, Value.int .u8 0, Value.int .u8 0, Value.int .u8 0] 36)).alloc (.cells #[Value.int .u8 0, Value.int .u8 0, Value.int .u8 0, Value.int .u8 0, Value.int .u8 0, Value.int .u8 0, Value.int .u8 0, Value.int .u8 0] 36)).cell? ⟨b, o + l * 8 + 5, none⟩ = some (.int .u8 (x5.toNat : Int)) := by rw [hB0.cell (p := ⟨b, o + l * 8 + 5, none⟩) hb]; exact hlast 5 _ rfl
 have k5 : (((w.alloc (.cells #[Value.int .u8 0, Value.int .u8 0, Value.int .u8 0, Value.int .u8 0, Value.int .u8 0, Value.int .u8 0, Value.int .u8 0, Value.int .u8 0] 36)).alloc (.cells #[Value.int .u8 0, Value.int .u8 0, Value.int .u8 0, Value.int .u8 0, Value.int .u8 0, Value.int .u8 0, Value.int .u8 0, Value.int .u8 0] 36)).alloc (.cells #[Value.int .u8 0, Value.int .u8 0, Value.int .u8 0, Value.int .u8 0, Value.int .u8 0, Value.int .u8 0, Value.int .u8 0, Value.int .u8 0] 36)).cell? ⟨b, o + l * 8 + 5, none⟩ = some (.int .u8 (x5.toNat : Int)) := by rw [hB1.cell (p := ⟨b, o + l * 8 + 5, none⟩) hb]; exact hlast 5 _ rfl
 have q6 : ((w.alloc (.cells #[Value.int .u8 0, Value.int .u8 0, Value.int .u8 0, Value.int .u8 0, Value.int .u8 0, Value.int .u8 0, Value.int .u8 0, Value.int .u8 0] 36)).alloc (.cells #[Value.int .u8 0, Value.int .u8 0, Value.int .u8 0, Value.int .u8 0, Value.int .u8 0, Value.int .u8 0, Value.int .u8 0, Value.int .u8 0] 36)).cell? ⟨b, o + l * 8 + 6, none⟩ = some (.int .u8 (x6.toNat : Int)) := by rw [hB0.cell (p := ⟨b, o + l * 8 + 6, none⟩) hb]; exact hlast 6 _ rfl
 have k6 : (((w.alloc (.cells #[Value.int .u8 0, Value.int .u8 0, Value.int .u8 0, Value.int .u8 0, Value.int .u8 0, Value.int .u8 0, Value.int .u8 0, Value.int .u8 0] 36)).alloc (.cells #[Value.int .u8 0, Value.int .u8 0, Value.int .u8 0, Value.int .u8 0, Value.int .u8 0, Value.int .u8 0, Value.int .u8 0, Value.int .u8 0] 36)).alloc (.cells #[Value.int .u8 0, Value.int .u8 0, Value.int .u8 0, Value.int .u8 0, Value.int .u8 0, Value.int .u8 0, Value.int .u8 0, Value.int .u8 0] 36)).cell? ⟨b, o + l * 8 + 6, none⟩ = some (.int .u8 (x6.toNat : Int)) := by rw [hB1.cell (p := ⟨b, o + l * 8 + 6, none⟩) hb]; exact hlast 6 _ rfl
 have q7 : ((w.alloc (.cells #[Value.int .u8 0, Value.int .u8 0, Value.int .u8 0, Value.int .u8 0, Value.int .u8 0, Value.int .u8 0, Value.int .u8 0, Value.int .u8 0] 36)).alloc (.cells #[Value.int .u8 0, Value.int .u8 0, Value.int .u8 0, Value.int .u8 0, Value.int .u8 0, Value.int .u8 0, Value.int .u8 0, Value.int .u8 0] 36)).cell? ⟨b, o + l * 8 + 7, none⟩ = some (.int .u8 (x7.toNat : Int)) := by rw [hB0.cell (p := ⟨b, o + l * 8 + 7, none⟩) hb]; exact hlast 7 _ rfl
 have k7 : (((w.alloc (.cells #[Value.int .u8 0, Value.int .u8 0, Value.int .u8 0, Value.int .u8 0, Value.int .u8 0, Value.int .u8 0, Value.int .u8 0, Value.int .u8 0] 36)).alloc (.cells #[Value.int .u8 0, Value.int .u8 0, Value.int .u8 0, Value.int .u8 0, Value.int .u8 0, Value.int .u8 0, Value.int .u8 0, Value.int .u8 0] 36)).alloc (.cells #[Value.int .u8 0, Value.int .u8 0, Value.int .u8 0, Value.int .u8 0, Value.int .u8 0, Value.int .u8 0, Value.int .u8 0, Value.int .u8 0] 36)).cell? ⟨b, o + l * 8 + 7, none⟩ = some (.int .u8 (x7.toNat : Int)) := by rw [hB1.cell (p := ⟨b, o + l * 8 + 7, none⟩) hb]; exact hlast 7 _ rfl
 have hmI : ((l + 1 : Nat) : Int) - 1 = (l : Int) := by omega
 have hm0 : (((l + 1 : Nat) : Int) == 0) = false := by rw [Bool.eq_false_iff]; simp only [ne_eq, beq_iff_eq]; omega
 have hmp : ((l + 1 : Nat) : Int) = (l : Int) + 1 := by omega
 have hcI : (cap : Int) ≤ 9223372036854775807 := by omega
 have hlc : (l : Int) < cap := by omega
 have hlI : (l : Int) ≤ 9223372036854775807 := by omega
 have hkc : ¬ cap = l := by omega
 have hwr : IntKind.i64.wrap (l : Int) = (l : Int) := Go.IntWalk.i64_in _ ⟨by omega, by omega⟩
 clear hlast
 unfold dV u8c
 simp only [List.map_cons, List.map_nil]
 go_enter Tryz.func136, Tryz.ntmps136
 go_wp2
 go_region
 all_goals
  go_wp2
  go_region
  all_goals
   go_wp2
   refine ret_dig3 (k := 8) (k' := 9) (j := 10) (d := [x0, x1, x2, x3, x4, x5, x6, x7]) (d' := [x0, x1, x2, x3, x4, x5, x6, x7]) rfl rfl rfl ?_ rfl ?_ rfl rfl rfl ⟨rfl, ?_⟩
   ·exact (((RowV.new_at _ 36 w.heap.size ([x0, x1, x2, x3, x4, x5, x6, x7].map u8c) rfl).alloc _).alloc _).of_block rfl
   ·exact ((RowV.new_at _ 36 (w.heap.size + 1) ([x0, x1, x2, x3, x4, x5, x6, x7].map u8c) (by simp)).alloc _).of_block rfl
   ·exact ((((Below.refl _ _).alloc (Nat.le_refl _) _).alloc (by simp) _).alloc (by simp; omega) _).drew.drew
end Go.Proofs.YtekegfbjbainhaaGreat


namespace Go.Proofs.YtekegfbjbainhaaGreat
open Go.RowKit
attribute [local go_sem ↓] Go.wp_at_zero Go.wp_at_succ
set_option maxRecDepth 100000 in
set_option maxHeartbeats 4000000 in
theorem sums_le (l m n b o : Nat) (po : Option Addr) (x : List UInt8) (O : Option (List UInt8 × List UInt8)) (cap : Nat) (w : World) (hx : x.length = 8) (hb : b < w.heap.size) (hl : l + 1 ≤ cap) (hc : cap ≤ 9223372036854775807) (hlast : w.rangeAt b (o + l * 8) (x.map u8c)) (hm1 : 1 ≤ m) (hmn : m < n) (hn : n ≤ 9223372036854775807) (hk : m ≤ halfN n)
  (hIH : ∀ W, Below w.heap.size w W → Calls Tryz.prog 136 #[.int .i64 (m : Int), .int .i64 (halfN n : Int), .pointer po, .slice (some ⟨b, o, none⟩) l cap] W fun v w' => bothV O v ∧ Below W.heap.size W w') :
  Calls Tryz.prog 136 #[.int .i64 (m : Int), .int .i64 (n : Int), .pointer po, .slice (some ⟨b, o, none⟩) (l + 1) cap] w fun v w' => bothV (O.map (fun q => (q.1, digB (1 :: (q.2 ++ x))))) v ∧ Below w.heap.size w w' := by
 obtain ⟨x0, x1, x2, x3, x4, x5, x6, x7, rfl⟩ := list8 x hx
 have hB0 : Below w.heap.size w ((w.alloc (.cells #[Value.int .u8 0, Value.int .u8 0, Value.int .u8 0, Value.int .u8 0, Value.int .u8 0, Value.int .u8 0, Value.int .u8 0, Value.int .u8 0] 36)).alloc (.cells #[Value.int .u8 0, Value.int .u8 0, Value.int .u8 0, Value.int .u8 0, Value.int .u8 0, Value.int .u8 0, Value.int .u8 0, Value.int .u8 0] 36)) := ((Below.refl _ _).alloc (Nat.le_refl _) _).alloc (by simp) _
 have hB1 : Below w.heap.size w (((w.alloc (.cells #[Value.int .u8 0, Value.int .u8 0, Value.int .u8 0, Value.int .u8 0, Value.int .u8 0, Value.int .u8 0, Value.int .u8 0, Value.int .u8 0] 36)).alloc (.cells #[Value.int .u8 0, Value.int .u8 0, Value.int .u8 0, Value.int .u8 0, Value.int .u8 0, Value.int .u8 0, Value.int .u8 0, Value.int .u8 0] 36)).alloc (.cells #[Value.int .u8 0, Value.int .u8 0, Value.int .u8 0, Value.int .u8 0, Value.int .u8 0, Value.int .u8 0, Value.int .u8 0, Value.int .u8 0] 36)) := hB0.alloc hB0.size _
 have q0 : ((w.alloc (.cells #[Value.int .u8 0, Value.int .u8 0, Value.int .u8 0, Value.int .u8 0, Value.int .u8 0, Value.int .u8 0, Value.int .u8 0, Value.int .u8 0] 36)).alloc (.cells #[Value.int .u8 0, Value.int .u8 0, Value.int .u8 0, Value.int .u8 0, Value.int .u8 0, Value.int .u8 0, Value.int .u8 0, Value.int .u8 0] 36)).cell? ⟨b, o + l * 8, none⟩ = some (.int .u8 (x0.toNat : Int)) := by rw [hB0.cell (p := ⟨b, o + l * 8, none⟩) hb]; exact hlast 0 _ rfl
 have k0 : (((w.alloc (.cells #[Value.int .u8 0, Value.int .u8 0, Value.int .u8 0, Value.int .u8 0, Value.int .u8 0, Value.int .u8 0, Value.int .u8 0, Value.int .u8 0] 36)).alloc (.cells #[Value.int .u8 0, Value.int .u8 0, Value.int .u8 0, Value.int .u8 0, Value.int .u8 0, Value.int .u8 0, Value.int .u8 0, Value.int .u8 0] 36)).alloc (.cells #[Value.int .u8 0, Value.int .u8 0, Value.int .u8 0, Value.int .u8 0, Value.int .u8 0, Value.int .u8 0, Value.int .u8 0, Value.int .u8 0] 36)).cell? ⟨b, o + l * 8, none⟩ = some (.int .u8 (x0.toNat : Int)) := by rw [hB1.cell (p := ⟨b, o + l * 8, none⟩) hb]; exact hlast 0 _ rfl
 have q1 : ((w.alloc (.cells #[Value.int .u8 0, Value.int .u8 0, Value.int .u8 0, Value.int .u8 0, Value.int .u8 0, Value.int .u8 0, Value.int .u8 0, Value.int .u8 0] 36)).alloc (.cells #[Value.int .u8 0, Value.int .u8 0, Value.int .u8 0, Value.int .u8 0, Value.int .u8 0, Value.int .u8 0, Value.int .u8 0, Value.int .u8 0] 36)).cell? ⟨b, o + l * 8 + 1, none⟩ = some (.int .u8 (x1.toNat : Int)) := by rw [hB0.cell (p := ⟨b, o + l * 8 + 1, none⟩) hb]; exact hlast 1 _ rfl
 have k1 : (((w.alloc (.cells #[Value.int .u8 0, Value.int .u8 0, Value.int .u8 0, Value.int .u8 0, Value.int .u8 0, Value.int .u8 0, Value.int .u8 0, Value.int .u8 0] 36)).alloc (.cells #[Value.int .u8 0, Value.int .u8 0, Value.int .u8 0, Value.int .u8 0, Value.int .u8 0, Value.int .u8 0, Value.int .u8 0, Value.int .u8 0] 36)).alloc (.cells #[Value.int .u8 0, Value.int .u8 0, Value.int .u8 0, Value.int .u8 0, Value.int .u8 0, Value.int .u8 0, Value.int .u8 0, Value.int .u8 0] 36)).cell? ⟨b, o + l * 8 + 1, none⟩ = some (.int .u8 (x1.toNat : Int)) := by rw [hB1.cell (p := ⟨b, o + l * 8 + 1, none⟩) hb]; exact hlast 1 _ rfl
 have q2 : ((w.alloc (.cells #[Value.int .u8 0, Value.int .u8 0, Value.int .u8 0, Value.int .u8 0, Value.int .u8 0, Value.int .u8 0, Value.int .u8 0, Value.int .u8 0] 36)).alloc (.cells #[Value.int .u8 0, Value.int .u8 0, Value.int .u8 0, Value.int .u8 0, Value.int .u8 0, Value.int .u8 0, Value.int .u8 0, Value.int .u8 0] 36)).cell? ⟨b, o + l * 8 + 2, none⟩ = some (.int .u8 (x2.toNat : Int)) := by rw [hB0.cell (p := ⟨b, o + l * 8 + 2, none⟩) hb]; exact hlast 2 _ rfl
 have k2 : (((w.alloc (.cells #[Value.int .u8 0, Value.int .u8 0, Value.int .u8 0, Value.int .u8 0, Value.int .u8 0, Value.int .u8 0, Value.int .u8 0, Value.int .u8 0] 36)).alloc (.cells #[Value.int .u8 0, Value.int .u8 0, Value.int .u8 0, Value.int .u8 0, Value.int .u8 0, Value.int .u8 0, Value.int .u8 0, Value.int .u8 0] 36)).alloc (.cells #[Value.int .u8 0, Value.int .u8 0, Value.int .u8 0, Value.int .u8 0, Value.int .u8 0, Value.int .u8 0, Value.int .u8 0, Value.int .u8 0] 36)).cell? ⟨b, o + l * 8 + 2, none⟩ = some (.int .u8 (x2.toNat : Int)) := by rw [hB1.cell (p := ⟨b, o + l * 8 + 2, none⟩) hb]; exact hlast 2 _ rfl
 have q3 : ((w.alloc (.cells #[Value.int .u8 0, Value.int .u8 0, Value.int .u8 0, Value.int .u8 0, Value.int .u8 0, Value.int .u8 0, Value.int .u8 0, Value.int .u8 0] 36)).alloc (.cells #[Value.int .u8 0, Value.int .u8 0, Value.int .u8 0, Value.int .u8 0, Value.int .u8 0, Value.int .u8 0, Value.int .u8 0, Value.int .u8 0] 36)).cell? ⟨b, o + l * 8 + 3, none⟩ = some (.int .u8 (x3.toNat : Int)) := by rw [hB0.cell (p := ⟨b, o + l * 8 + 3, none⟩) hb]; exact hlast 3 _ rfl
 have k3 : (((w.alloc (.cells #[Value.int .u8 0, Value.int .u8 0, Value.int .u8 0, Value.int .u8 0, Value.int .u8 0, Value.int .u8 0, Value.int .u8 0, Value.int .u8 0] 36)).alloc (.cells #[Value.int .u8 0, Value.int .u8 0, Value.int .u8 0, Value.int .u8 0, Value.int .u8 0, Value.int .u8 0, Value.int .u8 0, Value.int .u8 0] 36)).alloc (.cells #[Value.int .u8 0, Value.int .u8 0, Value.int .u8 0, Value.int .u8 0, Value.int .u8 0, Value.int .u8 0, Value.int .u8 0, Value.int .u8 0] 36)).cell? ⟨b, o + l * 8 + 3, none⟩ = some (.int .u8 (x3.toNat : Int)) := by rw [hB1.cell (p := ⟨b, o + l * 8 + 3, none⟩) hb]; exact hlast 3 _ rfl
 have q4 : ((w.alloc (.cells #[Value.int .u8 0, Value.int .u8 0, Value.int .u8 0, Value.int .u8 0, Value.int .u8 0, Value.int .u8 0, Value.int .u8 0, Value.int .u8 0] 36)).alloc (.cells #[Value.int .u8 0, Value.int .u8 0, Value.int .u8 0, Value.int .u8 0, Value.int .u8 0, Value.int .u8 0, Value.int .u8 0, Value.int .u8 0] 36)).cell? ⟨b, o + l * 8 + 4, none⟩ = some (.int .u8 (x4.toNat : Int)) := by rw [hB0.cell (p := ⟨b, o + l * 8 + 4, none⟩) hb]; exact hlast 4 _ rfl
 have k4 : (((w.alloc (.cells #[Value.int .u8 0, Value.int .u8 0, Value.int .u8 0, Value.int .u8 0, Value.int .u8 0, Value.int .u8 0, Value.int .u8 0, Value.int .u8 0] 36)).alloc (.cells #[Value.int .u8 0, Value.int .u8 0, Value.int .u8 0, Value.int .u8 0, Value.int .u8 0, Value.int .u8 0, Value.int .u8 0, Value.int .u8 0] 36)).alloc (.cells #[Value.int .u8 0, Value.int .u8 0, Value.int .u8 0, Value.int .u8 0, Value.int .u8 0, Value.int .u8 0, Value.int .u8 0, Value.int .u8 0] 36)).cell? ⟨b, o + l * 8 + 4, none⟩ = some (.int .u8 (x4.toNat : Int)) := by rw [hB1.cell (p := ⟨b, o + l * 8 + 4, none⟩) hb]; exact hlast 4 _ rfl
 have q5 : ((w.alloc (.cells #[Value.int .u8 0, Value.int .u8 0, Value.int .u8 0, Value.int .u8 0, Value.int .u8 0, Value.int .u8 0, Value.int .u8 0, Value.int .u8 0] 36)).alloc (.cells #[Value.int .u8 0, Value.int .u8 0, Value.int .u8 0, Value.int .u8 0, Value.int .u8 0, Value.int .u8 0, Value.int .u8 0, Value.int .u8 0] 36)).cell? ⟨b, o + l * 8 + 5, none⟩ = some (.int .u8 (x5.toNat : Int)) := by rw [hB0.cell (p := ⟨b, o + l * 8 + 5, none⟩) hb]; exact hlast 5 _ rfl
 have k5 : (((w.alloc (.cells #[Value.int .u8 0, Value.int .u8 0, Value.int .u8 0, Value.int .u8 0, Value.int .u8 0, Value.int .u8 0, Value.int .u8 0, Value.int .u8 0] 36)).alloc (.cells #[Value.int .u8 0, Value.int .u8 0, Value.int .u8 0, Value.int .u8 0, Value.int .u8 0, Value.int .u8 0, Value.int .u8 0, Value.int .u8 0] 36)).alloc (.cells #[Value.int .u8 0, Value.int .u8 0, Value.int .u8 0, Value.int .u8 0, Value.int .u8 0, Value.int .u8 0, Value.int .u8 0, Value.int .u8 0] 36)).cell? ⟨b, o + l * 8 + 5, none⟩ = some (.int .u8 (x5.toNat : Int)) := by rw [hB1.cell (p := ⟨b, o + l * 8 + 5, none⟩) hb]; exact hlast 5 _ rfl
 have q6 : ((w.alloc (.cells #[Value.int .u8 0, Value.int .u8 0, Value.int .u8 0, Value.int .u8 0, Value.int .u8 0, Value.int .u8 0, Value.int .u8 0, Value.int .u8 0] 36)).alloc (.cells #[Value.int .u8 0, Value.int .u8 0, Value.int .u8 0, Value.int .u8 0, Value.int .u8 0, Value.int .u8 0, Value.int .u8 0, Value.int .u8 0] 36)).cell? ⟨b, o + l * 8 + 6, none⟩ = some (.int .u8 (x6.toNat : Int)) := by rw [hB0.cell (p := ⟨b, o + l * 8 + 6, none⟩) hb]; exact hlast 6 _ rfl
 have k6 : (((w.alloc (.cells #[Value.int .u8 0, Value.int .u8 0, Value.int .u8 0, Value.int .u8 0, Value.int .u8 0, Value.int .u8 0, Value.int .u8 0, Value.int .u8 0] 36)).alloc (.cells #[Value.int .u8 0, Value.int .u8 0, Value.int .u8 0, Value.int .u8 0, Value.int .u8 0, Value.int .u8 0, Value.int .u8 0, Value.int .u8 0] 36)).alloc (.cells #[Value.int .u8 0, Value.int .u8 0, Value.int .u8 0, Value.int .u8 0, Value.int .u8 0, Value.int .u8 0, Value.int .u8 0, Value.int .u8 0] 36)).cell? ⟨b, o + l * 8 + 6, none⟩ = some (.int .u8 (x6.toNat : Int)) := by rw [hB1.cell (p := ⟨b, o + l * 8 + 6, none⟩) hb]; exact hlast 6 _ rfl
 have q7 : ((w.alloc (.cells #[Value.int .u8 0, Value.int .u8 0, Value.int .u8 0, Value.int .u8 0, Value.int .u8 0, Value.int .u8 0, Value.int .u8 0, Value.int .u8 0] 36)).alloc (.cells #[Value.int .u8 0, Value.int .u8 0, Value.int .u8 0, Value.int .u8 0, Value.int .u8 0, Value.int .u8 0, Value.int .u8 0, Value.int .u8 0] 36)).cell? ⟨b, o + l * 8 + 7, none⟩ = some (.int .u8 (x7.toNat : Int)) := by rw [hB0.cell (p := ⟨b, o + l * 8 + 7, none⟩) hb]; exact hlast 7 _ rfl
 have k7 : (((w.alloc (.cells #[Value.int .u8 0, Value.int .u8 0, Value.int .u8 0, Value.int .u8 0, Value.int .u8 0, Value.int .u8 0, Value.int .u8 0, Value.int .u8 0] 36)).alloc (.cells #[Value.int .u8 0, Value.int .u8 0, Value.int .u8 0, Value.int .u8 0, Value.int .u8 0, Value.int .u8 0, Value.int .u8 0, Value.int .u8 0] 36)).alloc (.cells #[Value.int .u8 0, Value.int .u8 0, Value.int .u8 0, Value.int .u8 0, Value.int .u8 0, Value.int .u8 0, Value.int .u8 0, Value.int .u8 0] 36)).cell? ⟨b, o + l * 8 + 7, none⟩ = some (.int .u8 (x7.toNat : Int)) := by rw [hB1.cell (p := ⟨b, o + l * 8 + 7, none⟩) hb]; exact hlast 7 _ rfl
 have hmI : ((l + 1 : Nat) : Int) - 1 = (l : Int) := by omega
 have hm0 : (((l + 1 : Nat) : Int) == 0) = false := by rw [Bool.eq_false_iff]; simp only [ne_eq, beq_iff_eq]; omega
 have hmp : ((l + 1 : Nat) : Int) = (l : Int) + 1 := by omega
 have hcI : (cap : Int) ≤ 9223372036854775807 := by omega
 have hlc : (l : Int) < cap := by omega
 have hlI : (l : Int) ≤ 9223372036854775807 := by omega
 have hkc : ¬ cap = l := by omega
 have hwr : IntKind.i64.wrap (l : Int) = (l : Int) := Go.IntWalk.i64_in _ ⟨by omega, by omega⟩
 clear hlast
 have HB1 : Hid (Below w.heap.size w (((w.alloc (.cells #[Value.int .u8 0, Value.int .u8 0, Value.int .u8 0, Value.int .u8 0, Value.int .u8 0, Value.int .u8 0, Value.int .u8 0, Value.int .u8 0] 36)).alloc (.cells #[Value.int .u8 0, Value.int .u8 0, Value.int .u8 0, Value.int .u8 0, Value.int .u8 0, Value.int .u8 0, Value.int .u8 0, Value.int .u8 0] 36)).alloc (.cells #[Value.int .u8 (x0.toNat : Int), Value.int .u8 (x1.toNat : Int), Value.int .u8 (x2.toNat : Int), Value.int .u8 (x3.toNat : Int), Value.int .u8 (x4.toNat : Int), Value.int .u8 (x5.toNat : Int), Value.int .u8 (x6.toNat : Int), Value.int .u8 (x7.toNat : Int)] 36)).drew) := (hB0.alloc hB0.size _).drew
 have hR8 : RowV (((w.alloc (.cells #[Value.int .u8 0, Value.int .u8 0, Value.int .u8 0, Value.int .u8 0, Value.int .u8 0, Value.int .u8 0, Value.int .u8 0, Value.int .u8 0] 36)).alloc (.cells #[Value.int .u8 0, Value.int .u8 0, Value.int .u8 0, Value.int .u8 0, Value.int .u8 0, Value.int .u8 0, Value.int .u8 0, Value.int .u8 0] 36)).alloc (.cells #[Value.int .u8 (x0.toNat : Int), Value.int .u8 (x1.toNat : Int), Value.int .u8 (x2.toNat : Int), Value.int .u8 (x3.toNat : Int), Value.int .u8 (x4.toNat : Int), Value.int .u8 (x5.toNat : Int), Value.int .u8 (x6.toNat : Int), Value.int .u8 (x7.toNat : Int)] 36)) w.heap.size 36 z8 := ((RowV.new_at _ 36 w.heap.size z8 rfl).alloc _).alloc _
 have hR9 : RowV (((w.alloc (.cells #[Value.int .u8 0, Value.int .u8 0, Value.int .u8 0, Value.int .u8 0, Value.int .u8 0, Value.int .u8 0, Value.int .u8 0, Value.int .u8 0] 36)).alloc (.cells #[Value.int .u8 0, Value.int .u8 0, Value.int .u8 0, Value.int .u8 0, Value.int .u8 0, Value.int .u8 0, Value.int .u8 0, Value.int .u8 0] 36)).alloc (.cells #[Value.int .u8 (x0.toNat : Int), Value.int .u8 (x1.toNat : Int), Value.int .u8 (x2.toNat : Int), Value.int .u8 (x3.toNat : Int), Value.int .u8 (x4.toNat : Int), Value.int .u8 (x5.toNat : Int), Value.int .u8 (x6.toNat : Int), Value.int .u8 (x7.toNat : Int)] 36)) (w.heap.size + 1) 36 z8 := (RowV.new_at _ 36 (w.heap.size + 1) z8 (by simp)).alloc _
 have hR12 : RowV (((w.alloc (.cells #[Value.int .u8 0, Value.int .u8 0, Value.int .u8 0, Value.int .u8 0, Value.int .u8 0, Value.int .u8 0, Value.int .u8 0, Value.int .u8 0] 36)).alloc (.cells #[Value.int .u8 0, Value.int .u8 0, Value.int .u8 0, Value.int .u8 0, Value.int .u8 0, Value.int .u8 0, Value.int .u8 0, Value.int .u8 0] 36)).alloc (.cells #[Value.int .u8 (x0.toNat : Int), Value.int .u8 (x1.toNat : Int), Value.int .u8 (x2.toNat : Int), Value.int .u8 (x3.toNat : Int), Value.int .u8 (x4.toNat : Int), Value.int .u8 (x5.toNat : Int), Value.int .u8 (x6.toNat : Int), Value.int .u8 (x7.toNat : Int)] 36)) (w.heap.size + 1 + 1) 36 ([x0, x1, x2, x3, x4, x5, x6, x7].map u8c) := RowV.new_at _ 36 (w.heap.size + 1 + 1) ([x0, x1, x2, x3, x4, x5, x6, x7].map u8c) (by simp)
 have HHF : Hid (∀ w : World, Calls Tryz.prog 128 #[.int .i64 (n : Int)] w fun e w' => e = .returned (.int .i64 (halfN n : Int)) ∧ w' = w) := fun w => first_all n w (by omega) hn
 have hhb := halfN_bd n (by omega)
 have HIH : Hid (∀ W, Below w.heap.size w W → Calls _ _ _ W _) := hIH
 clear hIH
 generalize halfN n = k at *
 have hmi : ((m : Int) == (n : Int)) = false := by rw [Bool.eq_false_iff]; simp only [ne_eq, beq_iff_eq]; omega
 have hnI : (n : Int) ≤ 9223372036854775807 := by omega
 have hmnI : (m : Int) < n := by omega
 have hk1I : (1 : Int) ≤ k := by omega
 have hkI : (m : Int) ≤ k := by omega
 go_enter Tryz.func136, Tryz.ntmps136
 go_wp2
 go_region
 go_wp2_with fail
 refine (HHF.out _).mono ?_
 rintro v w1 ⟨rfl, rfl⟩
 go_wp2_with fail
 refine (HIH.out _ (by exact HB1.out)).mono ?_
 rintro v w3 ⟨⟨a, c, ha, hc', rfl, hO⟩, hb3⟩
 have HB3 : Hid (Below w.heap.size w w3) := HB1.out.trans (hb3.mono HB1.out.size)
 have R8 : RowV w3 w.heap.size 36 z8 := RowV.past hb3 (by exact hR8)
 have R9 : RowV w3 (w.heap.size + 1) 36 z8 := RowV.past hb3 (by exact hR9)
 have R12 : RowV w3 (w.heap.size + 1 + 1) 36 ([x0, x1, x2, x3, x4, x5, x6, x7].map u8c) := RowV.past hb3 (by exact hR12)
 have hl12 := R12.lt
 clear hb3 hR8 hR9 hR12 hB0 hB1 q0 k0 q1 k1 q2 k2 q3 k3 q4 k4 q5 k5 q6 k6 q7 k7
 go_wp2_with (first
  | (refine wp_storeD (by rfl) (.tmp 8) (.tmp 65) (by rfl) w.heap.size (by rfl) a ha (by rfl) R8 (by rfl) ?_; intro w4 A8 hf4 hz4; have A9 : RowV w4 (w.heap.size + 1) 36 z8 := R9.of_block (hf4.block _ R9.lt (fun e => by omega)); have A12 : RowV w4 (w.heap.size + 1 + 1) 36 ([x0, x1, x2, x3, x4, x5, x6, x7].map u8c) := R12.of_block (hf4.block _ R12.lt (fun e => by omega)); have HB4 : Hid (Below w.heap.size w w4) := HB3.out.trans (hf4.below HB3.out.size (fun k hk => by omega)))
  | (refine wp_storeD (by rfl) (.tmp 9) (.tmp 66) (by rfl) (w.heap.size + 1) (by rfl) c hc' (by rfl) A9 (by rfl) ?_; intro w5 S9 hf5 hz5; have S8 : RowV w5 w.heap.size 36 (a.map u8c) := A8.of_block (hf5.block _ A8.lt (fun e => by omega)); have S12 : RowV w5 (w.heap.size + 1 + 1) 36 ([x0, x1, x2, x3, x4, x5, x6, x7].map u8c) := A12.of_block (hf5.block _ A12.lt (fun e => by omega)); have HB5 : Hid (Below w.heap.size w w5) := HB4.out.trans (hf5.below HB4.out.size (fun k hk => by omega))))
 clear R8 R9 R12 A8 A9 A12 hf4 hf5 hz4 hz5 hl12
 obtain ⟨a0, a1, a2, a3, a4, a5, a6, a7, rfl⟩ := list8 a ha
 obtain ⟨c0, c1, c2, c3, c4, c5, c6, c7, rfl⟩ := list8 c hc'
 have HO : Hid (∀ q, O = some q → q = ([a0, a1, a2, a3, a4, a5, a6, a7], [c0, c1, c2, c3, c4, c5, c6, c7])) := hO
 have HNE : Hid (w.heap.size ≠ (w.heap.size + 1)) := by unfold Hid; omega
 have xa0 : w5.cell? ⟨w.heap.size, 0, none⟩ = some (.int .u8 (a0.toNat : Int)) := RowV.cell? S8 0
 have xc0 : w5.cell? ⟨w.heap.size + 1, 0, none⟩ = some (.int .u8 (c0.toNat : Int)) := RowV.cell? S9 0
 have xx0 : w5.cell? ⟨w.heap.size + 1 + 1, 0, none⟩ = some (.int .u8 (x0.toNat : Int)) := RowV.cell? S12 0
 have xa1 : w5.cell? ⟨w.heap.size, 1, none⟩ = some (.int .u8 (a1.toNat : Int)) := RowV.cell? S8 1
 have xc1 : w5.cell? ⟨w.heap.size + 1, 1, none⟩ = some (.int .u8 (c1.toNat : Int)) := RowV.cell? S9 1
 have xx1 : w5.cell? ⟨w.heap.size + 1 + 1, 1, none⟩ = some (.int .u8 (x1.toNat : Int)) := RowV.cell? S12 1
 have xa2 : w5.cell? ⟨w.heap.size, 2, none⟩ = some (.int .u8 (a2.toNat : Int)) := RowV.cell? S8 2
 have xc2 : w5.cell? ⟨w.heap.size + 1, 2, none⟩ = some (.int .u8 (c2.toNat : Int)) := RowV.cell? S9 2
 have xx2 : w5.cell? ⟨w.heap.size + 1 + 1, 2, none⟩ = some (.int .u8 (x2.toNat : Int)) := RowV.cell? S12 2
 have xa3 : w5.cell? ⟨w.heap.size, 3, none⟩ = some (.int .u8 (a3.toNat : Int)) := RowV.cell? S8 3
 have xc3 : w5.cell? ⟨w.heap.size + 1, 3, none⟩ = some (.int .u8 (c3.toNat : Int)) := RowV.cell? S9 3
 have xx3 : w5.cell? ⟨w.heap.size + 1 + 1, 3, none⟩ = some (.int .u8 (x3.toNat : Int)) := RowV.cell? S12 3
 have xa4 : w5.cell? ⟨w.heap.size, 4, none⟩ = some (.int .u8 (a4.toNat : Int)) := RowV.cell? S8 4
 have xc4 : w5.cell? ⟨w.heap.size + 1, 4, none⟩ = some (.int .u8 (c4.toNat : Int)) := RowV.cell? S9 4
 have xx4 : w5.cell? ⟨w.heap.size + 1 + 1, 4, none⟩ = some (.int .u8 (x4.toNat : Int)) := RowV.cell? S12 4
 have xa5 : w5.cell? ⟨w.heap.size, 5, none⟩ = some (.int .u8 (a5.toNat : Int)) := RowV.cell? S8 5
 have xc5 : w5.cell? ⟨w.heap.size + 1, 5, none⟩ = some (.int .u8 (c5.toNat : Int)) := RowV.cell? S9 5
 have xx5 : w5.cell? ⟨w.heap.size + 1 + 1, 5, none⟩ = some (.int .u8 (x5.toNat : Int)) := RowV.cell? S12 5
 have xa6 : w5.cell? ⟨w.heap.size, 6, none⟩ = some (.int .u8 (a6.toNat : Int)) := RowV.cell? S8 6
 have xc6 : w5.cell? ⟨w.heap.size + 1, 6, none⟩ = some (.int .u8 (c6.toNat : Int)) := RowV.cell? S9 6
 have xx6 : w5.cell? ⟨w.heap.size + 1 + 1, 6, none⟩ = some (.int .u8 (x6.toNat : Int)) := RowV.cell? S12 6
 have xa7 : w5.cell? ⟨w.heap.size, 7, none⟩ = some (.int .u8 (a7.toNat : Int)) := RowV.cell? S8 7
 have xc7 : w5.cell? ⟨w.heap.size + 1, 7, none⟩ = some (.int .u8 (c7.toNat : Int)) := RowV.cell? S9 7
 have xx7 : w5.cell? ⟨w.heap.size + 1 + 1, 7, none⟩ = some (.int .u8 (x7.toNat : Int)) := RowV.cell? S12 7
 obtain ⟨d0, d1, d2, d3, d4, d5, d6, d7, hdd⟩ := list8 (digB (1 :: ([c0, c1, c2, c3, c4, c5, c6, c7] ++ [x0, x1, x2, x3, x4, x5, x6, x7]))) (digB_length _)
 have HDD : Hid (digB (1 :: ([c0, c1, c2, c3, c4, c5, c6, c7] ++ [x0, x1, x2, x3, x4, x5, x6, x7])) = [d0, d1, d2, d3, d4, d5, d6, d7]) := hdd
 have HV : Hid (dV [d0, d1, d2, d3, d4, d5, d6, d7] = .agg #[Value.int .u8 (d0.toNat : Int), Value.int .u8 (d1.toNat : Int), Value.int .u8 (d2.toNat : Int), Value.int .u8 (d3.toNat : Int), Value.int .u8 (d4.toNat : Int), Value.int .u8 (d5.toNat : Int), Value.int .u8 (d6.toNat : Int), Value.int .u8 (d7.toNat : Int)]) := rfl
 clear hdd hO
 go_region_with (go_at_call 143; refine (sumTwo_any [c0, c1, c2, c3, c4, c5, c6, c7] [x0, x1, x2, x3, x4, x5, x6, x7] _ rfl rfl).mono ?_; rintro e w6 ⟨rfl, hb6⟩; rw [HDD.out, HV.out]; have P8 : RowV w6 w.heap.size 36 ([a0, a1, a2, a3, a4, a5, a6, a7].map u8c) := RowV.past hb6 (by exact S8); have P9 : RowV w6 (w.heap.size + 1) 36 ([c0, c1, c2, c3, c4, c5, c6, c7].map u8c) := RowV.past hb6 (by exact S9); have P12 : RowV w6 (w.heap.size + 1 + 1) 36 ([x0, x1, x2, x3, x4, x5, x6, x7].map u8c) := RowV.past hb6 (by exact S12); have HB6 : Hid (Below w.heap.size w w6) := HB5.out.trans (by have hq := hb6.mono HB5.out.size; exact ⟨hq.os, hq.tape, hq.output, hq.size, hq.block⟩); clear xa0 xc0 xx0 xa1 xc1 xx1 xa2 xc2 xx2 xa3 xc3 xx3 xa4 xc4 xx4 xa5 xc5 xx5 xa6 xc6 xx6 xa7 xc7 xx7 S8 S9 S12; have ya0 : w6.cell? ⟨w.heap.size, 0, none⟩ = some (.int .u8 (a0.toNat : Int)) := RowV.cell? P8 0; have yc0 : w6.cell? ⟨w.heap.size + 1, 0, none⟩ = some (.int .u8 (c0.toNat : Int)) := RowV.cell? P9 0; have yf0 : w6.frozen? ⟨w.heap.size, 0, none⟩ = false := RowV.frozen P8 0; have yg0 : w6.frozen? ⟨w.heap.size + 1, 0, none⟩ = false := RowV.frozen P9 0; have ya1 : w6.cell? ⟨w.heap.size, 1, none⟩ = some (.int .u8 (a1.toNat : Int)) := RowV.cell? P8 1; have yc1 : w6.cell? ⟨w.heap.size + 1, 1, none⟩ = some (.int .u8 (c1.toNat : Int)) := RowV.cell? P9 1; have yf1 : w6.frozen? ⟨w.heap.size, 1, none⟩ = false := RowV.frozen P8 1; have yg1 : w6.frozen? ⟨w.heap.size + 1, 1, none⟩ = false := RowV.frozen P9 1; have ya2 : w6.cell? ⟨w.heap.size, 2, none⟩ = some (.int .u8 (a2.toNat : Int)) := RowV.cell? P8 2; have yc2 : w6.cell? ⟨w.heap.size + 1, 2, none⟩ = some (.int .u8 (c2.toNat : Int)) := RowV.cell? P9 2; have yf2 : w6.frozen? ⟨w.heap.size, 2, none⟩ = false := RowV.frozen P8 2; have yg2 : w6.frozen? ⟨w.heap.size + 1, 2, none⟩ = false := RowV.frozen P9 2; have ya3 : w6.cell? ⟨w.heap.size, 3, none⟩ = some (.int .u8 (a3.toNat : Int)) := RowV.cell? P8 3; have yc3 : w6.cell? ⟨w.heap.size + 1, 3, none⟩ = some (.int .u8 (c3.toNat : Int)) := RowV.cell? P9 3; have yf3 : w6.frozen? ⟨w.heap.size, 3, none⟩ = false := RowV.frozen P8 3; have yg3 : w6.frozen? ⟨w.heap.size + 1, 3, none⟩ = false := RowV.frozen P9 3; have ya4 : w6.cell? ⟨w.heap.size, 4, none⟩ = some (.int .u8 (a4.toNat : Int)) := RowV.cell? P8 4; have yc4 : w6.cell? ⟨w.heap.size + 1, 4, none⟩ = some (.int .u8 (c4.toNat : Int)) := RowV.cell? P9 4; have yf4 : w6.frozen? ⟨w.heap.size, 4, none⟩ = false := RowV.frozen P8 4; have yg4 : w6.frozen? ⟨w.heap.size + 1, 4, none⟩ = false := RowV.frozen P9 4; have ya5 : w6.cell? ⟨w.heap.size, 5, none⟩ = some (.int .u8 (a5.toNat : Int)) := RowV.cell? P8 5; have yc5 : w6.cell? ⟨w.heap.size + 1, 5, none⟩ = some (.int .u8 (c5.toNat : Int)) := RowV.cell? P9 5; have yf5 : w6.frozen? ⟨w.heap.size, 5, none⟩ = false := RowV.frozen P8 5; have yg5 : w6.frozen? ⟨w.heap.size + 1, 5, none⟩ = false := RowV.frozen P9 5; have ya6 : w6.cell? ⟨w.heap.size, 6, none⟩ = some (.int .u8 (a6.toNat : Int)) := RowV.cell? P8 6; have yc6 : w6.cell? ⟨w.heap.size + 1, 6, none⟩ = some (.int .u8 (c6.toNat : Int)) := RowV.cell? P9 6; have yf6 : w6.frozen? ⟨w.heap.size, 6, none⟩ = false := RowV.frozen P8 6; have yg6 : w6.frozen? ⟨w.heap.size + 1, 6, none⟩ = false := RowV.frozen P9 6; have ya7 : w6.cell? ⟨w.heap.size, 7, none⟩ = some (.int .u8 (a7.toNat : Int)) := RowV.cell? P8 7; have yc7 : w6.cell? ⟨w.heap.size + 1, 7, none⟩ = some (.int .u8 (c7.toNat : Int)) := RowV.cell? P9 7; have yf7 : w6.frozen? ⟨w.heap.size, 7, none⟩ = false := RowV.frozen P8 7; have yg7 : w6.frozen? ⟨w.heap.size + 1, 7, none⟩ = false := RowV.frozen P9 7)
 all_goals
  go_wp2
  refine ret_dig3 (k := 8) (k' := 9) (j := 10) (d := [a0, a1, a2, a3, a4, a5, a6, a7]) (d' := [d0, d1, d2, d3, d4, d5, d6, d7]) rfl rfl rfl ?_ rfl ?_ rfl rfl rfl ⟨⟨[a0, a1, a2, a3, a4, a5, a6, a7], [d0, d1, d2, d3, d4, d5, d6, d7], rfl, rfl, ?_, ?_⟩, ?_⟩
  ·exact RowV.other8 HNE.out (RowV.own8 (by exact P8))
  ·exact RowV.own8 (RowV.other8 (Ne.symm HNE.out) (by exact P9))
  ·rw [Option.isSome_map]; rfl
  ·intro q hq
   cases hOO : O with
   | none => rw [hOO] at hq; cases hq
   | some q' =>
    rw [hOO] at hq
    have := HO.out q' hOO
    subst this
    simp only [Option.map_some, Option.some.injEq] at hq
    rw [← hq]; exact Prod.ext rfl HDD.out
  ·exact Below.set8 (Below.set8 HB6.out (by omega)) (by omega)
end Go.Proofs.YtekegfbjbainhaaGreat
