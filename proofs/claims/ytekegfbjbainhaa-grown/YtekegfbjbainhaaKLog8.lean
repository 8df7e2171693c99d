
import Derived.Test.YtekegfbjbainhaaKLog6
import Derived.Test.YtekegfbjbainhaaKJoin17
set_option linter.unusedVariables false
set_option linter.unusedSimpArgs false
namespace Go.Proofs.Ytekegfbjbainhaa
open Go.RowKit
attribute [local go_sem ↓] Go.wp_at_zero Go.wp_at_succ
theorem wpO_storeD {o : Oper} {a : Act} {w : World} {K : Act → World → Prop} {Q : Exit → Act → World → Prop} (x y : Operand) (ho : o.op = .store 45 x y)
  (b : Nat) (hx : a.eval x = .pointer (some ⟨b, 0, none⟩)) (d : List UInt8) (hd : d.length = 8) (hy : a.eval y = dV d) {l : List Value} (hR : RowV w b 45 l) (hl : l.length = 8)
  (h : ∀ w', RowV w' b 45 (d.map u8c) → Frame (fun k => k = b) w w' → w'.heap.size = w.heap.size → K (a.put o.dst undef) w') : o.wp Try.prog a w K Q := by
 refine wp_store_mid 45 x y ho b 0 (d.map u8c).toArray hx hy (by simpa [hd] using hR.there 8 hl.symm) (by simpa [hd] using Try.infoDig) (all_oneCell_toArray (u8c_one d)) ?_
 exact h _ (hR.setAll _ (by simp [hd, hl])) (Frame.setCells (S := fun k => k = b) rfl _ _ _ (Frame.refl _ _)) (size_setCells _ _ _ _)
set_option maxRecDepth 100000 in
set_option maxHeartbeats 4000000 in
theorem sums_gt (l m n b o : Nat) (po : Option Addr) (x : List UInt8) (O : Option (List UInt8 × List UInt8)) (cap : Nat) (w : World) (hx : x.length = 8) (hb : b < w.heap.size) (hl : l + 1 ≤ cap) (hc : cap ≤ 9223372036854775807) (hlast : w.rangeAt b (o + l * 8) (x.map u8c)) (hm1 : 1 ≤ m) (hmn : m < n) (hn : n ≤ 9223372036854775807) (hk : halfN n < m)
  (hIH : ∀ W, Below w.heap.size w W → Calls Try.prog 70 #[.int .i64 ((m - halfN n : Nat) : Int), .int .i64 ((n - halfN n : Nat) : Int), .pointer none, .slice (some ⟨b, o, none⟩) l cap] W fun v w' => bothV O v ∧ Below W.heap.size W w') :
  Calls Try.prog 70 #[.int .i64 (m : Int), .int .i64 (n : Int), .pointer po, .slice (some ⟨b, o, none⟩) (l + 1) cap] w fun v w' => bothV (O.map (fun q => (digB (1 :: (x ++ q.1)), digB (1 :: (x ++ q.2))))) v ∧ Below w.heap.size w w' := by
 obtain ⟨x0, x1, x2, x3, x4, x5, x6, x7, rfl⟩ := list8 x hx
 have hB0 : Below w.heap.size w ((w.alloc (.cells #[Value.int .u8 0, Value.int .u8 0, Value.int .u8 0, Value.int .u8 0, Value.int .u8 0, Value.int .u8 0, Value.int .u8 0, Value.int .u8 0] 45)).alloc (.cells #[Value.int .u8 0, Value.int .u8 0, Value.int .u8 0, Value.int .u8 0, Value.int .u8 0, Value.int .u8 0, Value.int .u8 0, Value.int .u8 0] 45)) := ((Below.refl _ _).alloc (Nat.le_refl _) _).alloc (by simp) _
 have hB1 : Below w.heap.size w (((w.alloc (.cells #[Value.int .u8 0, Value.int .u8 0, Value.int .u8 0, Value.int .u8 0, Value.int .u8 0, Value.int .u8 0, Value.int .u8 0, Value.int .u8 0] 45)).alloc (.cells #[Value.int .u8 0, Value.int .u8 0, Value.int .u8 0, Value.int .u8 0, Value.int .u8 0, Value.int .u8 0, Value.int .u8 0, Value.int .u8 0] 45)).alloc (.cells #[Value.int .u8 0, Value.int .u8 0, Value.int .u8 0, Value.int .u8 0, Value.int .u8 0, Value.int .u8 0, Value.int .u8 0, Value.int .u8 0] 45)) := hB0.alloc hB0.size _
 have q0 : ((w.alloc (.cells #[Value.int .u8 0, Value.int .u8 0, Value.int .u8 0, Value.int .u8 0, Value.int .u8 0, Value.int .u8 0, Value.int .u8 0, Value.int .u8 0] 45)).alloc (.cells #[Value.int .u8 0, Value.int .u8 0, Value.int .u8 0, Value.int .u8 0, Value.int .u8 0, Value.int .u8 0, Value.int .u8 0, Value.int .u8 0] 45)).cell? ⟨b, o + l * 8, none⟩ = some (.int .u8 (x0.toNat : Int)) := by rw [hB0.cell (p := ⟨b, o + l * 8, none⟩) hb]; exact hlast 0 _ rfl
 have k0 : (((w.alloc (.cells #[Value.int .u8 0, Value.int .u8 0, Value.int .u8 0, Value.int .u8 0, Value.int .u8 0, Value.int .u8 0, Value.int .u8 0, Value.int .u8 0] 45)).alloc (.cells #[Value.int .u8 0, Value.int .u8 0, Value.int .u8 0, Value.int .u8 0, Value.int .u8 0, Value.int .u8 0, Value.int .u8 0, Value.int .u8 0] 45)).alloc (.cells #[Value.int .u8 0, Value.int .u8 0, Value.int .u8 0, Value.int .u8 0, Value.int .u8 0, Value.int .u8 0, Value.int .u8 0, Value.int .u8 0] 45)).cell? ⟨b, o + l * 8, none⟩ = some (.int .u8 (x0.toNat : Int)) := by rw [hB1.cell (p := ⟨b, o + l * 8, none⟩) hb]; exact hlast 0 _ rfl
 have q1 : ((w.alloc (.cells #[Value.int .u8 0, Value.int .u8 0, Value.int .u8 0, Value.int .u8 0, Value.int .u8 0, Value.int .u8 0, Value.int .u8 0, Value.int .u8 0] 45)).alloc (.cells #[Value.int .u8 0, Value.int .u8 0, Value.int .u8 0, Value.int .u8 0, Value.int .u8 0, Value.int .u8 0, Value.int .u8 0, Value.int .u8 0] 45)).cell? ⟨b, o + l * 8 + 1, none⟩ = some (.int .u8 (x1.toNat : Int)) := by rw [hB0.cell (p := ⟨b, o + l * 8 + 1, none⟩) hb]; exact hlast 1 _ rfl
 have k1 : (((w.alloc (.cells #[Value.int .u8 0, Value.int .u8 0, Value.int .u8 0, Value.int .u8 0, Value.int .u8 0, Value.int .u8 0, Value.int .u8 0, Value.int .u8 0] 45)).alloc (.cells #[Value.int .u8 0, Value.int .u8 0, Value.int .u8 0, Value.int .u8 0, Value.int .u8 0, Value.int .u8 0, Value.int .u8 0, Value.int .u8 0] 45)).alloc (.cells #[Value.int .u8 0, Value.int .u8 0, Value.int .u8 0, Value.int .u8 0, Value.int .u8 0, Value.int .u8 0, Value.int .u8 0, Value.int .u8 0] 45)).cell? ⟨b, o + l * 8 + 1, none⟩ = some (.int .u8 (x1.toNat : Int)) := by rw [hB1.cell (p := ⟨b, o + l * 8 + 1, none⟩) hb]; exact hlast 1 _ rfl
 have q2 : ((w.alloc (.cells #[Value.int .u8 0, Value.int .u8 0, Value.int .u8 0, Value.int .u8 0, Value.int .u8 0, Value.int .u8 0, Value.int .u8 0, Value.int .u8 0] 45)).alloc (.cells #[Value.int .u8 0, Value.int .u8 0, Value.int .u8 0, Value.int .u8 0, Value.int .u8 0, Value.int .u8 0, Value.int .u8 0, Value.int .u8 0] 45)).cell? ⟨b, o + l * 8 + 2, none⟩ = some (.int .u8 (x2.toNat : Int)) := by rw [hB0.cell (p := ⟨b, o + l * 8 + 2, none⟩) hb]; exact hlast 2 _ rfl
 have k2 : (((w.alloc (.cells #[Value.int .u8 0, Value.int .u8 0, Value.int .u8 0, Value.int .u8 0, Value.int .u8 0, Value.int .u8 0, Value.int .u8 0, Value.int .u8 0] 45)).alloc (.cells #[Value.int .u8 0, Value.int .u8 0, Value.int .u8 0, Value.int .u8 0, Value.int .u8 0, Value.int .u8 0, Value.int .u8 0, Value.int .u8 0] 45)).alloc (.cells #[Value.int .u8 0, Value.int .u8 0, Value.int .u8 0, Value.int .u8 0, Value.int .u8 0, Value.int .u8 0, Value.int .u8 0, Value.int .u8 0] 45)).cell? ⟨b, o + l * 8 + 2, none⟩ = some (.int .u8 (x2.toNat : Int)) := by rw [hB1.cell (p := ⟨b, o + l * 8 + 2, none⟩) hb]; exact hlast 2 _ rfl
 have q3 : ((w.alloc (.cells #[Value.int .u8 0, Value.int .u8 0, Value.int .u8 0, Value.int .u8 0, Value.int .u8 0, Value.int .u8 0, Value.int .u8 0, Value.int .u8 0] 45)).alloc (.cells #[Value.int .u8 0, Value.int .u8 0, Value.int .u8 0, Value.int .u8 0, Value.int .u8 0, Value.int .u8 0, Value.int .u8 0, Value.int .u8 0] 45)).cell? ⟨b, o + l * 8 + 3, none⟩ = some (.int .u8 (x3.toNat : Int)) := by rw [hB0.cell (p := ⟨b, o + l * 8 + 3, none⟩) hb]; exact hlast 3 _ rfl
 have k3 : (((w.alloc (.cells #[Value.int .u8 0, Value.int .u8 0, Value.int .u8 0, Value.int .u8 0, Value.int .u8 0, Value.int .u8 0, Value.int .u8 0, Value.int .u8 0] 45)).alloc (.cells #[Value.int .u8 0, Value.int .u8 0, Value.int .u8 0, Value.int .u8 0, Value.int .u8 0, Value.int .u8 0, Value.int .u8 0, Value.int .u8 0] 45)).alloc (.cells #[Value.int .u8 0, Value.int .u8 0, Value.int .u8 0, Value.int .u8 0, Value.int .u8 0, Value.int .u8 0, Value.int .u8 0, Value.int .u8 0] 45)).cell? ⟨b, o + l * 8 + 3, none⟩ = some (.int .u8 (x3.toNat : Int)) := by rw [hB1.cell (p := ⟨b, o + l * 8 + 3, none⟩) hb]; exact hlast 3 _ rfl
 have q4 : ((w.alloc (.cells #[Value.int .u8 0, Value.int .u8 0, Value.int .u8 0, Value.int .u8 0, Value.int .u8 0, Value.int .u8 0, Value.int .u8 0, Value.int .u8 0] 45)).alloc (.cells #[Value.int .u8 0, Value.int .u8 0, Value.int .u8 0, Value.int .u8 0, Value.int .u8 0, Value.int .u8 0, Value.int .u8 0, Value.int .u8 0] 45)).cell? ⟨b, o + l * 8 + 4, none⟩ = some (.int .u8 (x4.toNat : Int)) := by rw [hB0.cell (p := ⟨b, o + l * 8 + 4, none⟩) hb]; exact hlast 4 _ rfl
 have k4 : (((w.alloc (.cells #[Value.int .u8 0, Value.int .u8 0, Value.int .u8 0, Value.int .u8 0, Value.int .u8 0, Value.int .u8 0, Value.int .u8 0, Value.int .u8 0] 45)).alloc (.cells #[Value.int .u8 0, Value.int .u8 0, Value.int .u8 0, Value.int .u8 0, Value.int .u8 0, Value.int .u8 0, Value.int .u8 0, Value.int .u8 0] 45)).alloc (.cells #[Value.int .u8 0, Value.int .u8 0, Value.int .u8 0, Value.int .u8 0, Value.int .u8 0, Value.int .u8 0, Value.int .u8 0, Value.int .u8 0] 45)).cell? ⟨b, o + l * 8 + 4, none⟩ = some (.int .u8 (x4.toNat : Int)) := by rw [hB1.cell (p := ⟨b, o + l * 8 + 4, none⟩) hb]; exact hlast 4 _ rfl
 have q5 : ((w.alloc (.cells #[Value.int .u8 0, Value.int .u8 0, Value.int .u8 0, Value.int .u8 0, Value.int .u8 0, Value.int .u8 0, Value.int .u8 0, Value.int .u8 0] 45)).alloc (.cells #[Value.int .u8 0, Value.int .u8 0, Value.int .u8 0, Value.int .u8 0, Value.int .u8 0, Value.int .u8 0, Value.int .u8 0, Value.int .u8 0] 45)).cell? ⟨b, o + l * 8 + 5, none⟩ = some (.int .u8 (x5.toNat : Int)) := by rw [hB0.cell (p := ⟨b, o + l * 8 + 5, none⟩) hb]; exact hlast 5 _ rfl
 have k5 : (((w.alloc (.cells #[Value.int .u8 0, Value.int .u8 0, Value.int .u8 0, Value.int .u8 0, Value.int .u8 0, Value.int .u8 0, Value.int .u8 0, Value.int .u8 0] 45)).alloc (.cells #[Value.int .u8 0, Value.int .u8 0, Value.int .u8 0, Value.int .u8 0, Value.int .u8 0, Value.int .u8 0, Value.int .u8 0, Value.int .u8 0] 45)).alloc (.cells #[Value.int .u8 0, Value.int .u8 0, Value.int .u8 0, Value.int .u8 0, Value.int .u8 0, Value.int .u8 0, Value.int .u8 0, Value.int .u8 0] 45)).cell? ⟨b, o + l * 8 + 5, none⟩ = some (.int .u8 (x5.toNat : Int)) := by rw [hB1.cell (p := ⟨b, o + l * 8 + 5, none⟩) hb]; exact hlast 5 _ rfl
 have q6 : ((w.alloc (.cells #[Value.int .u8 0, Value.int .u8 0, Value.int .u8 0, Value.int .u8 0, Value.int .u8 0, Value.int .u8 0, Value.int .u8 0, Value.int .u8 0] 45)).alloc (.cells #[Value.int .u8 0, Value.int .u8 0, Value.int .u8 0, Value.int .u8 0, Value.int .u8 0, Value.int .u8 0, Value.int .u8 0, Value.int .u8 0] 45)).cell? ⟨b, o + l * 8 + 6, none⟩ = some (.int .u8 (x6.toNat : Int)) := by rw [hB0.cell (p := ⟨b, o + l * 8 + 6, none⟩) hb]; exact hlast 6 _ rfl
 have k6 : (((w.alloc (.cells #[Value.int .u8 0, Value.int .u8 0, Value.int .u8 0, Value.int .u8 0, Value.int .u8 0, Value.int .u8 0, Value.int .u8 0, Value.int .u8 0] 45)).alloc (.cells #[Value.int .u8 0, Value.int .u8 0, Value.int .u8 0, Value.int .u8 0, Value.int .u8 0, Value.int .u8 0, Value.int .u8 0, Value.int .u8 0] 45)).alloc (.cells #[Value.int .u8 0, Value.int .u8 0, Value.int .u8 0, Value.int .u8 0, Value.int .u8 0, Value.int .u8 0, Value.int .u8 0, Value.int .u8 0] 45)).cell? ⟨b, o + l * 8 + 6, none⟩ = some (.int .u8 (x6.toNat : Int)) := by rw [hB1.cell (p := ⟨b, o + l * 8 + 6, none⟩) hb]; exact hlast 6 _ rfl
 have q7 : ((w.alloc (.cells #[Value.int .u8 0, Value.int .u8 0, Value.int .u8 0, Value.int .u8 0, Value.int .u8 0, Value.int .u8 0, Value.int .u8 0, Value.int .u8 0] 45)).alloc (.cells #[Value.int .u8 0, Value.int .u8 0, Value.int .u8 0, Value.int .u8 0, Value.int .u8 0, Value.int .u8 0, Value.int .u8 0, Value.int .u8 0] 45)).cell? ⟨b, o + l * 8 + 7, none⟩ = some (.int .u8 (x7.toNat : Int)) := by rw [hB0.cell (p := ⟨b, o + l * 8 + 7, none⟩) hb]; exact hlast 7 _ rfl
 have k7 : (((w.alloc (.cells #[Value.int .u8 0, Value.int .u8 0, Value.int .u8 0, Value.int .u8 0, Value.int .u8 0, Value.int .u8 0, Value.int .u8 0, Value.int .u8 0] 45)).alloc (.cells #[Value.int .u8 0, Value.int .u8 0, Value.int .u8 0, Value.int .u8 0, Value.int .u8 0, Value.int .u8 0, Value.int .u8 0, Value.int .u8 0] 45)).alloc (.cells #[Value.int .u8 0, Value.int .u8 0, Value.int .u8 0, Value.int .u8 0, Value.int .u8 0, Value.int .u8 0, Value.int .u8 0, Value.int .u8 0] 45)).cell? ⟨b, o + l * 8 + 7, none⟩ = some (.int .u8 (x7.toNat : Int)) := by rw [hB1.cell (p := ⟨b, o + l * 8 + 7, none⟩) hb]; exact hlast 7 _ rfl
 have hmI : ((l + 1 : Nat) : Int) - 1 = (l : Int) := by omega
 have hm0 : (((l + 1 : Nat) : Int) == 0) = false := by rw [Bool.eq_false_iff]; simp only [ne_eq, beq_iff_eq]; omega
 have hmp : ((l + 1 : Nat) : Int) = (l : Int) + 1 := by omega
 have hcI : (cap : Int) ≤ 9223372036854775807 := by omega
 have hlc : (l : Int) < cap := by omega
 have hlI : (l : Int) ≤ 9223372036854775807 := by omega
 have hkc : ¬ cap = l := by omega
 have hwr : IntKind.i64.wrap (l : Int) = (l : Int) := Go.IntWalk.i64_in _ ⟨by omega, by omega⟩
 clear hlast
 have HB1 : Hid (Below w.heap.size w (((w.alloc (.cells #[Value.int .u8 0, Value.int .u8 0, Value.int .u8 0, Value.int .u8 0, Value.int .u8 0, Value.int .u8 0, Value.int .u8 0, Value.int .u8 0] 45)).alloc (.cells #[Value.int .u8 0, Value.int .u8 0, Value.int .u8 0, Value.int .u8 0, Value.int .u8 0, Value.int .u8 0, Value.int .u8 0, Value.int .u8 0] 45)).alloc (.cells #[Value.int .u8 (x0.toNat : Int), Value.int .u8 (x1.toNat : Int), Value.int .u8 (x2.toNat : Int), Value.int .u8 (x3.toNat : Int), Value.int .u8 (x4.toNat : Int), Value.int .u8 (x5.toNat : Int), Value.int .u8 (x6.toNat : Int), Value.int .u8 (x7.toNat : Int)] 45)).drew) := (hB0.alloc hB0.size _).drew
 have hR8 : RowV (((w.alloc (.cells #[Value.int .u8 0, Value.int .u8 0, Value.int .u8 0, Value.int .u8 0, Value.int .u8 0, Value.int .u8 0, Value.int .u8 0, Value.int .u8 0] 45)).alloc (.cells #[Value.int .u8 0, Value.int .u8 0, Value.int .u8 0, Value.int .u8 0, Value.int .u8 0, Value.int .u8 0, Value.int .u8 0, Value.int .u8 0] 45)).alloc (.cells #[Value.int .u8 (x0.toNat : Int), Value.int .u8 (x1.toNat : Int), Value.int .u8 (x2.toNat : Int), Value.int .u8 (x3.toNat : Int), Value.int .u8 (x4.toNat : Int), Value.int .u8 (x5.toNat : Int), Value.int .u8 (x6.toNat : Int), Value.int .u8 (x7.toNat : Int)] 45)) w.heap.size 45 z8 := ((RowV.new_at _ 45 w.heap.size z8 rfl).alloc _).alloc _
 have hR9 : RowV (((w.alloc (.cells #[Value.int .u8 0, Value.int .u8 0, Value.int .u8 0, Value.int .u8 0, Value.int .u8 0, Value.int .u8 0, Value.int .u8 0, Value.int .u8 0] 45)).alloc (.cells #[Value.int .u8 0, Value.int .u8 0, Value.int .u8 0, Value.int .u8 0, Value.int .u8 0, Value.int .u8 0, Value.int .u8 0, Value.int .u8 0] 45)).alloc (.cells #[Value.int .u8 (x0.toNat : Int), Value.int .u8 (x1.toNat : Int), Value.int .u8 (x2.toNat : Int), Value.int .u8 (x3.toNat : Int), Value.int .u8 (x4.toNat : Int), Value.int .u8 (x5.toNat : Int), Value.int .u8 (x6.toNat : Int), Value.int .u8 (x7.toNat : Int)] 45)) (w.heap.size + 1) 45 z8 := (RowV.new_at _ 45 (w.heap.size + 1) z8 (by simp)).alloc _
 have hR12 : RowV (((w.alloc (.cells #[Value.int .u8 0, Value.int .u8 0, Value.int .u8 0, Value.int .u8 0, Value.int .u8 0, Value.int .u8 0, Value.int .u8 0, Value.int .u8 0] 45)).alloc (.cells #[Value.int .u8 0, Value.int .u8 0, Value.int .u8 0, Value.int .u8 0, Value.int .u8 0, Value.int .u8 0, Value.int .u8 0, Value.int .u8 0] 45)).alloc (.cells #[Value.int .u8 (x0.toNat : Int), Value.int .u8 (x1.toNat : Int), Value.int .u8 (x2.toNat : Int), Value.int .u8 (x3.toNat : Int), Value.int .u8 (x4.toNat : Int), Value.int .u8 (x5.toNat : Int), Value.int .u8 (x6.toNat : Int), Value.int .u8 (x7.toNat : Int)] 45)) (w.heap.size + 1 + 1) 45 ([x0, x1, x2, x3, x4, x5, x6, x7].map u8c) := RowV.new_at _ 45 (w.heap.size + 1 + 1) ([x0, x1, x2, x3, x4, x5, x6, x7].map u8c) (by simp)
 have HHF : Hid (∀ w : World, Calls Try.prog 66 #[.int .i64 (n : Int)] w fun e w' => e = .returned (.int .i64 (halfN n : Int)) ∧ w' = w) := fun w => first_all n w (by omega) hn
 have hhb := halfN_bd n (by omega)
 have HIH : Hid (∀ W, Below w.heap.size w W → Calls _ _ _ W _) := hIH
 clear hIH
 generalize halfN n = k at *
 have hmi : ((m : Int) == (n : Int)) = false := by rw [Bool.eq_false_iff]; simp only [ne_eq, beq_iff_eq]; omega
 have hnI : (n : Int) ≤ 9223372036854775807 := by omega
 have hmnI : (m : Int) < n := by omega
 have hk1I : (1 : Int) ≤ k := by omega
 have hkI : ¬ (m : Int) ≤ k := by omega
 have hmk : (m : Int) - k = ((m - k : Nat) : Int) := by omega
 have hnk : (n : Int) - k = ((n - k : Nat) : Int) := by omega
 generalize (m - k : Nat) = mk at *
 generalize (n - k : Nat) = nk at *
 go_enter Try.func70, Try.ntmps70
 go_wp2
 go_region
 go_wp2_with fail
 refine (HHF.out _).mono ?_
 rintro v w1 ⟨rfl, rfl⟩
 go_wp2_with fail
 refine (HIH.out _ (by exact HB1.out)).mono ?_
 rintro v w3 ⟨⟨a, c, ha, hc', rfl, hO⟩, hb3⟩
 have HB3 : Hid (Below w.heap.size w w3) := HB1.out.trans (hb3.mono HB1.out.size)
 have R8 : RowV w3 w.heap.size 45 z8 := RowV.past hb3 (by exact hR8)
 have R9 : RowV w3 (w.heap.size + 1) 45 z8 := RowV.past hb3 (by exact hR9)
 have R12 : RowV w3 (w.heap.size + 1 + 1) 45 ([x0, x1, x2, x3, x4, x5, x6, x7].map u8c) := RowV.past hb3 (by exact hR12)
 have hl12 := R12.lt
 clear hb3 hR8 hR9 hR12 hB0 hB1 q0 k0 q1 k1 q2 k2 q3 k3 q4 k4 q5 k5 q6 k6 q7 k7
 go_wp2_with (first
  | (refine wp_storeD (by rfl) (.tmp 8) (.tmp 82) (by rfl) w.heap.size (by rfl) a ha (by rfl) R8 (by rfl) ?_; intro w4 A8 hf4 hz4; have A9 : RowV w4 (w.heap.size + 1) 45 z8 := R9.of_block (hf4.block _ R9.lt (fun e => by omega)); have A12 : RowV w4 (w.heap.size + 1 + 1) 45 ([x0, x1, x2, x3, x4, x5, x6, x7].map u8c) := R12.of_block (hf4.block _ R12.lt (fun e => by omega)); have HB4 : Hid (Below w.heap.size w w4) := HB3.out.trans (hf4.below HB3.out.size (fun k hk => by omega)))
  | (refine wp_storeD (by rfl) (.tmp 9) (.tmp 83) (by rfl) (w.heap.size + 1) (by rfl) c hc' (by rfl) A9 (by rfl) ?_; intro w5 S9 hf5 hz5; have S8 : RowV w5 w.heap.size 45 (a.map u8c) := A8.of_block (hf5.block _ A8.lt (fun e => by omega)); have S12 : RowV w5 (w.heap.size + 1 + 1) 45 ([x0, x1, x2, x3, x4, x5, x6, x7].map u8c) := A12.of_block (hf5.block _ A12.lt (fun e => by omega)); have HB5 : Hid (Below w.heap.size w w5) := HB4.out.trans (hf5.below HB4.out.size (fun k hk => by omega))))
 clear R8 R9 R12 A8 A9 A12 hf4 hf5 hz4 hz5 hl12
 have HO : Hid (∀ q, O = some q → q = (a, c)) := hO
 have HNE : Hid (w.heap.size ≠ (w.heap.size + 1)) := by unfold Hid; omega
 clear hO
 refine region_U (fun W' => RowV W' (w.heap.size + 1 + 1) 45 ([x0, x1, x2, x3, x4, x5, x6, x7].map u8c) ∧ RowV W' w.heap.size 45 (a.map u8c) ∧ RowV W' (w.heap.size + 1) 45 (c.map u8c)) 7 (by kernel_rfl) ⟨S12.of_block rfl, S8.of_block rfl, S9.of_block rfl⟩ (fun hH => ?_)
 refine anyU_take 0 _ (dV [x0, x1, x2, x3, x4, x5, x6, x7]) [2, 7] rfl (by kernel_rfl) (by kernel_rfl) (by kernel_rfl) (fun _ _ _ h => h) (by kernel_rfl) hH (yieldsIf_load_mid (by rfl) _ _ rfl (w.heap.size + 1 + 1) 0 rfl ([x0, x1, x2, x3, x4, x5, x6, x7].map u8c) _ (fun W h => h.1.range) Try.underlying45 rfl (by simpa [List.length_map] using Try.infoDig)) ?_
 try simp only [Act.put, List.setIfInBounds_toArray, List.set_cons_zero, List.set_cons_succ]
 refine anyU_take 1 _ (dV a) [2, 7] rfl (by kernel_rfl) (by kernel_rfl) (by kernel_rfl) (fun _ _ _ h => h) (by kernel_rfl) hH (yieldsIf_load_mid (by rfl) _ _ rfl w.heap.size 0 rfl (a.map u8c) _ (fun W h => h.2.1.range) Try.underlying45 rfl (by simpa [ha] using Try.infoDig)) ?_
 try simp only [Act.put, List.setIfInBounds_toArray, List.set_cons_zero, List.set_cons_succ]
 refine anyU_take 3 _ (dV [x0, x1, x2, x3, x4, x5, x6, x7]) [5, 7] rfl (by kernel_rfl) (by kernel_rfl) (by kernel_rfl) (fun _ _ _ h => h) (by kernel_rfl) hH (yieldsIf_load_mid (by rfl) _ _ rfl (w.heap.size + 1 + 1) 0 rfl ([x0, x1, x2, x3, x4, x5, x6, x7].map u8c) _ (fun W h => h.1.range) Try.underlying45 rfl (by simpa [List.length_map] using Try.infoDig)) ?_
 try simp only [Act.put, List.setIfInBounds_toArray, List.set_cons_zero, List.set_cons_succ]
 refine anyU_take 4 _ (dV c) [5, 7] rfl (by kernel_rfl) (by kernel_rfl) (by kernel_rfl) (fun _ _ _ h => h) (by kernel_rfl) hH (yieldsIf_load_mid (by rfl) _ _ rfl (w.heap.size + 1) 0 rfl (c.map u8c) _ (fun W h => h.2.2.range) Try.underlying45 rfl (by simpa [hc'] using Try.infoDig)) ?_
 try simp only [Act.put, List.setIfInBounds_toArray, List.set_cons_zero, List.set_cons_succ]
 refine anyU_move 6 _ _ rfl (by kernel_rfl) (by kernel_rfl) (by kernel_rfl) (fun _ _ _ h => h) (by decide) hH (Or.inl ⟨by rfl, fun w _ => by rfl⟩) ?_
 try simp only [Act.put, List.setIfInBounds_toArray, List.set_cons_zero, List.set_cons_succ]
 refine anyU_one 2 _ (by kernel_rfl) rfl (fun K hK => ?_)
 rw [if_pos (by rfl)]
 go_simp
 refine (sumTwo_any [x0, x1, x2, x3, x4, x5, x6, x7] a _ rfl ha).mono ?_
 rintro e w6 ⟨rfl, hb2⟩
 have P12 : RowV w6 (w.heap.size + 1 + 1) 45 ([x0, x1, x2, x3, x4, x5, x6, x7].map u8c) := RowV.past hb2 (by exact hH.1)
 have P8 : RowV w6 w.heap.size 45 (a.map u8c) := RowV.past hb2 (by exact hH.2.1)
 have P9 : RowV w6 (w.heap.size + 1) 45 (c.map u8c) := RowV.past hb2 (by exact hH.2.2)
 have HB6 : Hid (Below w.heap.size w w6) := HB5.out.trans (by have hq := hb2.mono HB5.out.size; exact ⟨hq.os, hq.tape, hq.output, hq.size, hq.block⟩)
 clear hb2
 refine hK.out _ _ ⟨P12, P8, P9⟩ ?_
 clear hK K
 try simp only [Act.put, List.setIfInBounds_toArray, List.set_cons_zero, List.set_cons_succ]
 have hH : _ ∧ _ ∧ _ := ⟨P12, P8, P9⟩
 refine anyU_one 5 _ (by kernel_rfl) rfl (fun K hK => ?_)
 rw [if_pos (by rfl)]
 go_simp
 refine (sumTwo_any [x0, x1, x2, x3, x4, x5, x6, x7] c _ rfl hc').mono ?_
 rintro e w7 ⟨rfl, hb5⟩
 have Q12 : RowV w7 (w.heap.size + 1 + 1) 45 ([x0, x1, x2, x3, x4, x5, x6, x7].map u8c) := RowV.past hb5 (by exact hH.1)
 have Q8 : RowV w7 w.heap.size 45 (a.map u8c) := RowV.past hb5 (by exact hH.2.1)
 have Q9 : RowV w7 (w.heap.size + 1) 45 (c.map u8c) := RowV.past hb5 (by exact hH.2.2)
 have HB7 : Hid (Below w.heap.size w w7) := HB6.out.trans (by have hq := hb5.mono HB6.out.size; exact ⟨hq.os, hq.tape, hq.output, hq.size, hq.block⟩)
 clear hb5
 refine hK.out _ _ ⟨Q12, Q8, Q9⟩ ?_
 clear hK K
 try simp only [Act.put, List.setIfInBounds_toArray, List.set_cons_zero, List.set_cons_succ]
 refine anyU_past 7 _ (by kernel_rfl) rfl (by kernel_rfl) (fun K hK => ?_)
 rw [if_pos (by rfl)]
 refine wpO_storeD (.tmp 8) (.tmp 87) (by rfl) w.heap.size (by rfl) (digB (1 :: ([x0, x1, x2, x3, x4, x5, x6, x7] ++ a))) (digB_length _) (by rfl) Q8 (by simp [ha, hc']) ?_
 intro w8 U7 hf7 hz7
 refine hK.out _ _ ?_
 clear hK K
 try simp only [Act.put, List.setIfInBounds_toArray, List.set_cons_zero, List.set_cons_succ]
 have V9 : RowV w8 (w.heap.size + 1) 45 (c.map u8c) := Q9.of_block (hf7.block _ Q9.lt (fun e => by omega))
 refine anyU_past 8 _ (by kernel_rfl) rfl (by kernel_rfl) (fun K hK => ?_)
 rw [if_pos (by rfl)]
 refine wpO_storeD (.tmp 9) (.tmp 90) (by rfl) (w.heap.size + 1) (by rfl) (digB (1 :: ([x0, x1, x2, x3, x4, x5, x6, x7] ++ c))) (digB_length _) (by rfl) V9 (by simp [ha, hc']) ?_
 intro w9 U8 hf8 hz8
 refine hK.out _ _ ?_
 clear hK K
 try simp only [Act.put, List.setIfInBounds_toArray, List.set_cons_zero, List.set_cons_succ]
 have V8 : RowV w9 w.heap.size 45 ((digB (1 :: ([x0, x1, x2, x3, x4, x5, x6, x7] ++ a))).map u8c) := U7.of_block (hf8.block _ U7.lt (fun e => by omega))
 refine anyU_past 9 _ (by kernel_rfl) rfl (by kernel_rfl) (fun K hK => ?_)
 rw [if_pos (by rfl)]
 go_simp
 refine hK.out _ _ ?_
 clear hK K
 try simp only [Act.put, List.setIfInBounds_toArray, List.set_cons_zero, List.set_cons_succ]
 refine anyU_done (by kernel_rfl) ?_ _
 go_wp2
 refine ret_dig3 (k := 8) (k' := 9) (j := 10) (d := digB (1 :: ([x0, x1, x2, x3, x4, x5, x6, x7] ++ a))) (d' := digB (1 :: ([x0, x1, x2, x3, x4, x5, x6, x7] ++ c))) rfl rfl rfl V8 (digB_length _) U8 (digB_length _) rfl rfl ⟨⟨digB (1 :: ([x0, x1, x2, x3, x4, x5, x6, x7] ++ a)), digB (1 :: ([x0, x1, x2, x3, x4, x5, x6, x7] ++ c)), digB_length _, digB_length _, ?_, ?_⟩, ?_⟩
 ·rw [Option.isSome_map]; rfl
 ·intro q hq
  cases hOO : O with
  | none => rw [hOO] at hq; cases hq
  | some q' =>
   rw [hOO] at hq
   have := HO.out q' hOO
   subst this
   simp only [Option.map_some, Option.some.injEq] at hq
   exact hq.symm
 ·exact (HB7.out.trans (hf7.below HB7.out.size (fun k hk => by omega))).trans (hf8.below (by have := HB7.out.size; omega) (fun k hk => by omega))
end Go.Proofs.Ytekegfbjbainhaa
