import Derived.Test.YtekegfbjbainhaaGreatKJoin15
import Derived.Deep.DeepCutAuto
set_option linter.unusedVariables false
set_option linter.unusedSimpArgs false

namespace Go.Proofs.YtekegfbjbainhaaGreat
open Go.RowKit
attribute [local go_sem ↓] Go.wp_at_zero Go.wp_at_succ
set_option maxRecDepth 100000 in
set_option maxHeartbeats 1600000 in
theorem sumWith_one (m e : Nat) (root : List UInt8) (a : Option Addr) (cap : Nat) (w : World) (hr : root.length = 8) (hm : m ≤ 9223372036854775807) :
  Calls Tryz.prog 135 #[.int .i64 1, .int .i64 (e : Int), dV root, .slice a m cap] w fun r w' => r = .returned (.tuple #[dV (digB (0 :: root)), .bool (m == 0)]) ∧ Below w.heap.size w w' := by
 have hB0 : Below w.heap.size w ((w.alloc (.cells (root.map u8c).toArray 36)).alloc (.cells z8.toArray 36)) := ((Below.refl _ _).alloc (Nat.le_refl _) _).alloc (by simp) _
 have hA : RowV ((w.alloc (.cells (root.map u8c).toArray 36)).alloc (.cells z8.toArray 36)) w.heap.size 36 (root.map u8c) := (RowV.new w _ _).alloc _
 have hZ : RowV ((w.alloc (.cells (root.map u8c).toArray 36)).alloc (.cells z8.toArray 36)) (w.heap.size + 1) 36 z8 := RowV.new_at _ _ _ _ (by simp)
 have hz : ((w.alloc (.cells (root.map u8c).toArray 36)).alloc (.cells z8.toArray 36)).heap.size = w.heap.size + 2 := by simp
 have hmI : (m : Int) ≤ 9223372036854775807 := by omega
 obtain ⟨dd, hdd⟩ : ∃ dd, dd = digB (0 :: root) := ⟨_, rfl⟩
 have hdl : dd.length = 8 := by rw [hdd]; exact digB_length _
 have HDD : Hid (digB (0 :: root) = dd) := hdd.symm
 rw [HDD.out]
 clear hdd
 have HE : Hid (((m : Int) == 0) = (m == 0)) := by
  unfold Hid
  rw [Bool.eq_iff_iff]; simp
 rw [← HE.out]
 rw [show dV root = .agg (root.map u8c).toArray from rfl]
 go_enter Tryz.func135, Tryz.ntmps135
 go_wp2_with (refine wpList_load_mid (by rfl) 36 (.tmp 6) (by rfl) w.heap.size 0 (by rfl) (root.map u8c) _ (hA.range) Tryz.underlying36 (by rfl) (by simpa [hr] using Tryz.infoDig) ?_)
 refine (sumOne_any root _ hr).mono ?_
 rintro e w5 ⟨rfl, hb5⟩
 rw [HDD.out]
 have hz5 := hb5.size
 have hZ5 : RowV w5 (w.heap.size + 1) 36 z8 := hZ.below hZ.lt hb5
 have HB5 : Hid (Below w.heap.size w w5) := hB0.trans (hb5.mono hB0.size)
 clear hA hZ hB0
 go_wp2_with (refine wp_storeD (by rfl) (.tmp 8) (.tmp 16) (by rfl) (w.heap.size + 1) (by rfl) dd hdl (by rfl) hZ5 (by rfl) ?_; intro w6 hR6 hf6 hz6)
 exact ret_dig2 (k := 8) (j := 9) rfl rfl hR6 hdl rfl rfl ⟨rfl, HB5.out.trans (hf6.below HB5.out.size (fun k hk => by omega))⟩
set_option maxRecDepth 100000 in
set_option maxHeartbeats 1600000 in
theorem sumWith_nil (n e : Nat) (root : List UInt8) (a : Option Addr) (cap : Nat) (w : World) (hr : root.length = 8) (hn : n ≠ 1) (hn2 : n ≤ 9223372036854775807) :
  Calls Tryz.prog 135 #[.int .i64 (n : Int), .int .i64 (e : Int), dV root, .slice a 0 cap] w fun r w' => r = .returned (.tuple #[dV nulD, .bool false]) ∧ Below w.heap.size w w' := by
 have HB0 : Hid (Below w.heap.size w ((w.alloc (.cells (root.map u8c).toArray 36)).alloc (.cells z8.toArray 36))) := ((Below.refl _ _).alloc (Nat.le_refl _) _).alloc (by simp) _
 have hZ : RowV ((w.alloc (.cells (root.map u8c).toArray 36)).alloc (.cells z8.toArray 36)) (w.heap.size + 1) 36 z8 := RowV.new_at _ _ _ _ (by simp)
 have hn1 : ((n : Int) == 1) = false := by simp; omega
 rw [show dV root = .agg (root.map u8c).toArray from rfl]
 go_enter Tryz.func135, Tryz.ntmps135
 go_wp2_with (first
  | (refine wpList_load_mid (by rfl) 36 (.tmp 8) (by rfl) (w.heap.size + 1) 0 (by rfl) (nulD.map u8c) _ (by exact hZ.range) Tryz.underlying36 (by rfl) (by exact Tryz.infoDig) ?_)
  | (refine wp_storeD (by rfl) (.tmp 8) (.tmp 23) (by rfl) (w.heap.size + 1) (by rfl) nulD rfl (by rfl) hZ (by rfl) ?_; intro w6 hR6 hf6 hz6))
 exact ret_dig2 (k := 8) (j := 9) rfl rfl hR6 rfl rfl rfl ⟨rfl, HB0.out.trans (hf6.below HB0.out.size (fun k hk => by omega))⟩
set_option maxRecDepth 100000 in
set_option maxHeartbeats 1600000 in
theorem sumWith_any : ∀ (r : List (List UInt8)) (n e : Nat) (root : List UInt8) (a : Option Addr) (cap : Nat) (w : World), SlD w a r.reverse → r.length ≤ cap → cap ≤ 9223372036854775807 → root.length = 8 → 1 ≤ n → n ≤ 9223372036854775807 → e < n →
  Calls Tryz.prog 135 #[.int .i64 (n : Int), .int .i64 (e : Int), dV root, .slice a r.length cap] w fun v w' => v = .returned (.tuple #[dV (thrF e n root r).1, .bool (thrF e n root r).2]) ∧ Below w.heap.size w w'
 | [], n, e, root, a, cap, w, hs, hl, hc, hr, h1, h2, he => by
  unfold thrF
  by_cases hn : n = 1
  ·subst hn
   exact sumWith_one 0 e root a cap w hr (by omega)
  ·rw [if_neg hn]
   exact sumWith_nil n e root a cap w hr hn h2
 | x :: r, n, e, root, a, cap, w, hs, hl, hc, hr, h1, h2, he => by
  unfold thrF
  by_cases hn : n = 1
  ·subst hn
   exact sumWith_one (r.length + 1) e root a cap w hr (by simp at hl; omega)
  rw [if_neg hn]
  obtain ⟨b, o, rfl, hb⟩ : ∃ b o, a = some ⟨b, o, none⟩ ∧ b < w.heap.size := by
   have h := hs
   have hne : (x :: r).reverse ≠ [] := by simp
   revert h
   generalize (x :: r).reverse = l at *
   cases l with
   | nil => exact absurd rfl hne
   | cons y l => exact fun h => h.addr
  obtain ⟨hlast, hrest, hx⟩ := hs.last
  have hhb := halfN_bd n (by omega)
  have HHF : Hid (∀ w : World, Calls Tryz.prog 128 #[.int .i64 (n : Int)] w fun e w' => e = .returned (.int .i64 (halfN n : Int)) ∧ w' = w) := fun w => first_all n w (by omega) h2
  have IH : Hid (∀ (W : World) (n' e' : Nat), Below w.heap.size w W → 1 ≤ n' → n' ≤ 9223372036854775807 → e' < n' → Calls Tryz.prog 135 #[.int .i64 (n' : Int), .int .i64 (e' : Int), dV root, .slice (some ⟨b, o, none⟩) r.length cap] W fun v w' => v = .returned (.tuple #[dV (thrF e' n' root r).1, .bool (thrF e' n' root r).2]) ∧ Below W.heap.size W w') := fun W n' e' hW h1 h2 he =>
   sumWith_any r n' e' root (some ⟨b, o, none⟩) cap W (hrest.below hW) (by simp at hl; omega) hc hr h1 h2 he
  have hB0 : Below w.heap.size w ((w.alloc (.cells (root.map u8c).toArray 36)).alloc (.cells z8.toArray 36)) := ((Below.refl _ _).alloc (Nat.le_refl _) _).alloc (by simp) _
  have hA : RowV ((w.alloc (.cells (root.map u8c).toArray 36)).alloc (.cells z8.toArray 36)) w.heap.size 36 (root.map u8c) := (RowV.new w _ _).alloc _
  have hZ : RowV ((w.alloc (.cells (root.map u8c).toArray 36)).alloc (.cells z8.toArray 36)) (w.heap.size + 1) 36 z8 := RowV.new_at _ _ _ _ (by simp)
  have hlast' : ((w.alloc (.cells (root.map u8c).toArray 36)).alloc (.cells z8.toArray 36)).rangeAt b (o + r.length * 8) (x.map u8c) := fun j v hv => by
   rw [hB0.cell (p := ⟨b, o + r.length * 8 + j, none⟩) hb]; exact hlast j v hv
  have hB1 := hB0.alloc hB0.size (.cells z8.toArray 36)
  have hlastA : (((w.alloc (.cells (root.map u8c).toArray 36)).alloc (.cells z8.toArray 36)).alloc (.cells z8.toArray 36)).rangeAt b (o + r.length * 8) (x.map u8c) := fun j v hv => by
   rw [hB1.cell (p := ⟨b, o + r.length * 8 + j, none⟩) hb]; exact hlast j v hv
  have hz0 : ((w.alloc (.cells (root.map u8c).toArray 36)).alloc (.cells z8.toArray 36)).heap.size = w.heap.size + 1 + 1 := by simp
  generalize halfN n = k at *
  obtain ⟨hk1, hk2⟩ := hhb
  have hm : (x :: r).length = r.length + 1 := rfl
  rw [hm] at hl ⊢
  generalize r.length = m at *
  have hmI : ((m + 1 : Nat) : Int) - 1 = (m : Int) := by omega
  have hm0 : (((m + 1 : Nat) : Int) == 0) = false := by simp; omega
  have hmc : (m : Int) < cap := by omega
  have hcI : (cap : Int) ≤ 9223372036854775807 := by omega
  have hmp : ((m + 1 : Nat) : Int) = (m : Int) + 1 := by omega
  have hn1 : ((n : Int) == 1) = false := by simp; omega
  have hkI1 : (1 : Int) ≤ k := by omega
  have hkI2 : (k : Int) < n := by omega
  have hnI : (n : Int) ≤ 9223372036854775807 := by omega
  obtain ⟨x0, x1, x2, x3, x4, x5, x6, x7, hxx⟩ := list8 x hx
  have HXX : Hid (x = [x0, x1, x2, x3, x4, x5, x6, x7]) := hxx
  have p0 : ((w.alloc (.cells (root.map u8c).toArray 36)).alloc (.cells #[Value.int .u8 0, Value.int .u8 0, Value.int .u8 0, Value.int .u8 0, Value.int .u8 0, Value.int .u8 0, Value.int .u8 0, Value.int .u8 0] 36)).cell? ⟨b, o + m * 8, none⟩ = some (.int .u8 (x0.toNat : Int)) := hlast' 0 (.int .u8 (x0.toNat : Int)) (by rw [hxx]; rfl)
  have p1 : ((w.alloc (.cells (root.map u8c).toArray 36)).alloc (.cells #[Value.int .u8 0, Value.int .u8 0, Value.int .u8 0, Value.int .u8 0, Value.int .u8 0, Value.int .u8 0, Value.int .u8 0, Value.int .u8 0] 36)).cell? ⟨b, o + m * 8 + 1, none⟩ = some (.int .u8 (x1.toNat : Int)) := hlast' 1 (.int .u8 (x1.toNat : Int)) (by rw [hxx]; rfl)
  have p2 : ((w.alloc (.cells (root.map u8c).toArray 36)).alloc (.cells #[Value.int .u8 0, Value.int .u8 0, Value.int .u8 0, Value.int .u8 0, Value.int .u8 0, Value.int .u8 0, Value.int .u8 0, Value.int .u8 0] 36)).cell? ⟨b, o + m * 8 + 2, none⟩ = some (.int .u8 (x2.toNat : Int)) := hlast' 2 (.int .u8 (x2.toNat : Int)) (by rw [hxx]; rfl)
  have p3 : ((w.alloc (.cells (root.map u8c).toArray 36)).alloc (.cells #[Value.int .u8 0, Value.int .u8 0, Value.int .u8 0, Value.int .u8 0, Value.int .u8 0, Value.int .u8 0, Value.int .u8 0, Value.int .u8 0] 36)).cell? ⟨b, o + m * 8 + 3, none⟩ = some (.int .u8 (x3.toNat : Int)) := hlast' 3 (.int .u8 (x3.toNat : Int)) (by rw [hxx]; rfl)
  have p4 : ((w.alloc (.cells (root.map u8c).toArray 36)).alloc (.cells #[Value.int .u8 0, Value.int .u8 0, Value.int .u8 0, Value.int .u8 0, Value.int .u8 0, Value.int .u8 0, Value.int .u8 0, Value.int .u8 0] 36)).cell? ⟨b, o + m * 8 + 4, none⟩ = some (.int .u8 (x4.toNat : Int)) := hlast' 4 (.int .u8 (x4.toNat : Int)) (by rw [hxx]; rfl)
  have p5 : ((w.alloc (.cells (root.map u8c).toArray 36)).alloc (.cells #[Value.int .u8 0, Value.int .u8 0, Value.int .u8 0, Value.int .u8 0, Value.int .u8 0, Value.int .u8 0, Value.int .u8 0, Value.int .u8 0] 36)).cell? ⟨b, o + m * 8 + 5, none⟩ = some (.int .u8 (x5.toNat : Int)) := hlast' 5 (.int .u8 (x5.toNat : Int)) (by rw [hxx]; rfl)
  have p6 : ((w.alloc (.cells (root.map u8c).toArray 36)).alloc (.cells #[Value.int .u8 0, Value.int .u8 0, Value.int .u8 0, Value.int .u8 0, Value.int .u8 0, Value.int .u8 0, Value.int .u8 0, Value.int .u8 0] 36)).cell? ⟨b, o + m * 8 + 6, none⟩ = some (.int .u8 (x6.toNat : Int)) := hlast' 6 (.int .u8 (x6.toNat : Int)) (by rw [hxx]; rfl)
  have p7 : ((w.alloc (.cells (root.map u8c).toArray 36)).alloc (.cells #[Value.int .u8 0, Value.int .u8 0, Value.int .u8 0, Value.int .u8 0, Value.int .u8 0, Value.int .u8 0, Value.int .u8 0, Value.int .u8 0] 36)).cell? ⟨b, o + m * 8 + 7, none⟩ = some (.int .u8 (x7.toNat : Int)) := hlast' 7 (.int .u8 (x7.toNat : Int)) (by rw [hxx]; rfl)
  have r0 : (((w.alloc (.cells (root.map u8c).toArray 36)).alloc (.cells #[Value.int .u8 0, Value.int .u8 0, Value.int .u8 0, Value.int .u8 0, Value.int .u8 0, Value.int .u8 0, Value.int .u8 0, Value.int .u8 0] 36)).alloc (.cells #[Value.int .u8 0, Value.int .u8 0, Value.int .u8 0, Value.int .u8 0, Value.int .u8 0, Value.int .u8 0, Value.int .u8 0, Value.int .u8 0] 36)).cell? ⟨b, o + m * 8, none⟩ = some (.int .u8 (x0.toNat : Int)) := hlastA 0 (.int .u8 (x0.toNat : Int)) (by rw [hxx]; rfl)
  have r1 : (((w.alloc (.cells (root.map u8c).toArray 36)).alloc (.cells #[Value.int .u8 0, Value.int .u8 0, Value.int .u8 0, Value.int .u8 0, Value.int .u8 0, Value.int .u8 0, Value.int .u8 0, Value.int .u8 0] 36)).alloc (.cells #[Value.int .u8 0, Value.int .u8 0, Value.int .u8 0, Value.int .u8 0, Value.int .u8 0, Value.int .u8 0, Value.int .u8 0, Value.int .u8 0] 36)).cell? ⟨b, o + m * 8 + 1, none⟩ = some (.int .u8 (x1.toNat : Int)) := hlastA 1 (.int .u8 (x1.toNat : Int)) (by rw [hxx]; rfl)
  have r2 : (((w.alloc (.cells (root.map u8c).toArray 36)).alloc (.cells #[Value.int .u8 0, Value.int .u8 0, Value.int .u8 0, Value.int .u8 0, Value.int .u8 0, Value.int .u8 0, Value.int .u8 0, Value.int .u8 0] 36)).alloc (.cells #[Value.int .u8 0, Value.int .u8 0, Value.int .u8 0, Value.int .u8 0, Value.int .u8 0, Value.int .u8 0, Value.int .u8 0, Value.int .u8 0] 36)).cell? ⟨b, o + m * 8 + 2, none⟩ = some (.int .u8 (x2.toNat : Int)) := hlastA 2 (.int .u8 (x2.toNat : Int)) (by rw [hxx]; rfl)
  have r3 : (((w.alloc (.cells (root.map u8c).toArray 36)).alloc (.cells #[Value.int .u8 0, Value.int .u8 0, Value.int .u8 0, Value.int .u8 0, Value.int .u8 0, Value.int .u8 0, Value.int .u8 0, Value.int .u8 0] 36)).alloc (.cells #[Value.int .u8 0, Value.int .u8 0, Value.int .u8 0, Value.int .u8 0, Value.int .u8 0, Value.int .u8 0, Value.int .u8 0, Value.int .u8 0] 36)).cell? ⟨b, o + m * 8 + 3, none⟩ = some (.int .u8 (x3.toNat : Int)) := hlastA 3 (.int .u8 (x3.toNat : Int)) (by rw [hxx]; rfl)
  have r4 : (((w.alloc (.cells (root.map u8c).toArray 36)).alloc (.cells #[Value.int .u8 0, Value.int .u8 0, Value.int .u8 0, Value.int .u8 0, Value.int .u8 0, Value.int .u8 0, Value.int .u8 0, Value.int .u8 0] 36)).alloc (.cells #[Value.int .u8 0, Value.int .u8 0, Value.int .u8 0, Value.int .u8 0, Value.int .u8 0, Value.int .u8 0, Value.int .u8 0, Value.int .u8 0] 36)).cell? ⟨b, o + m * 8 + 4, none⟩ = some (.int .u8 (x4.toNat : Int)) := hlastA 4 (.int .u8 (x4.toNat : Int)) (by rw [hxx]; rfl)
  have r5 : (((w.alloc (.cells (root.map u8c).toArray 36)).alloc (.cells #[Value.int .u8 0, Value.int .u8 0, Value.int .u8 0, Value.int .u8 0, Value.int .u8 0, Value.int .u8 0, Value.int .u8 0, Value.int .u8 0] 36)).alloc (.cells #[Value.int .u8 0, Value.int .u8 0, Value.int .u8 0, Value.int .u8 0, Value.int .u8 0, Value.int .u8 0, Value.int .u8 0, Value.int .u8 0] 36)).cell? ⟨b, o + m * 8 + 5, none⟩ = some (.int .u8 (x5.toNat : Int)) := hlastA 5 (.int .u8 (x5.toNat : Int)) (by rw [hxx]; rfl)
  have r6 : (((w.alloc (.cells (root.map u8c).toArray 36)).alloc (.cells #[Value.int .u8 0, Value.int .u8 0, Value.int .u8 0, Value.int .u8 0, Value.int .u8 0, Value.int .u8 0, Value.int .u8 0, Value.int .u8 0] 36)).alloc (.cells #[Value.int .u8 0, Value.int .u8 0, Value.int .u8 0, Value.int .u8 0, Value.int .u8 0, Value.int .u8 0, Value.int .u8 0, Value.int .u8 0] 36)).cell? ⟨b, o + m * 8 + 6, none⟩ = some (.int .u8 (x6.toNat : Int)) := hlastA 6 (.int .u8 (x6.toNat : Int)) (by rw [hxx]; rfl)
  have r7 : (((w.alloc (.cells (root.map u8c).toArray 36)).alloc (.cells #[Value.int .u8 0, Value.int .u8 0, Value.int .u8 0, Value.int .u8 0, Value.int .u8 0, Value.int .u8 0, Value.int .u8 0, Value.int .u8 0] 36)).alloc (.cells #[Value.int .u8 0, Value.int .u8 0, Value.int .u8 0, Value.int .u8 0, Value.int .u8 0, Value.int .u8 0, Value.int .u8 0, Value.int .u8 0] 36)).cell? ⟨b, o + m * 8 + 7, none⟩ = some (.int .u8 (x7.toNat : Int)) := hlastA 7 (.int .u8 (x7.toNat : Int)) (by rw [hxx]; rfl)
  clear hlast hrest hs hm hxx
  have HL : Hid (x.length = 8) := hx
  have HBD : Hid (b < w.heap.size) := hb
  have hkc : ¬ cap = m := by omega
  have hwr : IntKind.i64.wrap (m : Int) = (m : Int) := Go.IntWalk.i64_in _ ⟨by omega, by omega⟩
  by_cases hlt : e < k
  ·rw [if_pos hlt]
   obtain ⟨dd, hdd⟩ : ∃ dd, dd = digB (1 :: ((thrF e k root r).1 ++ x)) := ⟨_, rfl⟩
   have hdl : dd.length = 8 := by rw [hdd]; exact digB_length _
   have HDD : Hid (digB (1 :: ((thrF e k root r).1 ++ x)) = dd) := hdd.symm
   have HTL : Hid ((thrF e k root r).1.length = 8) := thrF_length r e k root
   rw [HDD.out]
   clear hdd
   have hltI : (e : Int) < k := by omega
   rw [show dV root = .agg (root.map u8c).toArray from rfl] at IH ⊢
   have HI : Hid (∀ (W : World), Below w.heap.size w W → Calls _ _ _ W _) := fun W hW => IH.out W k e hW hk1 (by omega) hlt
   generalize thrF e k root r = q at *
   clear IH
   go_enter Tryz.func135, Tryz.ntmps135
   go_wp2
   go_cut [10, 11] (fun sv pv wx => sv = .slice (some ⟨b, o, none⟩) m cap ∧ pv = .pointer (some ⟨w.heap.size + 1 + 1, 0, none⟩) ∧ Hid (Below w.heap.size w wx ∧ RowV wx w.heap.size 36 (root.map u8c) ∧ RowV wx (w.heap.size + 1) 36 z8 ∧ RowV wx (w.heap.size + 1 + 1) 36 (x.map u8c)))
   case first =>
    go_region
    all_goals
     go_wp2
     go_meet
     refine ⟨rfl, rfl, ?_, ?_, ?_, ?_⟩
     ·have hbb := hB0.alloc hB0.size (.cells #[Value.int .u8 (x0.toNat : Int), Value.int .u8 (x1.toNat : Int), Value.int .u8 (x2.toNat : Int), Value.int .u8 (x3.toNat : Int), Value.int .u8 (x4.toNat : Int), Value.int .u8 (x5.toNat : Int), Value.int .u8 (x6.toNat : Int), Value.int .u8 (x7.toNat : Int)] 36)
      exact ⟨hbb.os, hbb.tape, hbb.output, hbb.size, hbb.block⟩
     ·exact (hA.alloc _).of_block rfl
     ·exact (hZ.alloc _).of_block rfl
     ·rw [HXX.out]
      exact (RowV.new_at _ 36 (w.heap.size + 1 + 1) ([x0, x1, x2, x3, x4, x5, x6, x7].map u8c) (by simp)).of_block rfl
   case rest =>
    obtain ⟨rfl, rfl, HC⟩ := hcut
    have hA2 := HC.out.2.1
    have hZ2 := HC.out.2.2.1
    have hX2 := HC.out.2.2.2
    have hB2 := HC.out.1
    clear hlast' hlastA hA hZ hB0 hB1 hz0 p0 p1 p2 p3 p4 p5 p6 p7 r0 r1 r2 r3 r4 r5 r6 r7
    go_wp2_with fail
    refine (HHF.out _).mono ?_
    rintro v w2 ⟨rfl, rfl⟩
    go_wp2_with (refine wpList_load_mid (by rfl) 36 (.tmp 6) (by rfl) w.heap.size 0 (by rfl) (root.map u8c) _ (by exact hA2.range) Tryz.underlying36 (by rfl) (by simpa [hr] using Tryz.infoDig) ?_)
    refine (HI.out _ hB2).mono ?_
    rintro v w3 ⟨rfl, hb3⟩
    have hB3 : Below w.heap.size w w3 := hB2.trans (hb3.mono hB2.size)
    have hZ3 : RowV w3 (w.heap.size + 1) 36 z8 := hZ2.below hZ2.lt hb3
    have hX3 : RowV w3 (w.heap.size + 1 + 1) 36 (x.map u8c) := hX2.below hX2.lt hb3
    have hl3 := hX3.lt
    clear hA2 hZ2 hX2 hB2 hb3 HC
    go_wp2_with (first
     | (refine wp_storeD (by rfl) (.tmp 8) (.tmp 46) (by rfl) (w.heap.size + 1) (by rfl) q.1 HTL.out (by rfl) hZ3 (by rfl) ?_; intro w4 hR4 hf4 hz4; have hB4 : Below w.heap.size w w4 := Below.trans hB3 (hf4.below (by omega) (fun k hk => by omega)); have hX4 : RowV w4 (w.heap.size + 1 + 1) 36 (x.map u8c) := hX3.of_block (hf4.block _ hl3 (fun e => by omega)))
     | (refine wpList_load_mid (by rfl) 36 (.tmp 8) (by rfl) (w.heap.size + 1) 0 (by rfl) (q.1.map u8c) _ (by exact hR4.range) Tryz.underlying36 (by rfl) (by simpa [HTL.out] using Tryz.infoDig) ?_)
     | (refine wpList_load_mid (by rfl) 36 (.tmp 11) (by rfl) (w.heap.size + 1 + 1) 0 (by rfl) (x.map u8c) _ (by exact hX4.range) Tryz.underlying36 (by rfl) (by simpa [HL.out] using Tryz.infoDig) ?_))
    refine (sumTwo_any q.1 x _ HTL.out HL.out).mono ?_
    rintro v w5 ⟨rfl, hb5⟩
    rw [HDD.out]
    have hB5 : Below w.heap.size w w5 := hB4.trans (hb5.mono hB4.size)
    have hZ5 : RowV w5 (w.heap.size + 1) 36 (q.1.map u8c) := hR4.below hR4.lt hb5
    clear hf4 hz4 hR4 hX4 hB4 hb5 hX3 hZ3 hB3
    go_wp2_with (refine wp_storeD (by rfl) (.tmp 8) (.tmp 50) (by rfl) (w.heap.size + 1) (by rfl) dd hdl (by rfl) hZ5 (by simp [HTL.out]) ?_; intro w6 hR6 hf6 hz6)
    exact ret_dig2 (k := 8) (j := 9) rfl rfl hR6 hdl rfl rfl ⟨rfl, hB5.trans (hf6.below hB5.size (fun k hk => by omega))⟩
  ·rw [if_neg hlt]
   obtain ⟨dd, hdd⟩ : ∃ dd, dd = digB (1 :: (x ++ (thrF (e - k) (n - k) root r).1)) := ⟨_, rfl⟩
   have hdl : dd.length = 8 := by rw [hdd]; exact digB_length _
   have HDD : Hid (digB (1 :: (x ++ (thrF (e - k) (n - k) root r).1)) = dd) := hdd.symm
   have HTL : Hid ((thrF (e - k) (n - k) root r).1.length = 8) := thrF_length r (e - k) (n - k) root
   rw [HDD.out]
   clear hdd
   have hltI : ¬ (e : Int) < k := by omega
   have hekI : (e : Int) - k = ((e - k : Nat) : Int) := by omega
   have hnkI : (n : Int) - k = ((n - k : Nat) : Int) := by omega
   have heI : (e : Int) < n := by omega
   rw [show dV root = .agg (root.map u8c).toArray from rfl] at IH ⊢
   have HI : Hid (∀ (W : World), Below w.heap.size w W → Calls _ _ _ W _) := fun W hW => IH.out W (n - k) (e - k) hW (by omega) (by omega) (by omega)
   generalize thrF (e - k) (n - k) root r = q at *
   generalize ((n - k : Nat)) = nk at *
   generalize ((e - k : Nat)) = ek at *
   clear IH
   go_enter Tryz.func135, Tryz.ntmps135
   go_wp2
   go_cut [10, 11] (fun sv pv wx => sv = .slice (some ⟨b, o, none⟩) m cap ∧ pv = .pointer (some ⟨w.heap.size + 1 + 1, 0, none⟩) ∧ Hid (Below w.heap.size w wx ∧ RowV wx w.heap.size 36 (root.map u8c) ∧ RowV wx (w.heap.size + 1) 36 z8 ∧ RowV wx (w.heap.size + 1 + 1) 36 (x.map u8c)))
   case first =>
    go_region
    all_goals
     go_wp2
     go_meet
     refine ⟨rfl, rfl, ?_, ?_, ?_, ?_⟩
     ·have hbb := hB0.alloc hB0.size (.cells #[Value.int .u8 (x0.toNat : Int), Value.int .u8 (x1.toNat : Int), Value.int .u8 (x2.toNat : Int), Value.int .u8 (x3.toNat : Int), Value.int .u8 (x4.toNat : Int), Value.int .u8 (x5.toNat : Int), Value.int .u8 (x6.toNat : Int), Value.int .u8 (x7.toNat : Int)] 36)
      exact ⟨hbb.os, hbb.tape, hbb.output, hbb.size, hbb.block⟩
     ·exact (hA.alloc _).of_block rfl
     ·exact (hZ.alloc _).of_block rfl
     ·rw [HXX.out]
      exact (RowV.new_at _ 36 (w.heap.size + 1 + 1) ([x0, x1, x2, x3, x4, x5, x6, x7].map u8c) (by simp)).of_block rfl
   case rest =>
    obtain ⟨rfl, rfl, HC⟩ := hcut
    have hA2 := HC.out.2.1
    have hZ2 := HC.out.2.2.1
    have hX2 := HC.out.2.2.2
    have hB2 := HC.out.1
    clear hlast' hlastA hA hZ hB0 hB1 hz0 p0 p1 p2 p3 p4 p5 p6 p7 r0 r1 r2 r3 r4 r5 r6 r7
    go_wp2_with fail
    refine (HHF.out _).mono ?_
    rintro v w2 ⟨rfl, rfl⟩
    go_wp2_with (refine wpList_load_mid (by rfl) 36 (.tmp 6) (by rfl) w.heap.size 0 (by rfl) (root.map u8c) _ (by exact hA2.range) Tryz.underlying36 (by rfl) (by simpa [hr] using Tryz.infoDig) ?_)
    refine (HI.out _ hB2).mono ?_
    rintro v w3 ⟨rfl, hb3⟩
    have hB3 : Below w.heap.size w w3 := hB2.trans (hb3.mono hB2.size)
    have hZ3 : RowV w3 (w.heap.size + 1) 36 z8 := hZ2.below hZ2.lt hb3
    have hX3 : RowV w3 (w.heap.size + 1 + 1) 36 (x.map u8c) := hX2.below hX2.lt hb3
    have hl3 := hX3.lt
    clear hA2 hZ2 hX2 hB2 hb3 HC
    go_wp2_with (first
     | (refine wp_storeD (by rfl) (.tmp 8) (.tmp 62) (by rfl) (w.heap.size + 1) (by rfl) q.1 HTL.out (by rfl) hZ3 (by rfl) ?_; intro w4 hR4 hf4 hz4; have hB4 : Below w.heap.size w w4 := Below.trans hB3 (hf4.below (by omega) (fun k hk => by omega)); have hX4 : RowV w4 (w.heap.size + 1 + 1) 36 (x.map u8c) := hX3.of_block (hf4.block _ hl3 (fun e => by omega)))
     | (refine wpList_load_mid (by rfl) 36 (.tmp 8) (by rfl) (w.heap.size + 1) 0 (by rfl) (q.1.map u8c) _ (by exact hR4.range) Tryz.underlying36 (by rfl) (by simpa [HTL.out] using Tryz.infoDig) ?_)
     | (refine wpList_load_mid (by rfl) 36 (.tmp 11) (by rfl) (w.heap.size + 1 + 1) 0 (by rfl) (x.map u8c) _ (by exact hX4.range) Tryz.underlying36 (by rfl) (by simpa [HL.out] using Tryz.infoDig) ?_))
    refine (sumTwo_any x q.1 _ HL.out HTL.out).mono ?_
    rintro v w5 ⟨rfl, hb5⟩
    rw [HDD.out]
    have hB5 : Below w.heap.size w w5 := hB4.trans (hb5.mono hB4.size)
    have hZ5 : RowV w5 (w.heap.size + 1) 36 (q.1.map u8c) := hR4.below hR4.lt hb5
    clear hf4 hz4 hR4 hX4 hB4 hb5 hX3 hZ3 hB3
    go_wp2_with (refine wp_storeD (by rfl) (.tmp 8) (.tmp 66) (by rfl) (w.heap.size + 1) (by rfl) dd hdl (by rfl) hZ5 (by simp [HTL.out]) ?_; intro w6 hR6 hf6 hz6)
    exact ret_dig2 (k := 8) (j := 9) rfl rfl hR6 hdl rfl rfl ⟨rfl, hB5.trans (hf6.below hB5.size (fun k hk => by omega))⟩
end Go.Proofs.YtekegfbjbainhaaGreat


namespace Go.Proofs.YtekegfbjbainhaaGreat
open Go.RowKit
attribute [local go_sem ↓] Go.wp_at_zero Go.wp_at_succ
def bothF : Nat → Nat → Bool → List UInt8 → List (List UInt8) → Option (List UInt8 × List UInt8)
 | m, n, own, sum, [] => if m = n ∧ own = true then some (sum, sum) else none
 | m, n, own, sum, x :: r => if m = n ∧ own = true then none else if m = n then (if r.length = 0 then some (x, x) else none) else
  if m ≤ halfN n then (bothF m (halfN n) own sum r).map (fun q => (q.1, digB (1 :: (q.2 ++ x))))
  else (bothF (m - halfN n) (n - halfN n) false sum r).map (fun q => (digB (1 :: (x ++ q.1)), digB (1 :: (x ++ q.2))))
def bothV (o : Option (List UInt8 × List UInt8)) (e : Ending) : Prop := ∃ a b : List UInt8, a.length = 8 ∧ b.length = 8 ∧ e = .returned (.tuple #[dV a, dV b, .bool o.isSome]) ∧ ∀ q, o = some q → q = (a, b)
theorem ret_dig3 {fn : Func} {R : Ending → World → Prop} {a : Act} {w : World} {k k' j b b' : Nat} {d d' : List UInt8} {v : Value} (hf : fn.results = #[ResultVar.cell k 36, ResultVar.cell k' 36, ResultVar.tmp j]) (ha : a.tmps.getD k undef = .pointer (some ⟨b, 0, none⟩)) (hb : a.tmps.getD k' undef = .pointer (some ⟨b', 0, none⟩))
  (hR : RowV w b 36 (d.map u8c)) (hd : d.length = 8) (hR' : RowV w b' 36 (d'.map u8c)) (hd' : d'.length = 8) (hj : a.tmps.getD j undef = v) (hdf : a.defers = []) (h : R (.returned (.tuple #[dV d, dV d', v])) w) : bodyPost Tryz.prog fn R .ret a w := by
 refine bodyPost_ret (v := .tuple #[dV d, dV d', v]) ?_ hdf h
 have hl := run_loadVar_mid (P := Tryz.prog) w b 0 36 (d.map u8c) _ hR.range Tryz.underlying36 rfl (by simpa [hd] using Tryz.infoDig)
 have hl' := run_loadVar_mid (P := Tryz.prog) w b' 0 36 (d'.map u8c) _ hR'.range Tryz.underlying36 rfl (by simpa [hd'] using Tryz.infoDig)
 have ha' : a.tmps[k]?.getD undef = .pointer (some ⟨b, 0, none⟩) := by rw [← ha]; simp [Array.getD_eq_getD_getElem?]
 have hb' : a.tmps[k']?.getD undef = .pointer (some ⟨b', 0, none⟩) := by rw [← hb]; simp [Array.getD_eq_getD_getElem?]
 have hj' : a.tmps[j]?.getD undef = v := by rw [← hj]; simp [Array.getD_eq_getD_getElem?]
 unfold results
 rw [hf]
 simp [ha', hb', hl, hl', hj', dV, asAddr]
set_option maxRecDepth 100000 in
set_option maxHeartbeats 1600000 in
theorem both_own (l m : Nat) (sum : List UInt8) (a : Option Addr) (cap : Nat) (w : World) (hr : sum.length = 8) (hl : l ≤ 9223372036854775807) :
  Calls Tryz.prog 114 #[.int .i64 (m : Int), .int .i64 (m : Int), .bool true, dV sum, .slice a l cap] w fun r w' => r = .returned (.tuple #[dV sum, dV sum, .bool ((l : Int) == 0)]) ∧ Below w.heap.size w w' := by
 obtain ⟨x0, x1, x2, x3, x4, x5, x6, x7, rfl⟩ := list8 sum hr
 have hlI : (l : Int) ≤ 9223372036854775807 := by omega
 unfold dV u8c
 simp only [List.map_cons, List.map_nil]
 go_enter Tryz.func114, Tryz.ntmps114
 go_wp2
 go_region
 all_goals
  go_wp2
  refine ret_dig3 (k := 10) (k' := 11) (j := 12) (d := [x0, x1, x2, x3, x4, x5, x6, x7]) (d' := [x0, x1, x2, x3, x4, x5, x6, x7]) rfl rfl rfl ?_ rfl ?_ rfl rfl rfl ⟨rfl, ?_⟩
  ·exact ((RowV.new_at _ 36 (w.heap.size + 1) ([x0, x1, x2, x3, x4, x5, x6, x7].map u8c) (by simp)).alloc _).of_block rfl
  ·exact (RowV.new_at _ 36 (w.heap.size + 1 + 1) ([x0, x1, x2, x3, x4, x5, x6, x7].map u8c) (by simp)).of_block rfl
  ·exact (((((Below.refl _ _).alloc (Nat.le_refl _) _).alloc (by simp) _).alloc (by simp; omega) _)).drew
set_option maxRecDepth 100000 in
set_option maxHeartbeats 1600000 in
theorem both_nil (n m : Nat) (own : Bool) (sum : List UInt8) (a : Option Addr) (cap : Nat) (w : World) (hr : sum.length = 8) (hn : ¬ (m = n ∧ own = true)) :
  Calls Tryz.prog 114 #[.int .i64 (m : Int), .int .i64 (n : Int), .bool own, dV sum, .slice a 0 cap] w fun r w' => r = .returned (.tuple #[dV sum, dV sum, .bool false]) ∧ Below w.heap.size w w' := by
 obtain ⟨x0, x1, x2, x3, x4, x5, x6, x7, rfl⟩ := list8 sum hr
 unfold dV u8c
 simp only [List.map_cons, List.map_nil]
 by_cases hmn : m = n
 ·subst hmn
  have ho : own = false := by cases own; rfl; exact absurd ⟨rfl, rfl⟩ hn
  subst ho
  clear hn
  go_enter Tryz.func114, Tryz.ntmps114
  go_wp2
  go_region
  all_goals
   go_wp2
   refine ret_dig3 (k := 10) (k' := 11) (j := 12) (d := [x0, x1, x2, x3, x4, x5, x6, x7]) (d' := [x0, x1, x2, x3, x4, x5, x6, x7]) rfl rfl rfl ?_ rfl ?_ rfl rfl rfl ⟨rfl, ?_⟩
   ·exact ((RowV.new_at _ 36 (w.heap.size + 1) ([x0, x1, x2, x3, x4, x5, x6, x7].map u8c) (by simp)).alloc _).of_block rfl
   ·exact (RowV.new_at _ 36 (w.heap.size + 1 + 1) ([x0, x1, x2, x3, x4, x5, x6, x7].map u8c) (by simp)).of_block rfl
   ·exact (((((Below.refl _ _).alloc (Nat.le_refl _) _).alloc (by simp) _).alloc (by simp; omega) _)).drew
 ·have hmi : ((m : Int) == (n : Int)) = false := by rw [Bool.eq_false_iff]; simp only [ne_eq, beq_iff_eq]; omega
  clear hn
  go_enter Tryz.func114, Tryz.ntmps114
  go_wp2
  go_region
  all_goals
   go_wp2
   refine ret_dig3 (k := 10) (k' := 11) (j := 12) (d := [x0, x1, x2, x3, x4, x5, x6, x7]) (d' := [x0, x1, x2, x3, x4, x5, x6, x7]) rfl rfl rfl ?_ rfl ?_ rfl rfl rfl ⟨rfl, ?_⟩
   ·exact ((RowV.new_at _ 36 (w.heap.size + 1) ([x0, x1, x2, x3, x4, x5, x6, x7].map u8c) (by simp)).alloc _).of_block rfl
   ·exact (RowV.new_at _ 36 (w.heap.size + 1 + 1) ([x0, x1, x2, x3, x4, x5, x6, x7].map u8c) (by simp)).of_block rfl
   ·exact (((((Below.refl _ _).alloc (Nat.le_refl _) _).alloc (by simp) _).alloc (by simp; omega) _)).drew
set_option maxRecDepth 100000 in
set_option maxHeartbeats 1600000 in
theorem both_eq (l m b o : Nat) (sum x : List UInt8) (cap : Nat) (w : World) (hr : sum.length = 8) (hx : x.length = 8) (hb : b < w.heap.size) (hl : l + 1 ≤ cap) (hc : cap ≤ 9223372036854775807) (hlast : w.rangeAt b (o + l * 8) (x.map u8c)) :
  Calls Tryz.prog 114 #[.int .i64 (m : Int), .int .i64 (m : Int), .bool false, dV sum, .slice (some ⟨b, o, none⟩) (l + 1) cap] w fun r w' => r = .returned (.tuple #[dV x, dV x, .bool ((l : Int) == 0)]) ∧ Below w.heap.size w w' := by
 obtain ⟨s0, s1, s2, s3, s4, s5, s6, s7, rfl⟩ := list8 sum hr
 obtain ⟨x0, x1, x2, x3, x4, x5, x6, x7, rfl⟩ := list8 x hx
 have hB0 : Below w.heap.size w (((w.alloc (.cells #[Value.int .u8 (s0.toNat : Int), Value.int .u8 (s1.toNat : Int), Value.int .u8 (s2.toNat : Int), Value.int .u8 (s3.toNat : Int), Value.int .u8 (s4.toNat : Int), Value.int .u8 (s5.toNat : Int), Value.int .u8 (s6.toNat : Int), Value.int .u8 (s7.toNat : Int)] 36)).alloc (.cells #[Value.int .u8 0, Value.int .u8 0, Value.int .u8 0, Value.int .u8 0, Value.int .u8 0, Value.int .u8 0, Value.int .u8 0, Value.int .u8 0] 36)).alloc (.cells #[Value.int .u8 0, Value.int .u8 0, Value.int .u8 0, Value.int .u8 0, Value.int .u8 0, Value.int .u8 0, Value.int .u8 0, Value.int .u8 0] 36)) := ((((Below.refl _ _).alloc (Nat.le_refl _) _).alloc (by simp) _).alloc (by simp; omega) _)
 have q0 : (((w.alloc (.cells #[Value.int .u8 (s0.toNat : Int), Value.int .u8 (s1.toNat : Int), Value.int .u8 (s2.toNat : Int), Value.int .u8 (s3.toNat : Int), Value.int .u8 (s4.toNat : Int), Value.int .u8 (s5.toNat : Int), Value.int .u8 (s6.toNat : Int), Value.int .u8 (s7.toNat : Int)] 36)).alloc (.cells #[Value.int .u8 0, Value.int .u8 0, Value.int .u8 0, Value.int .u8 0, Value.int .u8 0, Value.int .u8 0, Value.int .u8 0, Value.int .u8 0] 36)).alloc (.cells #[Value.int .u8 0, Value.int .u8 0, Value.int .u8 0, Value.int .u8 0, Value.int .u8 0, Value.int .u8 0, Value.int .u8 0, Value.int .u8 0] 36)).cell? ⟨b, o + l * 8, none⟩ = some (.int .u8 (x0.toNat : Int)) := by rw [hB0.cell (p := ⟨b, o + l * 8, none⟩) hb]; exact hlast 0 _ rfl
 have q1 : (((w.alloc (.cells #[Value.int .u8 (s0.toNat : Int), Value.int .u8 (s1.toNat : Int), Value.int .u8 (s2.toNat : Int), Value.int .u8 (s3.toNat : Int), Value.int .u8 (s4.toNat : Int), Value.int .u8 (s5.toNat : Int), Value.int .u8 (s6.toNat : Int), Value.int .u8 (s7.toNat : Int)] 36)).alloc (.cells #[Value.int .u8 0, Value.int .u8 0, Value.int .u8 0, Value.int .u8 0, Value.int .u8 0, Value.int .u8 0, Value.int .u8 0, Value.int .u8 0] 36)).alloc (.cells #[Value.int .u8 0, Value.int .u8 0, Value.int .u8 0, Value.int .u8 0, Value.int .u8 0, Value.int .u8 0, Value.int .u8 0, Value.int .u8 0] 36)).cell? ⟨b, o + l * 8 + 1, none⟩ = some (.int .u8 (x1.toNat : Int)) := by rw [hB0.cell (p := ⟨b, o + l * 8 + 1, none⟩) hb]; exact hlast 1 _ rfl
 have q2 : (((w.alloc (.cells #[Value.int .u8 (s0.toNat : Int), Value.int .u8 (s1.toNat : Int), Value.int .u8 (s2.toNat : Int), Value.int .u8 (s3.toNat : Int), Value.int .u8 (s4.toNat : Int), Value.int .u8 (s5.toNat : Int), Value.int .u8 (s6.toNat : Int), Value.int .u8 (s7.toNat : Int)] 36)).alloc (.cells #[Value.int .u8 0, Value.int .u8 0, Value.int .u8 0, Value.int .u8 0, Value.int .u8 0, Value.int .u8 0, Value.int .u8 0, Value.int .u8 0] 36)).alloc (.cells #[Value.int .u8 0, Value.int .u8 0, Value.int .u8 0, Value.int .u8 0, Value.int .u8 0, Value.int .u8 0, Value.int .u8 0, Value.int .u8 0] 36)).cell? ⟨b, o + l * 8 + 2, none⟩ = some (.int .u8 (x2.toNat : Int)) := by rw [hB0.cell (p := ⟨b, o + l * 8 + 2, none⟩) hb]; exact hlast 2 _ rfl
 have q3 : (((w.alloc (.cells #[Value.int .u8 (s0.toNat : Int), Value.int .u8 (s1.toNat : Int), Value.int .u8 (s2.toNat : Int), Value.int .u8 (s3.toNat : Int), Value.int .u8 (s4.toNat : Int), Value.int .u8 (s5.toNat : Int), Value.int .u8 (s6.toNat : Int), Value.int .u8 (s7.toNat : Int)] 36)).alloc (.cells #[Value.int .u8 0, Value.int .u8 0, Value.int .u8 0, Value.int .u8 0, Value.int .u8 0, Value.int .u8 0, Value.int .u8 0, Value.int .u8 0] 36)).alloc (.cells #[Value.int .u8 0, Value.int .u8 0, Value.int .u8 0, Value.int .u8 0, Value.int .u8 0, Value.int .u8 0, Value.int .u8 0, Value.int .u8 0] 36)).cell? ⟨b, o + l * 8 + 3, none⟩ = some (.int .u8 (x3.toNat : Int)) := by rw [hB0.cell (p := ⟨b, o + l * 8 + 3, none⟩) hb]; exact hlast 3 _ rfl
 have q4 : (((w.alloc (.cells #[Value.int .u8 (s0.toNat : Int), Value.int .u8 (s1.toNat : Int), Value.int .u8 (s2.toNat : Int), Value.int .u8 (s3.toNat : Int), Value.int .u8 (s4.toNat : Int), Value.int .u8 (s5.toNat : Int), Value.int .u8 (s6.toNat : Int), Value.int .u8 (s7.toNat : Int)] 36)).alloc (.cells #[Value.int .u8 0, Value.int .u8 0, Value.int .u8 0, Value.int .u8 0, Value.int .u8 0, Value.int .u8 0, Value.int .u8 0, Value.int .u8 0] 36)).alloc (.cells #[Value.int .u8 0, Value.int .u8 0, Value.int .u8 0, Value.int .u8 0, Value.int .u8 0, Value.int .u8 0, Value.int .u8 0, Value.int .u8 0] 36)).cell? ⟨b, o + l * 8 + 4, none⟩ = some (.int .u8 (x4.toNat : Int)) := by rw [hB0.cell (p := ⟨b, o + l * 8 + 4, none⟩) hb]; exact hlast 4 _ rfl
 have q5 : (((w.alloc (.cells #[Value.int .u8 (s0.toNat : Int), Value.int .u8 (s1.toNat : Int), Value.int .u8 (s2.toNat : Int), Value.int .u8 (s3.toNat : Int), Value.int .u8 (s4.toNat : Int), Value.int .u8 (s5.toNat : Int), Value.int .u8 (s6.toNat : Int), Value.int .u8 (s7.toNat : Int)] 36)).alloc (.cells #[Value.int .u8 0, Value.int .u8 0, Value.int .u8 0, Value.int .u8 0, Value.int .u8 0, Value.int .u8 0, Value.int .u8 0, Value.int .u8 0] 36)).alloc (.cells #[Value.int .u8 0, Value.int .u8 0, Value.int .u8 0, Value.int .u8 0, Value.int .u8 0, Value.int .u8 0, Value.int .u8 0, Value.int .u8 0] 36)).cell? ⟨b, o + l * 8 + 5, none⟩ = some (.int .u8 (x5.toNat : Int)) := by rw [hB0.cell (p := ⟨b, o + l * 8 + 5, none⟩) hb]; exact hlast 5 _ rfl
 have q6 : (((w.alloc (.cells #[Value.int .u8 (s0.toNat : Int), Value.int .u8 (s1.toNat : Int), Value.int .u8 (s2.toNat : Int), Value.int .u8 (s3.toNat : Int), Value.int .u8 (s4.toNat : Int), Value.int .u8 (s5.toNat : Int), Value.int .u8 (s6.toNat : Int), Value.int .u8 (s7.toNat : Int)] 36)).alloc (.cells #[Value.int .u8 0, Value.int .u8 0, Value.int .u8 0, Value.int .u8 0, Value.int .u8 0, Value.int .u8 0, Value.int .u8 0, Value.int .u8 0] 36)).alloc (.cells #[Value.int .u8 0, Value.int .u8 0, Value.int .u8 0, Value.int .u8 0, Value.int .u8 0, Value.int .u8 0, Value.int .u8 0, Value.int .u8 0] 36)).cell? ⟨b, o + l * 8 + 6, none⟩ = some (.int .u8 (x6.toNat : Int)) := by rw [hB0.cell (p := ⟨b, o + l * 8 + 6, none⟩) hb]; exact hlast 6 _ rfl
 have q7 : (((w.alloc (.cells #[Value.int .u8 (s0.toNat : Int), Value.int .u8 (s1.toNat : Int), Value.int .u8 (s2.toNat : Int), Value.int .u8 (s3.toNat : Int), Value.int .u8 (s4.toNat : Int), Value.int .u8 (s5.toNat : Int), Value.int .u8 (s6.toNat : Int), Value.int .u8 (s7.toNat : Int)] 36)).alloc (.cells #[Value.int .u8 0, Value.int .u8 0, Value.int .u8 0, Value.int .u8 0, Value.int .u8 0, Value.int .u8 0, Value.int .u8 0, Value.int .u8 0] 36)).alloc (.cells #[Value.int .u8 0, Value.int .u8 0, Value.int .u8 0, Value.int .u8 0, Value.int .u8 0, Value.int .u8 0, Value.int .u8 0, Value.int .u8 0] 36)).cell? ⟨b, o + l * 8 + 7, none⟩ = some (.int .u8 (x7.toNat : Int)) := by rw [hB0.cell (p := ⟨b, o + l * 8 + 7, none⟩) hb]; exact hlast 7 _ rfl
 have hmI : ((l + 1 : Nat) : Int) - 1 = (l : Int) := by omega
 have hm0 : (((l + 1 : Nat) : Int) == 0) = false := by rw [Bool.eq_false_iff]; simp only [ne_eq, beq_iff_eq]; omega
 have hmp : ((l + 1 : Nat) : Int) = (l : Int) + 1 := by omega
 have hm1 : ((l : Int) + 1 == 1) = ((l : Int) == 0) := by rw [Bool.eq_iff_iff]; simp only [beq_iff_eq]; omega
 have hcI : (cap : Int) ≤ 9223372036854775807 := by omega
 have hlc : (l : Int) < cap := by omega
 clear hlast
 unfold dV u8c
 simp only [List.map_cons, List.map_nil]
 go_enter Tryz.func114, Tryz.ntmps114
 go_wp2
 go_region
 all_goals
  go_wp2
  refine ret_dig3 (k := 10) (k' := 11) (j := 12) (d := [x0, x1, x2, x3, x4, x5, x6, x7]) (d' := [x0, x1, x2, x3, x4, x5, x6, x7]) rfl rfl rfl ?_ rfl ?_ rfl rfl rfl ⟨rfl, ?_⟩
  ·exact (((RowV.new_at _ 36 (w.heap.size + 1) ([x0, x1, x2, x3, x4, x5, x6, x7].map u8c) (by simp)).alloc _).alloc _).of_block rfl
  ·exact ((RowV.new_at _ 36 (w.heap.size + 1 + 1) ([x0, x1, x2, x3, x4, x5, x6, x7].map u8c) (by simp)).alloc _).of_block rfl
  ·exact ((((((Below.refl _ _).alloc (Nat.le_refl _) _).alloc (by simp) _).alloc (by simp; omega) _)).alloc (by simp; omega) _).drew
end Go.Proofs.YtekegfbjbainhaaGreat
