import Derived.Test.YtekegfbjbainhaaKLog3
import Derived.Deep.RegionHeld3
import Derived.Test.YtekegfbjbainhaaKJoin3
set_option linter.unusedVariables false
set_option linter.unusedSimpArgs false

namespace Go.Proofs.Ytekegfbjbainhaa
open Go.RowKit
attribute [local go_sem ↓] Go.wp_at_zero Go.wp_at_succ
def bothF : Nat → Nat → Bool → List UInt8 → List (List UInt8) → Option (List UInt8 × List UInt8)
 | m, n, own, sum, [] => if m = n ∧ own = true then some (sum, sum) else none
 | m, n, own, sum, x :: r => if m = n ∧ own = true then none else if m = n then (if r.length = 0 then some (x, x) else none) else
  if m ≤ halfN n then (bothF m (halfN n) own sum r).map (fun q => (q.1, digB (1 :: (q.2 ++ x))))
  else (bothF (m - halfN n) (n - halfN n) false sum r).map (fun q => (digB (1 :: (x ++ q.1)), digB (1 :: (x ++ q.2))))
def bothV (o : Option (List UInt8 × List UInt8)) (e : Ending) : Prop := ∃ a b : List UInt8, a.length = 8 ∧ b.length = 8 ∧ e = .returned (.tuple #[dV a, dV b, .bool o.isSome]) ∧ ∀ q, o = some q → q = (a, b)
theorem ret_dig3 {fn : Func} {R : Ending → World → Prop} {a : Act} {w : World} {k k' j b b' : Nat} {d d' : List UInt8} {v : Value} (hf : fn.results = #[ResultVar.cell k 45, ResultVar.cell k' 45, ResultVar.tmp j]) (ha : a.tmps.getD k undef = .pointer (some ⟨b, 0, none⟩)) (hb : a.tmps.getD k' undef = .pointer (some ⟨b', 0, none⟩))
  (hR : RowV w b 45 (d.map u8c)) (hd : d.length = 8) (hR' : RowV w b' 45 (d'.map u8c)) (hd' : d'.length = 8) (hj : a.tmps.getD j undef = v) (hdf : a.defers = []) (h : R (.returned (.tuple #[dV d, dV d', v])) w) : bodyPost Try.prog fn R .ret a w := by
 refine bodyPost_ret (v := .tuple #[dV d, dV d', v]) ?_ hdf h
 have hl := run_loadVar_mid (P := Try.prog) w b 0 45 (d.map u8c) _ hR.range Try.underlying45 rfl (by simpa [hd] using Try.infoDig)
 have hl' := run_loadVar_mid (P := Try.prog) w b' 0 45 (d'.map u8c) _ hR'.range Try.underlying45 rfl (by simpa [hd'] using Try.infoDig)
 have ha' : a.tmps[k]?.getD undef = .pointer (some ⟨b, 0, none⟩) := by rw [← ha]; simp [Array.getD_eq_getD_getElem?]
 have hb' : a.tmps[k']?.getD undef = .pointer (some ⟨b', 0, none⟩) := by rw [← hb]; simp [Array.getD_eq_getD_getElem?]
 have hj' : a.tmps[j]?.getD undef = v := by rw [← hj]; simp [Array.getD_eq_getD_getElem?]
 unfold results
 rw [hf]
 simp [ha', hb', hl, hl', hj', dV, asAddr]
end Go.Proofs.Ytekegfbjbainhaa


namespace Go.Proofs.Ytekegfbjbainhaa
open Go.RowKit
attribute [local go_sem ↓] Go.wp_at_zero Go.wp_at_succ
theorem RowV.past {w w' : World} {b t : Nat} {l : List Value} (hw : Below w.heap.size w w') (h : RowV w b t l) : RowV w' b t l := h.below h.lt hw
theorem RowV.other8 {w : World} {b b' t : Nat} {l : List Value} {v0 v1 v2 v3 v4 v5 v6 v7 : Value} (hne : b ≠ b') (h : RowV w b t l) : RowV ((((((((w.setCell ⟨b', 0, none⟩ v0).setCell ⟨b', 1, none⟩ v1).setCell ⟨b', 2, none⟩ v2).setCell ⟨b', 3, none⟩ v3).setCell ⟨b', 4, none⟩ v4).setCell ⟨b', 5, none⟩ v5).setCell ⟨b', 6, none⟩ v6).setCell ⟨b', 7, none⟩ v7) b t l :=
 (((((((h.other hne _).other hne _).other hne _).other hne _).other hne _).other hne _).other hne _).other hne _
theorem RowV.own8 {w : World} {b t : Nat} {u0 u1 u2 u3 u4 u5 u6 u7 v0 v1 v2 v3 v4 v5 v6 v7 : Value} (h : RowV w b t [u0, u1, u2, u3, u4, u5, u6, u7]) : RowV ((((((((w.setCell ⟨b, 0, none⟩ v0).setCell ⟨b, 1, none⟩ v1).setCell ⟨b, 2, none⟩ v2).setCell ⟨b, 3, none⟩ v3).setCell ⟨b, 4, none⟩ v4).setCell ⟨b, 5, none⟩ v5).setCell ⟨b, 6, none⟩ v6).setCell ⟨b, 7, none⟩ v7) b t [v0, v1, v2, v3, v4, v5, v6, v7] :=
 (((((((h.set 0 _).set 1 _).set 2 _).set 3 _).set 4 _).set 5 _).set 6 _).set 7 _
theorem Below.set8 {w0 w : World} {B b : Nat} {v0 v1 v2 v3 v4 v5 v6 v7 : Value} (h : Below B w0 w) (hb : B ≤ b) : Below B w0 ((((((((w.setCell ⟨b, 0, none⟩ v0).setCell ⟨b, 1, none⟩ v1).setCell ⟨b, 2, none⟩ v2).setCell ⟨b, 3, none⟩ v3).setCell ⟨b, 4, none⟩ v4).setCell ⟨b, 5, none⟩ v5).setCell ⟨b, 6, none⟩ v6).setCell ⟨b, 7, none⟩ v7) :=
 (((((((h.setCell (by exact hb) _).setCell (by exact hb) _).setCell (by exact hb) _).setCell (by exact hb) _).setCell (by exact hb) _).setCell (by exact hb) _).setCell (by exact hb) _).setCell (by exact hb) _
end Go.Proofs.Ytekegfbjbainhaa


namespace Go.Proofs.Ytekegfbjbainhaa
open Go.RowKit
attribute [local go_sem ↓] Go.wp_at_zero Go.wp_at_succ
def headV (n : Int) (d : List UInt8) : Value := .agg (Value.int .i64 n :: d.map u8c).toArray
def inclF (n e : Int) (sum root : List UInt8) (r : List (List UInt8)) : Bool := if e < 0 ∨ n ≤ e then false else (thrF e.toNat n.toNat root r).2 && ((thrF e.toNat n.toNat root r).1 == sum)
theorem eqD_run (x0 x1 x2 x3 x4 x5 x6 x7 y0 y1 y2 y3 y4 y5 y6 y7 : UInt8) (W : World) : (Op.equalIn 10000 45 (.agg #[Value.int .u8 (x0.toNat : Int), Value.int .u8 (x1.toNat : Int), Value.int .u8 (x2.toNat : Int), Value.int .u8 (x3.toNat : Int), Value.int .u8 (x4.toNat : Int), Value.int .u8 (x5.toNat : Int), Value.int .u8 (x6.toNat : Int), Value.int .u8 (x7.toNat : Int)]) (.agg #[Value.int .u8 (y0.toNat : Int), Value.int .u8 (y1.toNat : Int), Value.int .u8 (y2.toNat : Int), Value.int .u8 (y3.toNat : Int), Value.int .u8 (y4.toNat : Int), Value.int .u8 (y5.toNat : Int), Value.int .u8 (y6.toNat : Int), Value.int .u8 (y7.toNat : Int)])).run Try.prog W = .ok ([x0, x1, x2, x3, x4, x5, x6, x7] == [y0, y1, y2, y3, y4, y5, y6, y7]) W :=
 run_equalIn_bytes (P := Try.prog) W 9998 45 5 8 Try.underlying45 Try.underlying5 Try.sizeU8 [x0, x1, x2, x3, x4, x5, x6, x7] [y0, y1, y2, y3, y4, y5, y6, y7] rfl rfl
set_option maxRecDepth 100000 in
set_option maxHeartbeats 1600000 in
theorem isIncl_no (n e : Int) (sum root : List UInt8) (a : Option Addr) (l cap : Nat) (w : World) (hs : sum.length = 8) (hr : root.length = 8) (h : e < 0 ∨ n ≤ e) :
  Calls Try.prog 49 #[headV n sum, .int .i64 e, dV root, .slice a l cap] w fun v w' => v = .returned (.bool false) ∧ Below w.heap.size w w' := by
 obtain ⟨s0, s1, s2, s3, s4, s5, s6, s7, rfl⟩ := list8 sum hs
 obtain ⟨x0, x1, x2, x3, x4, x5, x6, x7, rfl⟩ := list8 root hr
 unfold headV dV u8c
 simp only [List.map_cons, List.map_nil]
 by_cases h0 : e < 0
 ·go_enter Try.func49, Try.ntmps49
  go_wp2
  go_ret
  exact ⟨rfl, ((Below.refl _ _).alloc (Nat.le_refl _) _).alloc (by simp) _⟩
 ·have h1 : n ≤ e := by omega
  have h2 : ¬ e < 0 := h0
  go_enter Try.func49, Try.ntmps49
  go_wp2
  go_ret
  exact ⟨rfl, ((Below.refl _ _).alloc (Nat.le_refl _) _).alloc (by simp) _⟩
set_option maxRecDepth 100000 in
set_option maxHeartbeats 1600000 in
theorem isIncl_yes (n e : Nat) (sum root : List UInt8) (r : List (List UInt8)) (a : Option Addr) (cap : Nat) (w : World) (hs : sum.length = 8) (hr : root.length = 8) (hn : n ≤ 9223372036854775807) (he : e < n) (hp : SlD w a r.reverse) (hl : r.length ≤ cap) (hc : cap ≤ 9223372036854775807) :
  Calls Try.prog 49 #[headV n sum, .int .i64 e, dV root, .slice a r.length cap] w fun v w' => v = .returned (.bool ((thrF e n root r).2 && ((thrF e n root r).1 == sum))) ∧ Below w.heap.size w w' := by
 obtain ⟨s0, s1, s2, s3, s4, s5, s6, s7, rfl⟩ := list8 sum hs
 have hA : Below w.heap.size w ((w.alloc (.cells ((Value.int .i64 (n : Int) :: [s0, s1, s2, s3, s4, s5, s6, s7].map u8c).toArray) 47)).alloc (.cells (root.map u8c).toArray 45)) := ((Below.refl _ _).alloc (Nat.le_refl _) _).alloc (by simp) _
 have HC : Hid (Calls _ _ _ _ _) := sumWith_any r n e root a cap _ (hp.below hA) hl hc hr (by omega) hn he
 have HH : RowV ((w.alloc (.cells ((Value.int .i64 (n : Int) :: [s0, s1, s2, s3, s4, s5, s6, s7].map u8c).toArray) 47)).alloc (.cells (root.map u8c).toArray 45)) w.heap.size 47 (Value.int .i64 (n : Int) :: [s0, s1, s2, s3, s4, s5, s6, s7].map u8c) := (RowV.new w _ _).alloc _
 have HTL := thrF_length r e n root
 generalize thrF e n root r = q at *
 obtain ⟨q1, q2⟩ := q
 simp only at HTL HC ⊢
 obtain ⟨y0, y1, y2, y3, y4, y5, y6, y7, rfl⟩ := list8 q1 HTL
 obtain ⟨x0, x1, x2, x3, x4, x5, x6, x7, rfl⟩ := list8 root hr
 have heq := eqD_run y0 y1 y2 y3 y4 y5 y6 y7 s0 s1 s2 s3 s4 s5 s6 s7
 have h2 : ¬ (e : Int) < 0 := by omega
 have h3 : ¬ (n : Int) ≤ e := by omega
 unfold headV dV u8c at *
 simp only [List.map_cons, List.map_nil] at *
 generalize ([y0, y1, y2, y3, y4, y5, y6, y7] == [s0, s1, s2, s3, s4, s5, s6, s7]) = eqv at *
 go_enter Try.func49, Try.ntmps49
 go_wp2_with fail
 refine HC.out.mono ?_
 rintro v w3 ⟨rfl, hb3⟩
 have H3 := RowV.past hb3 HH
 have H4 := H3.alloc (.cells #[Value.int .u8 (y0.toNat : Int), Value.int .u8 (y1.toNat : Int), Value.int .u8 (y2.toNat : Int), Value.int .u8 (y3.toNat : Int), Value.int .u8 (y4.toNat : Int), Value.int .u8 (y5.toNat : Int), Value.int .u8 (y6.toNat : Int), Value.int .u8 (y7.toNat : Int)] 45)
 have c0 : (w3.alloc (.cells #[Value.int .u8 (y0.toNat : Int), Value.int .u8 (y1.toNat : Int), Value.int .u8 (y2.toNat : Int), Value.int .u8 (y3.toNat : Int), Value.int .u8 (y4.toNat : Int), Value.int .u8 (y5.toNat : Int), Value.int .u8 (y6.toNat : Int), Value.int .u8 (y7.toNat : Int)] 45)).cell? ⟨w.heap.size, 1, none⟩ = some (.int .u8 (s0.toNat : Int)) := RowV.cell? H4 1
 have c1 : (w3.alloc (.cells #[Value.int .u8 (y0.toNat : Int), Value.int .u8 (y1.toNat : Int), Value.int .u8 (y2.toNat : Int), Value.int .u8 (y3.toNat : Int), Value.int .u8 (y4.toNat : Int), Value.int .u8 (y5.toNat : Int), Value.int .u8 (y6.toNat : Int), Value.int .u8 (y7.toNat : Int)] 45)).cell? ⟨w.heap.size, 2, none⟩ = some (.int .u8 (s1.toNat : Int)) := RowV.cell? H4 2
 have c2 : (w3.alloc (.cells #[Value.int .u8 (y0.toNat : Int), Value.int .u8 (y1.toNat : Int), Value.int .u8 (y2.toNat : Int), Value.int .u8 (y3.toNat : Int), Value.int .u8 (y4.toNat : Int), Value.int .u8 (y5.toNat : Int), Value.int .u8 (y6.toNat : Int), Value.int .u8 (y7.toNat : Int)] 45)).cell? ⟨w.heap.size, 3, none⟩ = some (.int .u8 (s2.toNat : Int)) := RowV.cell? H4 3
 have c3 : (w3.alloc (.cells #[Value.int .u8 (y0.toNat : Int), Value.int .u8 (y1.toNat : Int), Value.int .u8 (y2.toNat : Int), Value.int .u8 (y3.toNat : Int), Value.int .u8 (y4.toNat : Int), Value.int .u8 (y5.toNat : Int), Value.int .u8 (y6.toNat : Int), Value.int .u8 (y7.toNat : Int)] 45)).cell? ⟨w.heap.size, 4, none⟩ = some (.int .u8 (s3.toNat : Int)) := RowV.cell? H4 4
 have c4 : (w3.alloc (.cells #[Value.int .u8 (y0.toNat : Int), Value.int .u8 (y1.toNat : Int), Value.int .u8 (y2.toNat : Int), Value.int .u8 (y3.toNat : Int), Value.int .u8 (y4.toNat : Int), Value.int .u8 (y5.toNat : Int), Value.int .u8 (y6.toNat : Int), Value.int .u8 (y7.toNat : Int)] 45)).cell? ⟨w.heap.size, 5, none⟩ = some (.int .u8 (s4.toNat : Int)) := RowV.cell? H4 5
 have c5 : (w3.alloc (.cells #[Value.int .u8 (y0.toNat : Int), Value.int .u8 (y1.toNat : Int), Value.int .u8 (y2.toNat : Int), Value.int .u8 (y3.toNat : Int), Value.int .u8 (y4.toNat : Int), Value.int .u8 (y5.toNat : Int), Value.int .u8 (y6.toNat : Int), Value.int .u8 (y7.toNat : Int)] 45)).cell? ⟨w.heap.size, 6, none⟩ = some (.int .u8 (s5.toNat : Int)) := RowV.cell? H4 6
 have c6 : (w3.alloc (.cells #[Value.int .u8 (y0.toNat : Int), Value.int .u8 (y1.toNat : Int), Value.int .u8 (y2.toNat : Int), Value.int .u8 (y3.toNat : Int), Value.int .u8 (y4.toNat : Int), Value.int .u8 (y5.toNat : Int), Value.int .u8 (y6.toNat : Int), Value.int .u8 (y7.toNat : Int)] 45)).cell? ⟨w.heap.size, 7, none⟩ = some (.int .u8 (s6.toNat : Int)) := RowV.cell? H4 7
 have c7 : (w3.alloc (.cells #[Value.int .u8 (y0.toNat : Int), Value.int .u8 (y1.toNat : Int), Value.int .u8 (y2.toNat : Int), Value.int .u8 (y3.toNat : Int), Value.int .u8 (y4.toNat : Int), Value.int .u8 (y5.toNat : Int), Value.int .u8 (y6.toNat : Int), Value.int .u8 (y7.toNat : Int)] 45)).cell? ⟨w.heap.size, 8, none⟩ = some (.int .u8 (s7.toNat : Int)) := RowV.cell? H4 8
 have hz3 := hb3.size
 simp only [World.size_alloc] at hz3
 cases q2
 all_goals
  go_wp2
  go_ret
  exact ⟨rfl, (hA.trans (hb3.mono hA.size)).alloc (by omega) _⟩
theorem isIncl_any (n e : Int) (sum root : List UInt8) (r : List (List UInt8)) (a : Option Addr) (cap : Nat) (w : World) (hs : sum.length = 8) (hr : root.length = 8) (hn : n ≤ 9223372036854775807) (hp : SlD w a r.reverse) (hl : r.length ≤ cap) (hc : cap ≤ 9223372036854775807) :
  Calls Try.prog 49 #[headV n sum, .int .i64 e, dV root, .slice a r.length cap] w fun v w' => v = .returned (.bool (inclF n e sum root r)) ∧ Below w.heap.size w w' := by
 unfold inclF
 by_cases h : e < 0 ∨ n ≤ e
 ·rw [if_pos h]
  exact isIncl_no n e sum root a r.length cap w hs hr h
 ·rw [if_neg h]
  obtain ⟨n', rfl⟩ : ∃ n' : Nat, n = n' := ⟨n.toNat, by omega⟩
  obtain ⟨e', rfl⟩ : ∃ e' : Nat, e = e' := ⟨e.toNat, by omega⟩
  simp only [Int.toNat_natCast]
  exact isIncl_yes n' e' sum root r a cap w hs hr (by omega) (by omega) hp hl hc
set_option maxRecDepth 100000 in
set_option maxHeartbeats 1600000 in
theorem inclP_any (n e : Int) (sum root : List UInt8) (r : List (List UInt8)) (a : Option Addr) (cap : Nat) (w : World) (hs : sum.length = 8) (hr : root.length = 8) (hn : n ≤ 9223372036854775807) (hp : SlD w a r.reverse) (hl : r.length ≤ cap) (hc : cap ≤ 9223372036854775807) :
  Calls Try.prog 28 #[headV n sum, .int .i64 e, dV root, .slice a r.length cap] w fun v w' => v = .returned (.bool (inclF n e sum root r)) ∧ Below w.heap.size w w' := by
 have hA : Below w.heap.size w ((w.alloc (.cells ((Value.int .i64 n :: sum.map u8c).toArray) 47)).alloc (.cells (root.map u8c).toArray 45)) := ((Below.refl _ _).alloc (Nat.le_refl _) _).alloc (by simp) _
 have HC : Hid (Calls _ _ _ _ _) := isIncl_any n e sum root r a cap _ hs hr hn (hp.below hA) hl hc
 obtain ⟨s0, s1, s2, s3, s4, s5, s6, s7, rfl⟩ := list8 sum hs
 obtain ⟨x0, x1, x2, x3, x4, x5, x6, x7, rfl⟩ := list8 root hr
 generalize inclF n e [s0, s1, s2, s3, s4, s5, s6, s7] [x0, x1, x2, x3, x4, x5, x6, x7] r = v at *
 unfold headV dV u8c at *
 simp only [List.map_cons, List.map_nil] at *
 go_enter Try.func28, Try.ntmps28
 go_wp2_with fail
 refine HC.out.mono ?_
 rintro e w3 ⟨rfl, hb3⟩
 go_wp2
 go_ret
 exact ⟨rfl, hA.trans (hb3.mono hA.size)⟩
end Go.Proofs.Ytekegfbjbainhaa


namespace Go.Proofs.Ytekegfbjbainhaa
open Go.RowKit
structure EnP where
 k : SlR
 v : SlR
 d : List UInt8
def enC (x : EnP) : List Value := x.k.val :: x.v.val :: x.d.map u8c
def ensC (l : List EnP) : List Value := l.flatMap enC
def zero8 : List UInt8 := [0, 0, 0, 0, 0, 0, 0, 0]
theorem enC_length (x : EnP) (h : x.d.length = 8) : (enC x).length = 10 := by simp [enC, h]
theorem ensC_length (l : List EnP) (h : ∀ x ∈ l, x.d.length = 8) : (ensC l).length = l.length * 10 := flat_length enC 10 l (fun x hx => enC_length x (h x hx))
theorem ensC_one (l : List EnP) : ∀ u ∈ ensC l, u.oneCell' = true := fun u hu => by
 obtain ⟨x, _, hx⟩ := List.mem_flatMap.1 hu
 simp only [enC, List.mem_cons, List.mem_map, SlR.val] at hx
 rcases hx with rfl | rfl | ⟨y, _, rfl⟩ <;> rfl
def SlE (w : World) (a : Option Addr) (l : List EnP) : Prop := SlV w a (ensC l)
theorem SlE.range {w : World} {a : Option Addr} {l : List EnP} (h : SlE w a l) (h8 : ∀ x ∈ l, x.d.length = 8) (i : Nat) (hi : i < l.length) : ∃ b o, a = some ⟨b, o, none⟩ ∧ b < w.heap.size ∧ w.rangeAt b (o + i * 10) (enC l[i]) := by
 have hm := enC_length l[i] (h8 _ (List.getElem_mem hi))
 have g := fun j (hj : j < 10) => flat_get enC 10 l (fun x hx => enC_length x (h8 x hx)) i hi j hj
 obtain ⟨b, o, ha, hb, c0⟩ := SlV.at h (g 0 (by omega))
 refine ⟨b, o, ha, hb, fun j v hv => ?_⟩
 have hj : j < 10 := by have := (List.getElem?_eq_some_iff.1 hv).1; omega
 obtain ⟨b1, o1, ha1, _, c1⟩ := SlV.at h ((g j hj).trans hv)
 rw [ha] at ha1
 cases ha1
 rw [Nat.add_assoc]; exact c1
structure EnOk (w : World) (x : EnP) (it : ItR) : Prop where
 key : BS w x.k it.key
 val : BS w x.v it.more
 dig : x.d = zero8
theorem EnOk.frame {w w' : World} {S : Nat → Prop} {x : EnP} {it : ItR} (h : EnOk w x it) (hf : Frame S w w') (h1 : ∀ y, x.k.a = some y → ¬ S y.block) (h2 : ∀ y, x.v.a = some y → ¬ S y.block) : EnOk w' x it := ⟨h.key.frame hf h1, h.val.frame hf h2, h.dig⟩
theorem EnOk.below {w w' : World} {x : EnP} {it : ItR} (h : EnOk w x it) (hf : Below w.heap.size w w') : EnOk w' x it := ⟨h.key.below hf, h.val.below hf, h.dig⟩
def Rising (l : List ItR) : Prop := l.Pairwise (fun x y => Op.bytesLess x.key y.key = true)
theorem less_trans : ∀ {a b c : List UInt8}, Op.bytesLess a b = true → Op.bytesLess b c = true → Op.bytesLess a c = true
 | _, _, [], h, k => by cases ‹List UInt8› <;> simp [Op.bytesLess] at k
 | _, [], _ :: _, h, k => by cases ‹List UInt8› <;> simp [Op.bytesLess] at h
 | [], _ :: _, _ :: _, h, k => by simp [Op.bytesLess]
 | x :: a, y :: b, z :: c, h, k => by
  simp only [Op.bytesLess, Bool.or_eq_true, decide_eq_true_eq, Bool.and_eq_true, beq_iff_eq] at h k ⊢
  rcases h with h | ⟨rfl, h⟩
  ·rcases k with k | ⟨rfl, k⟩
   ·exact Or.inl (UInt8.lt_trans h k)
   ·exact Or.inl h
  ·rcases k with k | ⟨rfl, k⟩
   ·exact Or.inl k
   ·exact Or.inr ⟨rfl, less_trans h k⟩
theorem less_irrefl : ∀ (a : List UInt8), Op.bytesLess a a = false
 | [] => rfl
 | x :: a => by simp [Op.bytesLess, less_irrefl a, UInt8.lt_irrefl]
theorem less_total : ∀ (a b : List UInt8), Op.bytesLess a b = false → a ≠ b → Op.bytesLess b a = true
 | [], [], _, h => absurd rfl h
 | [], _ :: _, h, _ => by simp [Op.bytesLess] at h
 | _ :: _, [], _, _ => by simp [Op.bytesLess]
 | x :: a, y :: b, h, hne => by
  simp only [Op.bytesLess, Bool.or_eq_false_iff, decide_eq_false_iff_not, Bool.and_eq_false_iff, Bool.or_eq_true, decide_eq_true_eq, Bool.and_eq_true, beq_iff_eq] at h ⊢
  obtain ⟨h1, h2⟩ := h
  by_cases e : x = y
  ·subst e
   refine Or.inr ⟨rfl, less_total a b ?_ (fun e => hne (by rw [e]))⟩
   rcases h2 with h2 | h2
   ·simp at h2
   ·exact h2
  ·exact Or.inl (UInt8.lt_of_le_of_ne (UInt8.not_lt.1 h1) (Ne.symm e))
theorem rising_place : ∀ (l : List ItR) (key : List UInt8), Rising l → ∀ i (h : i < l.length), lessK key l[i] = decide (i < placeN l key)
 | [], _, _, i, h => absurd h (Nat.not_lt_zero _)
 | x :: l, key, hr, i, h => by
  obtain ⟨h1, h2⟩ := List.pairwise_cons.1 hr
  have ih := rising_place l key h2
  unfold placeN at ih ⊢
  rw [List.takeWhile_cons]
  by_cases hx : lessK key x = true
  ·rw [if_pos hx]
   cases i with
   | zero => simp [hx]
   | succ j => simpa using ih j (by simpa using h)
  ·rw [if_neg hx]
   cases i with
   | zero => simpa using hx
   | succ j =>
    have hj : j < l.length := by simpa using h
    have hlt := h1 l[j] (List.getElem_mem hj)
    simp only [List.getElem_cons_succ, List.length_nil, Nat.not_lt_zero, decide_false]
    cases hc : lessK key l[j] with
    | false => rfl
    | true => exact absurd (less_trans hlt hc) hx
set_option maxRecDepth 100000 in
theorem findKey_any (x : EnP) (it : ItR) (sk : SlR) (key : List UInt8) (w : World) (hx : EnOk w x it) (hk : BS w sk key) :
  Calls Try.prog 59 #[.agg #[x.k.val, x.v.val, .int .u8 0, .int .u8 0, .int .u8 0, .int .u8 0, .int .u8 0, .int .u8 0, .int .u8 0, .int .u8 0], sk.val] w fun e w' => e = .returned (.int .i64 (Lib.compareBytes it.key key)) ∧ Below w.heap.size w w' := by
 have hB : Below w.heap.size w (w.alloc (.cells #[x.k.val, x.v.val, .int .u8 0, .int .u8 0, .int .u8 0, .int .u8 0, .int .u8 0, .int .u8 0, .int .u8 0, .int .u8 0] 103)) := (Below.refl _ _).alloc (Nat.le_refl _) _
 have HC : Hid (Calls _ _ _ _ _) := compare_any x.k sk it.key key _ (hx.key.below hB) (hk.below hB)
 have HB : Hid (Below _ _ _) := hB
 clear hB
 unfold SlR.val at *
 go_enter Try.func59, Try.ntmps59
 go_wp2_with (go_at_call 44; refine HC.out.mono ?_; rintro e w1 ⟨rfl, rfl⟩)
 go_ret
 exact ⟨rfl, HB.out⟩
end Go.Proofs.Ytekegfbjbainhaa


namespace Go.Proofs.Ytekegfbjbainhaa
open Go.RowKit
set_option maxRecDepth 100000 in
set_option maxHeartbeats 1000000 in
theorem bsearch_any (a : Option Addr) (cap n : Nat) (xs : List EnP) (its : List ItR) (sk : SlR) (key : List UInt8) (w : World) (hn : n = xs.length) (hl : its.length = xs.length) (h60 : xs.length ≤ 60) (hs : SlE w a xs)
  (hok : ∀ i (h1 : i < xs.length) (h2 : i < its.length), EnOk w xs[i] its[i]) (hr : Rising its) (hk : BS w sk key) :
  Calls Try.prog 58 #[.slice a n cap, sk.val, .func (.func 59) #[] #[]] w fun e w' => e = .returned (.tuple #[.int .i64 (placeN its key : Int), .bool (thereB its key)]) ∧ Below w.heap.size w w' := by
 have h8 : ∀ x ∈ xs, x.d.length = 8 := fun x hx => by
  obtain ⟨i, hi, rfl⟩ := List.getElem_of_mem hx
  rw [(hok i hi (by omega)).dig]; rfl
 have HP := rising_place its key hr
 have hple := placeN_le its key
 have hT : Hid (thereB its key = ((its[placeN its key]?).map (fun x => x.key == key)).getD false) := rfl
 generalize hpt : thereB its key = pt at *
 generalize hpp : placeN its key = pp at *
 have HQ : Hid (∀ (wr : World), Below w.heap.size w wr → ∀ h, h < n → ∃ b o kv vv c, a = some ⟨b, o, none⟩ ∧ wr.rangeAt b (o + h * 10) [kv, vv, .int .u8 0, .int .u8 0, .int .u8 0, .int .u8 0, .int .u8 0, .int .u8 0, .int .u8 0, .int .u8 0] ∧
   Calls Try.prog 59 #[.agg #[kv, vv, .int .u8 0, .int .u8 0, .int .u8 0, .int .u8 0, .int .u8 0, .int .u8 0, .int .u8 0, .int .u8 0], sk.val] wr (fun e w' => e = .returned (.int .i64 c) ∧ Below wr.heap.size wr w') ∧
   kv.cells = #[kv] ∧ vv.cells = #[vv] ∧ (c < 0 ↔ h < pp) ∧ (h = pp → pt = (c == 0))) := fun wr hB h h1 => by
  subst hn
  obtain ⟨b, o, ha, hb, hc⟩ := SlE.range hs h8 h h1
  refine ⟨b, o, xs[h].k.val, xs[h].v.val, Lib.compareBytes (its[h]'(by omega)).key key, ha, fun j v hv => ?_, ?_, rfl, rfl, ?_, ?_⟩
  ·rw [hB.cell (p := ⟨b, o + h * 10 + j, none⟩) hb]
   refine hc j v ?_
   unfold enC
   rw [(hok h h1 (by omega)).dig]
   exact hv
  ·exact findKey_any xs[h] (its[h]'(by omega)) sk key wr ((hok h h1 (by omega)).below hB) (hk.below hB)
  ·rw [cmp_neg]
   have := HP h (by omega)
   unfold lessK at this
   rw [this]; simp
  ·intro e
   subst e
   rw [hT.out, List.getElem?_eq_getElem (by omega)]
   simp only [Option.map_some, Option.getD_some]
   rw [Bool.eq_iff_iff]
   simp [cmp_zero]
 have HT0 : Hid (n = pp → pt = false) := fun e => by
  rw [hT.out, List.getElem?_eq_none (by omega)]; rfl
 have hple : pp ≤ n := by omega
 have h60 : n ≤ 60 := by omega
 clear hok hs hk HP hr h8 hpt hpp hT hn hl
 unfold SlR.val at *
 go_enter Try.func58, Try.ntmps58
 go_wp2
 go_loopw [9, 10, 11] (fun x y _ wr => ∃ i j : Nat, i ≤ pp ∧ pp ≤ j ∧ j ≤ n ∧ x = .int .i64 i ∧ y = .int .i64 j ∧ Below w.heap.size w wr) (fun x y _ _ => (intOf y).toNat - (intOf x).toNat)
 case atStart => exact ⟨0, n, by omega, hple, by omega, by simp, by simp, Below.refl _ _⟩
 case round =>
  obtain ⟨i, j, hi, hj, hjn, rfl, rfl, hB⟩ := hrel
  by_cases hlt : i < j
  ·have hltI : (i : Int) < j := by omega
   obtain ⟨h, hh⟩ : ∃ h : Nat, h = (i + j) / 2 := ⟨_, rfl⟩
   have hhI : ((i : Int) + j) / 2 = h := by omega
   have hh1 : h < n := by omega
   have hhi : i ≤ h := by omega
   have hhj : h < j := by omega
   have hh2 : (h : Int) < n := by omega
   have hh3 : (h : Int) ≤ 60 := by omega
   clear hh
   obtain ⟨b, o, kv, vv, c, rfl, hc, hcall, hkv, hvv, hneg, _⟩ := HQ.out wr hB h hh1
   have HC : Hid (Calls _ _ _ _ _) := hcall
   have HN : Hid (c < 0 ↔ h < pp) := hneg
   clear hcall hneg
   have c0 := hc 0 _ rfl
   have c1 := hc 1 _ rfl
   have c2 := hc 2 _ rfl
   have c3 := hc 3 _ rfl
   have c4 := hc 4 _ rfl
   have c5 := hc 5 _ rfl
   have c6 := hc 6 _ rfl
   have c7 := hc 7 _ rfl
   have c8 := hc 8 _ rfl
   have c9 := hc 9 _ rfl
   clear hc
   simp only [Nat.add_zero] at c0
   by_cases hc0 : c < 0
   ·have hlp := HN.out.1 hc0
    go_wp2_with (go_at_call 59; refine HC.out.mono ?_; rintro e w1 ⟨rfl, hb1⟩)
    refine ⟨⟨h + 1, j, by omega, by omega, by omega, by go_num, by simp, hB.trans (hb1.mono hB.size)⟩, ?_⟩
    simp [intOf]; omega
   ·have hlp : ¬ h < pp := fun x => hc0 (HN.out.2 x)
    go_wp2_with (go_at_call 59; refine HC.out.mono ?_; rintro e w1 ⟨rfl, hb1⟩)
    refine ⟨⟨i, h, by omega, by omega, by omega, by simp, by simp, hB.trans (hb1.mono hB.size)⟩, ?_⟩
    simp [intOf]; omega
  ·obtain rfl : i = j := by omega
   obtain rfl : i = pp := by omega
   clear hlt
   by_cases hin : i < n
   ·have hinI : (i : Int) < n := by omega
    obtain ⟨b, o, kv, vv, c, rfl, hc, hcall, hkv, hvv, _, hpt⟩ := HQ.out wr hB i hin
    have HC : Hid (Calls _ _ _ _ _) := hcall
    have HPT : Hid (pt = (c == 0)) := hpt rfl
    clear hcall hpt
    have c0 := hc 0 _ rfl
    have c1 := hc 1 _ rfl
    have c2 := hc 2 _ rfl
    have c3 := hc 3 _ rfl
    have c4 := hc 4 _ rfl
    have c5 := hc 5 _ rfl
    have c6 := hc 6 _ rfl
    have c7 := hc 7 _ rfl
    have c8 := hc 8 _ rfl
    have c9 := hc 9 _ rfl
    clear hc
    simp only [Nat.add_zero] at c0
    go_wp2_with (go_at_call 59; refine HC.out.mono ?_; rintro e w1 ⟨rfl, hb1⟩)
    go_ret2
    exact ⟨by rw [HPT.out]; rfl, hB.trans (hb1.mono hB.size)⟩
   ·have hinI : ¬ (i : Int) < n := by omega
    have HPT : Hid (pt = false) := HT0.out (by omega)
    go_wp2
    go_ret2
    exact ⟨by rw [HPT.out]; rfl, hB⟩
end Go.Proofs.Ytekegfbjbainhaa
