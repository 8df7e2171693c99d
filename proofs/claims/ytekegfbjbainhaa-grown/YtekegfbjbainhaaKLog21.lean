
import Derived.Test.YtekegfbjbainhaaKJoin20
import Derived.Test.YtekegfbjbainhaaKJoin13
import Derived.Test.YtekegfbjbainhaaKJoin14
set_option linter.unusedVariables false
set_option linter.unusedSimpArgs false
namespace Go.Proofs.Ytekegfbjbainhaa
open Go.RowKit
attribute [local go_sem ↓] Go.wp_at_zero Go.wp_at_succ
theorem rootOf_length' (nd : Nd) : (rootOf nd).length = 8 := digB_length _
set_option maxRecDepth 100000 in
theorem hExt_zero (a : Option Addr) (n cap : Nat) (w : World) : Calls Try.prog 48 #[.slice a n cap, .int .i64 ((0 : Nat) : Int)] w (pathPost w []) := by
 go_enter Try.func48, Try.ntmps48
 go_wp2
 go_returns
 exact pathPost.nil w
set_option maxRecDepth 100000 in
theorem hExt_some (m : Nat) (L : List (List UInt8)) (a : Option Addr) (n cap : Nat) (w : World) (hm : 1 ≤ m) (hm2 : m ≤ 40) (h : Calls Try.prog 68 #[.slice a n cap, .int .i64 (m : Int), .bool true] w (pathPost w L)) : Calls Try.prog 48 #[.slice a n cap, .int .i64 (m : Int)] w (pathPost w L) := by
 have HC : Hid (Calls _ _ _ _ (pathPost w L)) := h
 clear h
 have h0 : ((m : Int) == 0) = false := by rw [Bool.eq_false_iff]; simp only [ne_eq, beq_iff_eq]; omega
 go_enter Try.func48, Try.ntmps48
 go_wp2_with fail
 refine HC.out.mono ?_
 rintro v w1 hp
 unfold pathPost at hp
 obtain ⟨s, rfl, ho, hb⟩ := hp
 go_wp2
 go_returns
 exact ⟨s, rfl, ho, hb⟩
set_option maxRecDepth 100000 in
theorem stoIncl_no (sb N : Nat) (e n : Int) (w : World) (hN : N ≤ 40) (hcm : ∀ W, W = w → Calls Try.prog 45 #[.pointer (some ⟨sb, 0, none⟩)] W fun e w' => e = .returned (.int .i64 (N : Int)) ∧ w' = W) (h : n < 1 ∨ (N : Int) < n ∨ e < 0 ∨ n ≤ e) :
  Calls Try.prog 26 #[.pointer (some ⟨sb, 0, none⟩), .int .i64 e, .int .i64 n] w (logPost w ([], 4)) := by
 have hNI : (N : Int) ≤ 40 := by omega
 have HCM : Hid (∀ W, W = w → Calls Try.prog 45 #[.pointer (some ⟨sb, 0, none⟩)] W fun e w' => e = .returned (.int .i64 (N : Int)) ∧ w' = W) := hcm
 clear hcm
 by_cases h1 : n < 1
 ·go_enter Try.func26, Try.ntmps26
  go_wp2
  go_returns
  exact logPost.nope w 4
 by_cases h2 : (N : Int) < n
 ·have h1' : ¬ n < 1 := h1
  go_enter Try.func26, Try.ntmps26
  go_wp2_with fail
  refine (HCM.out _ rfl).mono ?_
  rintro v w1 ⟨rfl, hw1⟩
  obtain rfl : w = w1 := hw1.symm
  clear hw1
  go_wp2
  go_returns
  exact logPost.nope w 4
 by_cases h3 : e < 0
 ·have h1' : ¬ n < 1 := h1
  have h2' : ¬ (N : Int) < n := h2
  go_enter Try.func26, Try.ntmps26
  go_wp2_with fail
  refine (HCM.out _ rfl).mono ?_
  rintro v w1 ⟨rfl, hw1⟩
  obtain rfl : w = w1 := hw1.symm
  clear hw1
  go_wp2
  go_returns
  exact logPost.nope w 4
 ·have h4 : n ≤ e := by omega
  have h1' : ¬ n < 1 := h1
  have h2' : ¬ (N : Int) < n := h2
  have h3' : ¬ e < 0 := h3
  go_enter Try.func26, Try.ntmps26
  go_wp2_with fail
  refine (HCM.out _ rfl).mono ?_
  rintro v w1 ⟨rfl, hw1⟩
  obtain rfl : w = w1 := hw1.symm
  clear hw1
  go_wp2
  go_returns
  exact logPost.nope w 4
set_option maxRecDepth 100000 in
theorem stoIncl_yes (sb N e n : Nat) (L : List (List UInt8)) (w : World) (hN : N ≤ 40) (hcm : ∀ W, W = w → Calls Try.prog 45 #[.pointer (some ⟨sb, 0, none⟩)] W fun e w' => e = .returned (.int .i64 (N : Int)) ∧ w' = W) (hn : 1 ≤ n) (hn2 : n ≤ N) (he : e < n)
  (hrt : Calls Try.prog 47 #[.pointer (some ⟨sb, 0, none⟩), .int .i64 (n : Int)] w fun r w' => ∃ v : SlR, r = .returned (.slice v.a v.n v.cap) ∧ Below w.heap.size w w' ∧ Calls Try.prog 46 #[.slice v.a v.n v.cap, .int .i64 (e : Int)] w' (pathPost w' L)) :
  Calls Try.prog 26 #[.pointer (some ⟨sb, 0, none⟩), .int .i64 (e : Int), .int .i64 (n : Int)] w (logPost w (L, 0)) := by
 have HCM : Hid (∀ W, W = w → Calls Try.prog 45 #[.pointer (some ⟨sb, 0, none⟩)] W fun e w' => e = .returned (.int .i64 (N : Int)) ∧ w' = W) := hcm
 have HRT : Hid (Calls _ _ _ _ _) := hrt
 clear hcm hrt
 have hNI : (N : Int) ≤ 40 := by omega
 have h1 : ¬ (n : Int) < 1 := by omega
 have h2 : ¬ (N : Int) < n := by omega
 have h3 : ¬ (e : Int) < 0 := by omega
 have h4 : ¬ (n : Int) ≤ e := by omega
 go_enter Try.func26, Try.ntmps26
 go_wp2_with fail
 refine (HCM.out _ rfl).mono ?_
 rintro v w1 ⟨rfl, hw1⟩
 obtain rfl : w = w1 := hw1.symm
 clear hw1
 go_wp2_with fail
 refine HRT.out.mono ?_
 rintro v w2 ⟨s, rfl, hb2, hc2⟩
 have HC2 : Hid (Calls _ _ _ _ _) := hc2
 clear hc2
 go_wp2_with fail
 refine HC2.out.mono ?_
 rintro v w3 hp
 unfold pathPost at hp
 obtain ⟨s3, rfl, ho, hb⟩ := hp
 have HO : Hid (w3.ownsRow w.heap.size 45 8 (.slice s3.a s3.n s3.cap) L.length (digsC L)) := owns_base ho (fun k hk => Nat.le_trans hb2.size (ho.lt k hk).1)
 have HB : Hid (Below w.heap.size w w3) := hb2.trans (hb.mono hb2.size)
 clear ho hb hb2
 go_wp2
 go_returns
 exact ⟨s3, rfl, HO.out, HB.out⟩
theorem stoIncl_any (sb N : Nat) (en tr : SlR) (mp : Option Nat) (es : List MEn) (xs : List EnP) (its : List ItR) (tds : List Nd) (e n : Int) (w : World) (h : StoAt w sb N en tr mp es xs its tds) (h40 : tds.length ≤ 40) :
  Calls Try.prog 26 #[.pointer (some ⟨sb, 0, none⟩), .int .i64 e, .int .i64 n] w (logPost w (incS (tds.map rootOf) e n)) := by
 obtain ⟨hsv, hrn⟩ := SlV.ofOwn (s := tr) h.own
 have r2 : w.cell? ⟨sb, 2, none⟩ = some tr.val := RowV.cell h.row 2 (by simp)
 have hcm : ∀ W, W = w → Calls Try.prog 45 #[.pointer (some ⟨sb, 0, none⟩)] W fun e w' => e = .returned (.int .i64 (tds.length : Int)) ∧ w' = W := fun W hW => by
  subst hW
  have := commits_any sb tr W r2 (by omega)
  rw [hrn] at this
  exact this
 unfold incS
 by_cases hb : n < 1 ∨ (((tds.map rootOf).length : Nat) : Int) < n ∨ e < 0 ∨ n ≤ e
 ·rw [if_pos hb]
  rw [List.length_map] at hb
  exact stoIncl_no sb tds.length e n w h40 hcm hb
 ·rw [if_neg hb]
  rw [List.length_map] at hb
  obtain ⟨n', rfl⟩ : ∃ n' : Nat, n = n' := ⟨n.toNat, by omega⟩
  obtain ⟨e', rfl⟩ : ∃ e' : Nat, e = e' := ⟨e.toNat, by omega⟩
  simp only [Int.toNat_natCast]
  refine stoIncl_yes sb tds.length e' n' _ w h40 hcm (by omega) (by simp at hb; omega) (by omega) ((roots_any sb n' tr tds w r2 hsv hrn h40 (fun nd hnd => (h.nds nd hnd).1) (by simp at hb; omega)).mono ?_)
  rintro r w' ⟨v, rfl, ho, hb'⟩
  have hvc := owns_cap (a := v.a) (n' := v.n) (cap := v.cap) ho
  have hsd : SlD w' v.a ((tds.take n').map rootOf) := ⟨(SlV.ofOwn (s := v) ho).1, fun d hd => by
   obtain ⟨x, _, rfl⟩ := List.mem_map.1 hd
   exact rootOf_length' x⟩
  have hv := incl_any 42 e' ((tds.take n').map rootOf) v.a v.cap w' (by simp; omega) (by omega) (by simp; omega) (by rw [List.length_map, List.length_take, Nat.min_eq_left (by simp at hb; omega)]; exact hvc.2.1) (by have := hvc.2.2.1; unfold maxLen at this; omega) hsd (by simp; simp at hb; omega)
  rw [List.length_map, List.length_take, Nat.min_eq_left (by simp at hb; omega), List.map_take] at hv
  exact ⟨v, rfl, hb', by rw [hvc.1]; exact hv⟩
set_option maxRecDepth 100000 in
theorem stoExt_no (sb N : Nat) (e n : Int) (w : World) (hN : N ≤ 40) (hcm : ∀ W, W = w → Calls Try.prog 45 #[.pointer (some ⟨sb, 0, none⟩)] W fun e w' => e = .returned (.int .i64 (N : Int)) ∧ w' = W) (h : n < 0 ∨ (N : Int) < n ∨ e < 0 ∨ n < e) :
  Calls Try.prog 27 #[.pointer (some ⟨sb, 0, none⟩), .int .i64 e, .int .i64 n] w (logPost w ([], 4)) := by
 have hNI : (N : Int) ≤ 40 := by omega
 have HCM : Hid (∀ W, W = w → Calls Try.prog 45 #[.pointer (some ⟨sb, 0, none⟩)] W fun e w' => e = .returned (.int .i64 (N : Int)) ∧ w' = W) := hcm
 clear hcm
 by_cases h1 : n < 0
 ·go_enter Try.func27, Try.ntmps27
  go_wp2
  go_returns
  exact logPost.nope w 4
 by_cases h2 : (N : Int) < n
 ·have h1' : ¬ n < 0 := h1
  go_enter Try.func27, Try.ntmps27
  go_wp2_with fail
  refine (HCM.out _ rfl).mono ?_
  rintro v w1 ⟨rfl, hw1⟩
  obtain rfl : w = w1 := hw1.symm
  clear hw1
  go_wp2
  go_returns
  exact logPost.nope w 4
 by_cases h3 : e < 0
 ·have h1' : ¬ n < 0 := h1
  have h2' : ¬ (N : Int) < n := h2
  go_enter Try.func27, Try.ntmps27
  go_wp2_with fail
  refine (HCM.out _ rfl).mono ?_
  rintro v w1 ⟨rfl, hw1⟩
  obtain rfl : w = w1 := hw1.symm
  clear hw1
  go_wp2
  go_returns
  exact logPost.nope w 4
 ·have h4 : n < e := by omega
  have h1' : ¬ n < 0 := h1
  have h2' : ¬ (N : Int) < n := h2
  have h3' : ¬ e < 0 := h3
  go_enter Try.func27, Try.ntmps27
  go_wp2_with fail
  refine (HCM.out _ rfl).mono ?_
  rintro v w1 ⟨rfl, hw1⟩
  obtain rfl : w = w1 := hw1.symm
  clear hw1
  go_wp2
  go_returns
  exact logPost.nope w 4
set_option maxRecDepth 100000 in
theorem stoExt_yes (sb N e n : Nat) (L : List (List UInt8)) (w : World) (hN : N ≤ 40) (hcm : ∀ W, W = w → Calls Try.prog 45 #[.pointer (some ⟨sb, 0, none⟩)] W fun e w' => e = .returned (.int .i64 (N : Int)) ∧ w' = W) (hn : 0 ≤ n) (hn2 : n ≤ N) (he : e ≤ n)
  (hrt : Calls Try.prog 47 #[.pointer (some ⟨sb, 0, none⟩), .int .i64 (n : Int)] w fun r w' => ∃ v : SlR, r = .returned (.slice v.a v.n v.cap) ∧ Below w.heap.size w w' ∧ Calls Try.prog 48 #[.slice v.a v.n v.cap, .int .i64 (e : Int)] w' (pathPost w' L)) :
  Calls Try.prog 27 #[.pointer (some ⟨sb, 0, none⟩), .int .i64 (e : Int), .int .i64 (n : Int)] w (logPost w (L, 0)) := by
 have HCM : Hid (∀ W, W = w → Calls Try.prog 45 #[.pointer (some ⟨sb, 0, none⟩)] W fun e w' => e = .returned (.int .i64 (N : Int)) ∧ w' = W) := hcm
 have HRT : Hid (Calls _ _ _ _ _) := hrt
 clear hcm hrt
 have hNI : (N : Int) ≤ 40 := by omega
 have h1 : ¬ (n : Int) < 0 := by omega
 have h2 : ¬ (N : Int) < n := by omega
 have h3 : ¬ (e : Int) < 0 := by omega
 have h4 : ¬ (n : Int) < e := by omega
 go_enter Try.func27, Try.ntmps27
 go_wp2_with fail
 refine (HCM.out _ rfl).mono ?_
 rintro v w1 ⟨rfl, hw1⟩
 obtain rfl : w = w1 := hw1.symm
 clear hw1
 go_wp2_with fail
 refine HRT.out.mono ?_
 rintro v w2 ⟨s, rfl, hb2, hc2⟩
 have HC2 : Hid (Calls _ _ _ _ _) := hc2
 clear hc2
 go_wp2_with fail
 refine HC2.out.mono ?_
 rintro v w3 hp
 unfold pathPost at hp
 obtain ⟨s3, rfl, ho, hb⟩ := hp
 have HO : Hid (w3.ownsRow w.heap.size 45 8 (.slice s3.a s3.n s3.cap) L.length (digsC L)) := owns_base ho (fun k hk => Nat.le_trans hb2.size (ho.lt k hk).1)
 have HB : Hid (Below w.heap.size w w3) := hb2.trans (hb.mono hb2.size)
 clear ho hb hb2
 go_wp2
 go_returns
 exact ⟨s3, rfl, HO.out, HB.out⟩
theorem stoExt_any (sb N : Nat) (en tr : SlR) (mp : Option Nat) (es : List MEn) (xs : List EnP) (its : List ItR) (tds : List Nd) (e n : Int) (w : World) (h : StoAt w sb N en tr mp es xs its tds) (h40 : tds.length ≤ 40) :
  Calls Try.prog 27 #[.pointer (some ⟨sb, 0, none⟩), .int .i64 e, .int .i64 n] w (logPost w (extS (tds.map rootOf) e n)) := by
 obtain ⟨hsv, hrn⟩ := SlV.ofOwn (s := tr) h.own
 have r2 : w.cell? ⟨sb, 2, none⟩ = some tr.val := RowV.cell h.row 2 (by simp)
 have hcm : ∀ W, W = w → Calls Try.prog 45 #[.pointer (some ⟨sb, 0, none⟩)] W fun e w' => e = .returned (.int .i64 (tds.length : Int)) ∧ w' = W := fun W hW => by
  subst hW
  have := commits_any sb tr W r2 (by omega)
  rw [hrn] at this
  exact this
 unfold extS
 by_cases hb : n < 0 ∨ (((tds.map rootOf).length : Nat) : Int) < n ∨ e < 0 ∨ n < e
 ·rw [if_pos hb]
  rw [List.length_map] at hb
  exact stoExt_no sb tds.length e n w h40 hcm hb
 ·rw [if_neg hb]
  rw [List.length_map] at hb
  obtain ⟨n', rfl⟩ : ∃ n' : Nat, n = n' := ⟨n.toNat, by omega⟩
  obtain ⟨e', rfl⟩ : ∃ e' : Nat, e = e' := ⟨e.toNat, by omega⟩
  simp only [Int.toNat_natCast]
  rw [show (if (e' : Int) = 0 then (([] : List (List UInt8)), (0 : Int)) else (extL 42 e' ((tds.map rootOf).take n') true, 0)) = (if e' = 0 then [] else extL 42 e' ((tds.map rootOf).take n') true, 0) by
   by_cases h0 : e' = 0
   ·subst h0; rfl
   ·rw [if_neg h0, if_neg (by omega)]]
  refine stoExt_yes sb tds.length e' n' _ w h40 hcm (by omega) (by simp at hb; omega) (by omega) ((roots_any sb n' tr tds w r2 hsv hrn h40 (fun nd hnd => (h.nds nd hnd).1) (by simp at hb; omega)).mono ?_)
  rintro r w' ⟨v, rfl, ho, hb'⟩
  have hvc := owns_cap (a := v.a) (n' := v.n) (cap := v.cap) ho
  have hsd : SlD w' v.a ((tds.take n').map rootOf) := ⟨(SlV.ofOwn (s := v) ho).1, fun d hd => by
   obtain ⟨x, _, rfl⟩ := List.mem_map.1 hd
   exact rootOf_length' x⟩
  refine ⟨v, rfl, hb', ?_⟩
  by_cases h0 : e' = 0
  ·subst h0
   exact hExt_zero v.a v.n v.cap w'
  ·rw [if_neg h0]
   have hv := extd_any 42 e' ((tds.take n').map rootOf) true v.a v.cap w' (by simp; omega) (by omega) (by simp; omega) (by rw [List.length_map, List.length_take, Nat.min_eq_left (by simp at hb; omega)]; exact hvc.2.1) (by have := hvc.2.2.1; unfold maxLen at this; omega) hsd (by omega) (by simp; simp at hb; omega)
   rw [List.length_map, List.length_take, Nat.min_eq_left (by simp at hb; omega), List.map_take] at hv
   exact hExt_some e' _ v.a v.n v.cap w' (by omega) (by simp at hb; omega) (by rw [hvc.1]; exact hv)
end Go.Proofs.Ytekegfbjbainhaa
