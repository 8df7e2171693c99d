import Derived.Test.YtekegfbjbainhaaGreatKJoin38
import Derived.Test.YtekegfbjbainhaaGreatKJoin34
import Derived.Test.YtekegfbjbainhaaGreatKJoin29
import Derived.Test.YtekegfbjbainhaaGreatKJoin17
import Derived.Deep.RegionLaw
import Derived.Deep.DrawnRows
import Derived.Test.YtekegfbjbainhaaGreatKJoin37
import Derived.Deep.RegionHeld3
set_option linter.unusedVariables false
set_option linter.unusedSimpArgs false

namespace Go.Proofs.YtekegfbjbainhaaGreat
open Go.RowKit
attribute [local go_sem ↓] Go.wp_at_zero Go.wp_at_succ
def incS (rl : List (List UInt8)) (e n : Int) : List (List UInt8) × Int := if n < 1 ∨ (rl.length : Int) < n ∨ e < 0 ∨ n ≤ e then ([], 4) else (pathF 42 e.toNat (rl.take n.toNat), 0)
def extS (rl : List (List UInt8)) (m n : Int) : List (List UInt8) × Int := if n < 0 ∨ (rl.length : Int) < n ∨ m < 0 ∨ n < m then ([], 4) else if m = 0 then ([], 0) else (extL 42 m.toNat (rl.take n.toNat) true, 0)
def logPost (W : World) (q : List (List UInt8) × Int) (v : Ending) (w' : World) : Prop := ∃ s : SlR, v = .returned (.tuple #[.slice s.a s.n s.cap, .int .i64 q.2]) ∧ w'.ownsRow W.heap.size 36 8 (.slice s.a s.n s.cap) q.1.length (digsC q.1) ∧ Below W.heap.size W w'
theorem logPost.nope (w : World) (e : Int) : logPost w ([], e) (.returned (.tuple #[.slice none 0 0, .int .i64 e])) w := ⟨⟨none, 0, 0⟩, rfl, World.ownsRow_nil _ _ _ _, Below.refl _ _⟩
theorem incS_8 (rl : List (List UInt8)) (e n : Int) : (∀ d ∈ (incS rl e n).1, d.length = 8) ∧ (incS rl e n).1.length ≤ 42 := by
 unfold incS
 split
 ·exact ⟨fun d hd => (by cases hd), by simp⟩
 ·exact ⟨pathF_8 _ _ _, pathF_len _ _ _⟩
theorem extS_8 (rl : List (List UInt8)) (m n : Int) : (∀ d ∈ (extS rl m n).1, d.length = 8) ∧ (extS rl m n).1.length ≤ 42 := by
 unfold extS
 split
 ·exact ⟨fun d hd => (by cases hd), by simp⟩
 ·split
  ·exact ⟨fun d hd => (by cases hd), by simp⟩
  ·exact ⟨extL_8 _ _ _ _, extL_len _ _ _ _⟩
set_option maxRecDepth 100000 in
theorem refIncl_no (rb N : Nat) (roots : SlR) (e n : Int) (w : World) (hN : N ≤ 40) (r2 : w.cell? ⟨rb, 2, none⟩ = some (.slice roots.a N roots.cap)) (h : n < 1 ∨ (N : Int) < n ∨ e < 0 ∨ n ≤ e) :
  Calls Tryz.prog 51 #[.pointer (some ⟨rb, 0, none⟩), .int .i64 e, .int .i64 n] w (logPost w ([], 4)) := by
 have hNI : (N : Int) ≤ 40 := by omega
 by_cases h1 : n < 1
 ·go_enter Tryz.func51, Tryz.ntmps51
  go_wp2
  go_returns
  exact logPost.nope w 4
 by_cases h2 : (N : Int) < n
 ·have h1' : ¬ n < 1 := h1
  go_enter Tryz.func51, Tryz.ntmps51
  go_wp2
  go_returns
  exact logPost.nope w 4
 by_cases h3 : e < 0
 ·have h1' : ¬ n < 1 := h1
  have h2' : ¬ (N : Int) < n := h2
  go_enter Tryz.func51, Tryz.ntmps51
  go_wp2
  go_returns
  exact logPost.nope w 4
 ·have h4 : n ≤ e := by omega
  have h1' : ¬ n < 1 := h1
  have h2' : ¬ (N : Int) < n := h2
  have h3' : ¬ e < 0 := h3
  go_enter Tryz.func51, Tryz.ntmps51
  go_wp2
  go_returns
  exact logPost.nope w 4
set_option maxRecDepth 100000 in
theorem refIncl_yes (rb e n : Nat) (roots : SlR) (rl : List (List UInt8)) (w : World) (h40 : rl.length ≤ 40) (hcap : rl.length ≤ roots.cap) (hc : roots.cap ≤ 9223372036854775807) (r2 : w.cell? ⟨rb, 2, none⟩ = some (.slice roots.a rl.length roots.cap)) (hs : SlD w roots.a rl) (hn : 1 ≤ n) (hn2 : n ≤ rl.length) (he : e < n) :
  Calls Tryz.prog 51 #[.pointer (some ⟨rb, 0, none⟩), .int .i64 (e : Int), .int .i64 (n : Int)] w (logPost w (pathF 42 e (rl.take n), 0)) := by
 have HP : Hid (Calls _ _ _ _ (pathPost w (pathF 42 e (rl.take n)))) := path_any 42 e (rl.take n) roots.a roots.cap w (by rw [List.length_take]; omega) (by omega) (by rw [List.length_take]; omega) (by rw [List.length_take]; omega) (by omega) (hs.take n (by omega)) (by rw [List.length_take]; omega)
 rw [List.length_take, Nat.min_eq_left hn2] at HP
 generalize pathF 42 e (rl.take n) = L at *
 obtain ⟨b, o, ha⟩ := hs.adr (by omega)
 rw [ha] at HP r2
 have hN : (rl.length : Int) ≤ 40 := by omega
 have h1 : ¬ (n : Int) < 1 := by omega
 have h2 : ¬ (rl.length : Int) < n := by omega
 have h3 : ¬ (e : Int) < 0 := by omega
 have h4 : ¬ (n : Int) ≤ e := by omega
 have hnc : (n : Int) ≤ roots.cap := by omega
 have hcI : (roots.cap : Int) ≤ 9223372036854775807 := by omega
 
 generalize rl.length = N at *
 clear hs ha
 go_enter Tryz.func51, Tryz.ntmps51
 go_wp2_with fail
 refine HP.out.mono ?_
 rintro v w1 hp
 unfold pathPost at hp
 obtain ⟨s, rfl, ho, hb⟩ := hp
 go_wp2
 go_returns
 exact ⟨s, rfl, ho, hb⟩
theorem refIncl_any (rb : Nat) (now past roots : SlR) (nl : List ItR) (pastL : List (SlR × List ItR)) (rl : List (List UInt8)) (e n : Int) (w : World) (h : RefAt w rb 0 now past roots nl pastL rl) (h40 : rl.length ≤ 40) :
  Calls Tryz.prog 51 #[.pointer (some ⟨rb, 0, none⟩), .int .i64 e, .int .i64 n] w (logPost w (incS rl e n)) := by
 have hcp := owns_cap (a := roots.a) (n' := roots.n) (cap := roots.cap) h.hroots
 obtain ⟨hsv, hrn⟩ := SlV.ofOwn (s := roots) h.hroots
 have r2 : w.cell? ⟨rb, 2, none⟩ = some (.slice roots.a rl.length roots.cap) := by
  have : w.cell? ⟨rb, 2, none⟩ = some (.slice roots.a roots.n roots.cap) := RowV.cell h.row 2 (by simp)
  rw [hrn] at this; exact this
 unfold incS
 by_cases hb : n < 1 ∨ (rl.length : Int) < n ∨ e < 0 ∨ n ≤ e
 ·rw [if_pos hb]
  exact refIncl_no rb rl.length roots e n w h40 r2 hb
 ·rw [if_neg hb]
  obtain ⟨n', rfl⟩ : ∃ n' : Nat, n = n' := ⟨n.toNat, by omega⟩
  obtain ⟨e', rfl⟩ : ∃ e' : Nat, e = e' := ⟨e.toNat, by omega⟩
  simp only [Int.toNat_natCast]
  exact refIncl_yes rb e' n' roots rl w h40 (by have := hcp.2.1; omega) (by have := hcp.2.2.1; unfold maxLen at this; omega) r2 ⟨hsv, h.h8⟩ (by omega) (by omega) (by omega)
set_option maxRecDepth 100000 in
theorem refExt_no (rb N : Nat) (roots : SlR) (e n : Int) (w : World) (hN : N ≤ 40) (r2 : w.cell? ⟨rb, 2, none⟩ = some (.slice roots.a N roots.cap)) (h : n < 0 ∨ (N : Int) < n ∨ e < 0 ∨ n < e) :
  Calls Tryz.prog 55 #[.pointer (some ⟨rb, 0, none⟩), .int .i64 e, .int .i64 n] w (logPost w ([], 4)) := by
 have hNI : (N : Int) ≤ 40 := by omega
 by_cases h1 : n < 0
 ·go_enter Tryz.func55, Tryz.ntmps55
  go_wp2
  go_returns
  exact logPost.nope w 4
 by_cases h2 : (N : Int) < n
 ·have h1' : ¬ n < 0 := h1
  go_enter Tryz.func55, Tryz.ntmps55
  go_wp2
  go_returns
  exact logPost.nope w 4
 by_cases h3 : e < 0
 ·have h1' : ¬ n < 0 := h1
  have h2' : ¬ (N : Int) < n := h2
  go_enter Tryz.func55, Tryz.ntmps55
  go_wp2
  go_returns
  exact logPost.nope w 4
 ·have h4 : n < e := by omega
  have h1' : ¬ n < 0 := h1
  have h2' : ¬ (N : Int) < n := h2
  have h3' : ¬ e < 0 := h3
  go_enter Tryz.func55, Tryz.ntmps55
  go_wp2
  go_returns
  exact logPost.nope w 4
set_option maxRecDepth 100000 in
theorem refExt_yes (rb e n : Nat) (roots : SlR) (rl : List (List UInt8)) (w : World) (h40 : rl.length ≤ 40) (hcap : rl.length ≤ roots.cap) (hc : roots.cap ≤ 9223372036854775807) (r2 : w.cell? ⟨rb, 2, none⟩ = some (.slice roots.a rl.length roots.cap)) (hs : SlD w roots.a rl) (he0 : 1 ≤ e) (hn2 : n ≤ rl.length) (he : e ≤ n) :
  Calls Tryz.prog 55 #[.pointer (some ⟨rb, 0, none⟩), .int .i64 (e : Int), .int .i64 (n : Int)] w (logPost w (extL 42 e (rl.take n) true, 0)) := by
 have HP : Hid (Calls _ _ _ _ (pathPost w (extL 42 e (rl.take n) true))) := exten_any 42 e (rl.take n) true roots.a roots.cap w (by rw [List.length_take]; omega) (by omega) (by rw [List.length_take]; omega) (by rw [List.length_take]; omega) (by omega) (hs.take n (by omega)) (by omega) (by rw [List.length_take]; omega)
 rw [List.length_take, Nat.min_eq_left hn2] at HP
 generalize extL 42 e (rl.take n) true = L at *
 obtain ⟨b, o, ha⟩ := hs.adr (by omega)
 rw [ha] at HP r2
 have hN : (rl.length : Int) ≤ 40 := by omega
 have h1 : ¬ (n : Int) < 0 := by omega
 have h2 : ¬ (rl.length : Int) < n := by omega
 have h3 : ¬ (e : Int) < 0 := by omega
 have h4 : ¬ (n : Int) < e := by omega
 have hnc : (n : Int) ≤ roots.cap := by omega
 have hcI : (roots.cap : Int) ≤ 9223372036854775807 := by omega
 have he1 : ((e : Int) == 0) = false := by rw [Bool.eq_false_iff]; simp only [ne_eq, beq_iff_eq]; omega
 generalize rl.length = N at *
 clear hs ha
 go_enter Tryz.func55, Tryz.ntmps55
 go_wp2_with fail
 refine HP.out.mono ?_
 rintro v w1 hp
 unfold pathPost at hp
 obtain ⟨s, rfl, ho, hb⟩ := hp
 go_wp2
 go_returns
 exact ⟨s, rfl, ho, hb⟩
set_option maxRecDepth 100000 in
theorem refExt_zero (rb N n : Nat) (roots : SlR) (w : World) (hN : N ≤ 40) (r2 : w.cell? ⟨rb, 2, none⟩ = some (.slice roots.a N roots.cap)) (h : n ≤ N) :
  Calls Tryz.prog 55 #[.pointer (some ⟨rb, 0, none⟩), .int .i64 0, .int .i64 (n : Int)] w (logPost w ([], 0)) := by
 have hNI : (N : Int) ≤ 40 := by omega
 have h1 : ¬ (n : Int) < 0 := by omega
 have h2 : ¬ (N : Int) < n := by omega
 go_enter Tryz.func55, Tryz.ntmps55
 go_wp2
 go_returns
 exact logPost.nope w 0
theorem refExt_any (rb : Nat) (now past roots : SlR) (nl : List ItR) (pastL : List (SlR × List ItR)) (rl : List (List UInt8)) (e n : Int) (w : World) (h : RefAt w rb 0 now past roots nl pastL rl) (h40 : rl.length ≤ 40) :
  Calls Tryz.prog 55 #[.pointer (some ⟨rb, 0, none⟩), .int .i64 e, .int .i64 n] w (logPost w (extS rl e n)) := by
 have hcp := owns_cap (a := roots.a) (n' := roots.n) (cap := roots.cap) h.hroots
 obtain ⟨hsv, hrn⟩ := SlV.ofOwn (s := roots) h.hroots
 have r2 : w.cell? ⟨rb, 2, none⟩ = some (.slice roots.a rl.length roots.cap) := by
  have : w.cell? ⟨rb, 2, none⟩ = some (.slice roots.a roots.n roots.cap) := RowV.cell h.row 2 (by simp)
  rw [hrn] at this; exact this
 unfold extS
 by_cases hb : n < 0 ∨ (rl.length : Int) < n ∨ e < 0 ∨ n < e
 ·rw [if_pos hb]
  exact refExt_no rb rl.length roots e n w h40 r2 hb
 ·rw [if_neg hb]
  by_cases h0 : e = 0
  ·rw [if_pos h0]
   subst h0
   obtain ⟨n', rfl⟩ : ∃ n' : Nat, n = n' := ⟨n.toNat, by omega⟩
   exact refExt_zero rb rl.length n' roots w h40 r2 (by omega)
  rw [if_neg h0]
  obtain ⟨n', rfl⟩ : ∃ n' : Nat, n = n' := ⟨n.toNat, by omega⟩
  obtain ⟨e', rfl⟩ : ∃ e' : Nat, e = e' := ⟨e.toNat, by omega⟩
  simp only [Int.toNat_natCast]
  exact refExt_yes rb e' n' roots rl w h40 (by have := hcp.2.1; omega) (by have := hcp.2.2.1; unfold maxLen at this; omega) r2 ⟨hsv, h.h8⟩ (by omega) (by omega) (by omega)
end Go.Proofs.YtekegfbjbainhaaGreat


namespace Go.Proofs.YtekegfbjbainhaaGreat
open Go.RowKit
attribute [local go_sem ↓] Go.wp_at_zero Go.wp_at_succ
theorem rootOf_length' (nd : Nd) : (rootOf nd).length = 8 := digB_length _
set_option maxRecDepth 100000 in
theorem hExt_zero (a : Option Addr) (n cap : Nat) (w : World) : Calls Tryz.prog 99 #[.slice a n cap, .int .i64 ((0 : Nat) : Int)] w (pathPost w []) := by
 go_enter Tryz.func99, Tryz.ntmps99
 go_wp2
 go_returns
 exact pathPost.nil w
set_option maxRecDepth 100000 in
theorem hExt_some (m : Nat) (L : List (List UInt8)) (a : Option Addr) (n cap : Nat) (w : World) (hm : 1 ≤ m) (hm2 : m ≤ 40) (h : Calls Tryz.prog 129 #[.slice a n cap, .int .i64 (m : Int), .bool true] w (pathPost w L)) : Calls Tryz.prog 99 #[.slice a n cap, .int .i64 (m : Int)] w (pathPost w L) := by
 have HC : Hid (Calls _ _ _ _ (pathPost w L)) := h
 clear h
 have h0 : ((m : Int) == 0) = false := by rw [Bool.eq_false_iff]; simp only [ne_eq, beq_iff_eq]; omega
 go_enter Tryz.func99, Tryz.ntmps99
 go_wp2_with fail
 refine HC.out.mono ?_
 rintro v w1 hp
 unfold pathPost at hp
 obtain ⟨s, rfl, ho, hb⟩ := hp
 go_wp2
 go_returns
 exact ⟨s, rfl, ho, hb⟩
set_option maxRecDepth 100000 in
theorem stoIncl_no (sb N : Nat) (e n : Int) (w : World) (hN : N ≤ 40) (hcm : ∀ W, W = w → Calls Tryz.prog 94 #[.pointer (some ⟨sb, 0, none⟩)] W fun e w' => e = .returned (.int .i64 (N : Int)) ∧ w' = W) (h : n < 1 ∨ (N : Int) < n ∨ e < 0 ∨ n ≤ e) :
  Calls Tryz.prog 50 #[.pointer (some ⟨sb, 0, none⟩), .int .i64 e, .int .i64 n] w (logPost w ([], 4)) := by
 have hNI : (N : Int) ≤ 40 := by omega
 have HCM : Hid (∀ W, W = w → Calls Tryz.prog 94 #[.pointer (some ⟨sb, 0, none⟩)] W fun e w' => e = .returned (.int .i64 (N : Int)) ∧ w' = W) := hcm
 clear hcm
 by_cases h1 : n < 1
 ·go_enter Tryz.func50, Tryz.ntmps50
  go_wp2
  go_returns
  exact logPost.nope w 4
 by_cases h2 : (N : Int) < n
 ·have h1' : ¬ n < 1 := h1
  go_enter Tryz.func50, Tryz.ntmps50
  go_wp2_with fail
  refine (HCM.out _ rfl).mono ?_
  rintro v w1 ⟨rfl, hw1⟩
  obtain rfl : w = w1 := hw1.symm
  clear hw1
  go_wp2
  go_returns
  exact logPost.nope w 4
 by_cases h3 : e < 0
 ·have h1' : ¬ n < 1 := h1
  have h2' : ¬ (N : Int) < n := h2
  go_enter Tryz.func50, Tryz.ntmps50
  go_wp2_with fail
  refine (HCM.out _ rfl).mono ?_
  rintro v w1 ⟨rfl, hw1⟩
  obtain rfl : w = w1 := hw1.symm
  clear hw1
  go_wp2
  go_returns
  exact logPost.nope w 4
 ·have h4 : n ≤ e := by omega
  have h1' : ¬ n < 1 := h1
  have h2' : ¬ (N : Int) < n := h2
  have h3' : ¬ e < 0 := h3
  go_enter Tryz.func50, Tryz.ntmps50
  go_wp2_with fail
  refine (HCM.out _ rfl).mono ?_
  rintro v w1 ⟨rfl, hw1⟩
  obtain rfl : w = w1 := hw1.symm
  clear hw1
  go_wp2
  go_returns
  exact logPost.nope w 4
set_option maxRecDepth 100000 in
theorem stoIncl_yes (sb N e n : Nat) (L : List (List UInt8)) (w : World) (hN : N ≤ 40) (hcm : ∀ W, W = w → Calls Tryz.prog 94 #[.pointer (some ⟨sb, 0, none⟩)] W fun e w' => e = .returned (.int .i64 (N : Int)) ∧ w' = W) (hn : 1 ≤ n) (hn2 : n ≤ N) (he : e < n)
  (hrt : Calls Tryz.prog 96 #[.pointer (some ⟨sb, 0, none⟩), .int .i64 (n : Int)] w fun r w' => ∃ v : SlR, r = .returned (.slice v.a v.n v.cap) ∧ Below w.heap.size w w' ∧ Calls Tryz.prog 95 #[.slice v.a v.n v.cap, .int .i64 (e : Int)] w' (pathPost w' L)) :
  Calls Tryz.prog 50 #[.pointer (some ⟨sb, 0, none⟩), .int .i64 (e : Int), .int .i64 (n : Int)] w (logPost w (L, 0)) := by
 have HCM : Hid (∀ W, W = w → Calls Tryz.prog 94 #[.pointer (some ⟨sb, 0, none⟩)] W fun e w' => e = .returned (.int .i64 (N : Int)) ∧ w' = W) := hcm
 have HRT : Hid (Calls _ _ _ _ _) := hrt
 clear hcm hrt
 have hNI : (N : Int) ≤ 40 := by omega
 have h1 : ¬ (n : Int) < 1 := by omega
 have h2 : ¬ (N : Int) < n := by omega
 have h3 : ¬ (e : Int) < 0 := by omega
 have h4 : ¬ (n : Int) ≤ e := by omega
 go_enter Tryz.func50, Tryz.ntmps50
 go_wp2_with fail
 refine (HCM.out _ rfl).mono ?_
 rintro v w1 ⟨rfl, hw1⟩
 obtain rfl : w = w1 := hw1.symm
 clear hw1
 go_wp2_with fail
 refine HRT.out.mono ?_
 rintro v w2 ⟨s, rfl, hb2, hc2⟩
 have HC2 : Hid (Calls _ _ _ _ _) := hc2
 clear hc2
 go_wp2_with fail
 refine HC2.out.mono ?_
 rintro v w3 hp
 unfold pathPost at hp
 obtain ⟨s3, rfl, ho, hb⟩ := hp
 have HO : Hid (w3.ownsRow w.heap.size 36 8 (.slice s3.a s3.n s3.cap) L.length (digsC L)) := owns_base ho (fun k hk => Nat.le_trans hb2.size (ho.lt k hk).1)
 have HB : Hid (Below w.heap.size w w3) := hb2.trans (hb.mono hb2.size)
 clear ho hb hb2
 go_wp2
 go_returns
 exact ⟨s3, rfl, HO.out, HB.out⟩
theorem stoIncl_any (sb N : Nat) (en tr : SlR) (mp : Option Nat) (es : List MEn) (xs : List EnP) (its : List ItR) (tds : List Nd) (e n : Int) (w : World) (h : StoAt w sb N en tr mp es xs its tds) (h40 : tds.length ≤ 40) :
  Calls Tryz.prog 50 #[.pointer (some ⟨sb, 0, none⟩), .int .i64 e, .int .i64 n] w (logPost w (incS (tds.map rootOf) e n)) := by
 obtain ⟨hsv, hrn⟩ := SlV.ofOwn (s := tr) h.own
 have r2 : w.cell? ⟨sb, 2, none⟩ = some tr.val := RowV.cell h.row 2 (by simp)
 have hcm : ∀ W, W = w → Calls Tryz.prog 94 #[.pointer (some ⟨sb, 0, none⟩)] W fun e w' => e = .returned (.int .i64 (tds.length : Int)) ∧ w' = W := fun W hW => by
  subst hW
  have := commits_any sb tr W r2 (by omega)
  rw [hrn] at this
  exact this
 unfold incS
 by_cases hb : n < 1 ∨ (((tds.map rootOf).length : Nat) : Int) < n ∨ e < 0 ∨ n ≤ e
 ·rw [if_pos hb]
  rw [List.length_map] at hb
  exact stoIncl_no sb tds.length e n w h40 hcm hb
 ·rw [if_neg hb]
  rw [List.length_map] at hb
  obtain ⟨n', rfl⟩ : ∃ n' : Nat, n = n' := ⟨n.toNat, by omega⟩
  obtain ⟨e', rfl⟩ : ∃ e' : Nat, e = e' := ⟨e.toNat, by omega⟩
  simp only [Int.toNat_natCast]
  refine stoIncl_yes sb tds.length e' n' _ w h40 hcm (by omega) (by simp at hb; omega) (by omega) ((roots_any sb n' tr tds w r2 hsv hrn h40 (fun nd hnd => (h.nds nd hnd).1) (by simp at hb; omega)).mono ?_)
  rintro r w' ⟨v, rfl, ho, hb'⟩
  have hvc := owns_cap (a := v.a) (n' := v.n) (cap := v.cap) ho
  have hsd : SlD w' v.a ((tds.take n').map rootOf) := ⟨(SlV.ofOwn (s := v) ho).1, fun d hd => by
   obtain ⟨x, _, rfl⟩ := List.mem_map.1 hd
   exact rootOf_length' x⟩
  have hv := incl_any 42 e' ((tds.take n').map rootOf) v.a v.cap w' (by simp; omega) (by omega) (by simp; omega) (by rw [List.length_map, List.length_take, Nat.min_eq_left (by simp at hb; omega)]; exact hvc.2.1) (by have := hvc.2.2.1; unfold maxLen at this; omega) hsd (by simp; simp at hb; omega)
  rw [List.length_map, List.length_take, Nat.min_eq_left (by simp at hb; omega), List.map_take] at hv
  exact ⟨v, rfl, hb', by rw [hvc.1]; exact hv⟩
set_option maxRecDepth 100000 in
theorem stoExt_no (sb N : Nat) (e n : Int) (w : World) (hN : N ≤ 40) (hcm : ∀ W, W = w → Calls Tryz.prog 94 #[.pointer (some ⟨sb, 0, none⟩)] W fun e w' => e = .returned (.int .i64 (N : Int)) ∧ w' = W) (h : n < 0 ∨ (N : Int) < n ∨ e < 0 ∨ n < e) :
  Calls Tryz.prog 54 #[.pointer (some ⟨sb, 0, none⟩), .int .i64 e, .int .i64 n] w (logPost w ([], 4)) := by
 have hNI : (N : Int) ≤ 40 := by omega
 have HCM : Hid (∀ W, W = w → Calls Tryz.prog 94 #[.pointer (some ⟨sb, 0, none⟩)] W fun e w' => e = .returned (.int .i64 (N : Int)) ∧ w' = W) := hcm
 clear hcm
 by_cases h1 : n < 0
 ·go_enter Tryz.func54, Tryz.ntmps54
  go_wp2
  go_returns
  exact logPost.nope w 4
 by_cases h2 : (N : Int) < n
 ·have h1' : ¬ n < 0 := h1
  go_enter Tryz.func54, Tryz.ntmps54
  go_wp2_with fail
  refine (HCM.out _ rfl).mono ?_
  rintro v w1 ⟨rfl, hw1⟩
  obtain rfl : w = w1 := hw1.symm
  clear hw1
  go_wp2
  go_returns
  exact logPost.nope w 4
 by_cases h3 : e < 0
 ·have h1' : ¬ n < 0 := h1
  have h2' : ¬ (N : Int) < n := h2
  go_enter Tryz.func54, Tryz.ntmps54
  go_wp2_with fail
  refine (HCM.out _ rfl).mono ?_
  rintro v w1 ⟨rfl, hw1⟩
  obtain rfl : w = w1 := hw1.symm
  clear hw1
  go_wp2
  go_returns
  exact logPost.nope w 4
 ·have h4 : n < e := by omega
  have h1' : ¬ n < 0 := h1
  have h2' : ¬ (N : Int) < n := h2
  have h3' : ¬ e < 0 := h3
  go_enter Tryz.func54, Tryz.ntmps54
  go_wp2_with fail
  refine (HCM.out _ rfl).mono ?_
  rintro v w1 ⟨rfl, hw1⟩
  obtain rfl : w = w1 := hw1.symm
  clear hw1
  go_wp2
  go_returns
  exact logPost.nope w 4
set_option maxRecDepth 100000 in
theorem stoExt_yes (sb N e n : Nat) (L : List (List UInt8)) (w : World) (hN : N ≤ 40) (hcm : ∀ W, W = w → Calls Tryz.prog 94 #[.pointer (some ⟨sb, 0, none⟩)] W fun e w' => e = .returned (.int .i64 (N : Int)) ∧ w' = W) (hn : 0 ≤ n) (hn2 : n ≤ N) (he : e ≤ n)
  (hrt : Calls Tryz.prog 96 #[.pointer (some ⟨sb, 0, none⟩), .int .i64 (n : Int)] w fun r w' => ∃ v : SlR, r = .returned (.slice v.a v.n v.cap) ∧ Below w.heap.size w w' ∧ Calls Tryz.prog 99 #[.slice v.a v.n v.cap, .int .i64 (e : Int)] w' (pathPost w' L)) :
  Calls Tryz.prog 54 #[.pointer (some ⟨sb, 0, none⟩), .int .i64 (e : Int), .int .i64 (n : Int)] w (logPost w (L, 0)) := by
 have HCM : Hid (∀ W, W = w → Calls Tryz.prog 94 #[.pointer (some ⟨sb, 0, none⟩)] W fun e w' => e = .returned (.int .i64 (N : Int)) ∧ w' = W) := hcm
 have HRT : Hid (Calls _ _ _ _ _) := hrt
 clear hcm hrt
 have hNI : (N : Int) ≤ 40 := by omega
 have h1 : ¬ (n : Int) < 0 := by omega
 have h2 : ¬ (N : Int) < n := by omega
 have h3 : ¬ (e : Int) < 0 := by omega
 have h4 : ¬ (n : Int) < e := by omega
 go_enter Tryz.func54, Tryz.ntmps54
 go_wp2_with fail
 refine (HCM.out _ rfl).mono ?_
 rintro v w1 ⟨rfl, hw1⟩
 obtain rfl : w = w1 := hw1.symm
 clear hw1
 go_wp2_with fail
 refine HRT.out.mono ?_
 rintro v w2 ⟨s, rfl, hb2, hc2⟩
 have HC2 : Hid (Calls _ _ _ _ _) := hc2
 clear hc2
 go_wp2_with fail
 refine HC2.out.mono ?_
 rintro v w3 hp
 unfold pathPost at hp
 obtain ⟨s3, rfl, ho, hb⟩ := hp
 have HO : Hid (w3.ownsRow w.heap.size 36 8 (.slice s3.a s3.n s3.cap) L.length (digsC L)) := owns_base ho (fun k hk => Nat.le_trans hb2.size (ho.lt k hk).1)
 have HB : Hid (Below w.heap.size w w3) := hb2.trans (hb.mono hb2.size)
 clear ho hb hb2
 go_wp2
 go_returns
 exact ⟨s3, rfl, HO.out, HB.out⟩
theorem stoExt_any (sb N : Nat) (en tr : SlR) (mp : Option Nat) (es : List MEn) (xs : List EnP) (its : List ItR) (tds : List Nd) (e n : Int) (w : World) (h : StoAt w sb N en tr mp es xs its tds) (h40 : tds.length ≤ 40) :
  Calls Tryz.prog 54 #[.pointer (some ⟨sb, 0, none⟩), .int .i64 e, .int .i64 n] w (logPost w (extS (tds.map rootOf) e n)) := by
 obtain ⟨hsv, hrn⟩ := SlV.ofOwn (s := tr) h.own
 have r2 : w.cell? ⟨sb, 2, none⟩ = some tr.val := RowV.cell h.row 2 (by simp)
 have hcm : ∀ W, W = w → Calls Tryz.prog 94 #[.pointer (some ⟨sb, 0, none⟩)] W fun e w' => e = .returned (.int .i64 (tds.length : Int)) ∧ w' = W := fun W hW => by
  subst hW
  have := commits_any sb tr W r2 (by omega)
  rw [hrn] at this
  exact this
 unfold extS
 by_cases hb : n < 0 ∨ (((tds.map rootOf).length : Nat) : Int) < n ∨ e < 0 ∨ n < e
 ·rw [if_pos hb]
  rw [List.length_map] at hb
  exact stoExt_no sb tds.length e n w h40 hcm hb
 ·rw [if_neg hb]
  rw [List.length_map] at hb
  obtain ⟨n', rfl⟩ : ∃ n' : Nat, n = n' := ⟨n.toNat, by omega⟩
  obtain ⟨e', rfl⟩ : ∃ e' : Nat, e = e' := ⟨e.toNat, by omega⟩
  simp only [Int.toNat_natCast]
  rw [show (if (e' : Int) = 0 then (([] : List (List UInt8)), (0 : Int)) else (extL 42 e' ((tds.map rootOf).take n') true, 0)) = (if e' = 0 then [] else extL 42 e' ((tds.map rootOf).take n') true, 0) by
   by_cases h0 : e' = 0
   ·subst h0; rfl
   ·rw [if_neg h0, if_neg (by omega)]]
  refine stoExt_yes sb tds.length e' n' _ w h40 hcm (by omega) (by simp at hb; omega) (by omega) ((roots_any sb n' tr tds w r2 hsv hrn h40 (fun nd hnd => (h.nds nd hnd).1) (by simp at hb; omega)).mono ?_)
  rintro r w' ⟨v, rfl, ho, hb'⟩
  have hvc := owns_cap (a := v.a) (n' := v.n) (cap := v.cap) ho
  have hsd : SlD w' v.a ((tds.take n').map rootOf) := ⟨(SlV.ofOwn (s := v) ho).1, fun d hd => by
   obtain ⟨x, _, rfl⟩ := List.mem_map.1 hd
   exact rootOf_length' x⟩
  refine ⟨v, rfl, hb', ?_⟩
  by_cases h0 : e' = 0
  ·subst h0
   exact hExt_zero v.a v.n v.cap w'
  ·rw [if_neg h0]
   have hv := extd_any 42 e' ((tds.take n').map rootOf) true v.a v.cap w' (by simp; omega) (by omega) (by simp; omega) (by rw [List.length_map, List.length_take, Nat.min_eq_left (by simp at hb; omega)]; exact hvc.2.1) (by have := hvc.2.2.1; unfold maxLen at this; omega) hsd (by omega) (by simp; simp at hb; omega)
   rw [List.length_map, List.length_take, Nat.min_eq_left (by simp at hb; omega), List.map_take] at hv
   exact hExt_some e' _ v.a v.n v.cap w' (by omega) (by simp at hb; omega) (by rw [hvc.1]; exact hv)
end Go.Proofs.YtekegfbjbainhaaGreat


namespace Go.Proofs.YtekegfbjbainhaaGreat
open Go.RowKit
theorem Tryz.infoDigests : (Tryz.prog.info? 62).map (fun i => (i.zero, i.size, i.bytes)) = some (some (.agg #[.slice none 0 0, .slice none 0 0, .slice none 0 0, .slice none 0 0, .int .i64 0]), 5, 104) := by kernel_rfl
theorem bookD_fin {w W2 w2 : World} {wb : Nat} {ps bs ds es : SlR} {v : Value} {rs : List BkR} {r : BkR} {a2 : Option Addr} {n2 c2 : Nat} (HB : BdAt w bs rs) (HB2 : BdAt W2 bs rs) (hW3 : RowV w2 wb 34 [ps.val, ds.val, bs.val, es.val]) (HR2 : BkOk W2 (patD rs.length) 8 r) (HFR : Frame (fun k => v.ownBlock = some k) w W2)
  (HNW : ∀ k, bkF r k → ¬ bs.val.ownBlock = some k ∧ k ≠ wb) (HG : ∀ k, bkF r k → v.ownBlock = some k ∨ w.heap.size < k) (hbw : ∀ k, bookF bs rs k → k ≠ wb) (ho2 : w2.ownsRow 0 62 5 (.slice a2 n2 c2) (rs.length + 1) (bksF 0 rs ++ bkC r rs.length)) (hf2 : Frame (fun k => bs.val.ownBlock = some k) W2 w2)
  (hat2 : (Value.slice a2 n2 c2).ownBlock = bs.val.ownBlock ∨ (Value.slice a2 n2 c2).ownBlock = some W2.heap.size) :
  RowV (w2.setCell ⟨wb, 2, none⟩ (.slice a2 n2 c2)) wb 34 [ps.val, ds.val, .slice a2 n2 c2, es.val] ∧ BdAt (w2.setCell ⟨wb, 2, none⟩ (.slice a2 n2 c2)) ⟨a2, n2, c2⟩ (rs ++ [r]) ∧ Frame (fun k => k = wb ∨ v.ownBlock = some k ∨ bs.val.ownBlock = some k) w (w2.setCell ⟨wb, 2, none⟩ (.slice a2 n2 c2)) ∧
   (∀ k, bookF ⟨a2, n2, c2⟩ (rs ++ [r]) k → k < w.heap.size → bookF bs rs k ∨ v.ownBlock = some k) := by
 have hfs : Frame (fun k => k = wb) w2 (w2.setCell ⟨wb, 2, none⟩ (.slice a2 n2 c2)) := (Frame.refl (fun k => k = wb) _).setCell (p := ⟨wb, 2, none⟩) rfl _
 have hz2 := hf2.size
 have hz0 := HFR.size
 have hbl : ∀ k, (Value.slice a2 n2 c2).ownBlock = some k → bs.val.ownBlock = some k ∨ W2.heap.size ≤ k := fun k hk => by
  rcases hat2 with e | e
  ·exact Or.inl (by rw [← e]; exact hk)
  ·rw [e] at hk; have := Option.some.inj hk; exact Or.inr (by omega)
 have hnb : ∀ k, bkF r k → (Value.slice a2 n2 c2).ownBlock ≠ some k := fun k hk e => by
  rcases hbl k e with h | h
  ·exact (HNW k hk).1 h
  ·have := HR2.lt k hk; omega
 have hob : ∀ x ∈ rs, ∀ k, bkF x k → (Value.slice a2 n2 c2).ownBlock ≠ some k := fun x hx k hk e => by
  rcases hbl k e with h | h
  ·exact HB.apart x hx k hk h
  ·have := HB2.lt k (Or.inr ⟨x, hx, hk⟩); omega
 have hr3 : BkOk (w2.setCell ⟨wb, 2, none⟩ (.slice a2 n2 c2)) (patD rs.length) 8 r := (HR2.frame hf2 (fun k hk => (HNW k hk).1)).frame hfs (fun k hk => (HNW k hk).2)
 have ho3 : ∀ i (h : i < rs.length), BkOk (w2.setCell ⟨wb, 2, none⟩ (.slice a2 n2 c2)) (patD i) 8 rs[i] := fun i h => ((HB2.ok i h).frame hf2 (fun k hk e => HB.apart _ (List.getElem_mem h) k hk e)).frame hfs (fun k hk e => hbw k (Or.inr ⟨_, List.getElem_mem h, hk⟩) e)
 refine ⟨by simpa using hW3.set 2 (.slice a2 n2 c2), ⟨?_, ?_, ?_⟩, ?_, ?_⟩
 ·rw [List.length_append, List.length_singleton, bksF_snoc, Nat.zero_add]
  exact owns_frame ho2 hfs (fun k hk e => owns_ne ho2 hW3 (by decide) (by rw [← e]; exact hk))
 ·intro i hi
  by_cases hlt : i < rs.length
  ·rw [List.getElem_append_left hlt]; exact ho3 i hlt
  ·have : i = rs.length := by simp at hi; omega
   subst this
   rw [List.getElem_append_right (Nat.le_refl _)]
   simpa using hr3
 ·intro x hx k hk
  rcases List.mem_append.1 hx with hx | hx
  ·exact hob x hx k hk
  ·simp only [List.mem_singleton] at hx; subst hx; exact hnb k hk
 ·refine Frame.inside (Frame.inside (HFR.mono (fun k _ hk => Or.inr (Or.inl hk))) hf2 (fun k _ hk => Or.inr (Or.inr hk))) hfs (fun k _ hk => Or.inl hk)
 ·intro k hk hlt
  rcases hk with hk | ⟨x, hx, hk⟩
  ·rcases hbl k hk with h | h
   ·exact Or.inl (Or.inl h)
   ·omega
  ·rcases List.mem_append.1 hx with hx | hx
   ·exact Or.inl (Or.inr ⟨x, hx, hk⟩)
   ·simp only [List.mem_singleton] at hx; subst hx
    rcases HG k hk with h | h
    ·exact Or.inr h
    ·omega
attribute [local go_sem ↓] Go.wp_at_zero Go.wp_at_succ
set_option maxRecDepth 100000 in
set_option maxHeartbeats 4000000 in
theorem book_digest (wb : Nat) (ps bs ds es v : SlR) (rs : List BkR) (n : Nat) (xs : List Value) (base : Nat) (w : World) (hW : RowV w wb 34 [ps.val, ds.val, bs.val, es.val]) (hB : BdAt w bs rs) (ho : w.ownsRow base 36 8 v.val n xs) (hL : n ≤ 1000000000) (hn : rs.length ≤ 1200000000000) (hb : base ≤ w.heap.size)
  (hvw : ∀ k, v.val.ownBlock = some k → k ≠ wb ∧ ¬ bookF bs rs k) (hbw : ∀ k, bookF bs rs k → k ≠ wb) :
  Calls Tryz.prog 53 #[.pointer (some ⟨wb, 1, none⟩), v.val] w fun e w' => e = .returned (.tuple #[]) ∧ ∃ (bs' : SlR) (r : BkR), RowV w' wb 34 [ps.val, ds.val, bs'.val, es.val] ∧ BdAt w' bs' (rs ++ [r]) ∧ Frame (fun k => k = wb ∨ v.val.ownBlock = some k ∨ bs.val.ownBlock = some k) w w' ∧ (∀ k, bookF bs' (rs ++ [r]) k → k < w.heap.size → bookF bs rs k ∨ v.val.ownBlock = some k) := by
 have hn' := (owns_cap (a := bs.a) (n' := bs.n) (cap := bs.cap) hB.own).1
 have HOB : Hid (Calls _ _ _ _ _) := ownDigests_any v n xs base rs.length w ho hL (by omega) hb
 have c1 : w.cell? ⟨wb, 2, none⟩ = some (.slice bs.a bs.n bs.cap) := hW.cell 2 (by simp)
 have hnI : (bs.n : Int) ≤ 1200000000000 := by rw [hn']; omega
 have HE : Hid ((rs.length : Int) = (bs.n : Int)) := by unfold Hid; rw [hn']
 rw [HE.out] at HOB
 have HWL : Hid (wb < w.heap.size) := hW.lt
 have HB : Hid (BdAt w bs rs) := hB
 have HW : Hid (RowV w wb 34 [ps.val, ds.val, bs.val, es.val]) := hW
 have HVW : Hid (∀ k, v.val.ownBlock = some k → k ≠ wb ∧ ¬ bookF bs rs k) := hvw
 have HBWB : Hid (∀ k, bookF bs rs k → k ≠ wb) := hbw
 clear hn' hW hB ho hb hL hvw hbw
 unfold SlR.val at HOB ⊢
 go_enter Tryz.func53, Tryz.ntmps53
 go_wp2_with fail
 refine HOB.out.mono ?_
 rintro e w1 ⟨r, rfl, hr1, hf1, hg1⟩
 have HVB : Hid (∀ k, bookF bs rs k → ¬ (Value.slice v.a v.n v.cap).ownBlock = some k) := fun k hk e => (HVW.out k e).2 hk
 have hB1 : BdAt w1 bs rs := HB.out.frame hf1 HVB.out
 have hW1 : RowV w1 wb 34 [ps.val, ds.val, bs.val, es.val] := HW.out.of_block (hf1.block _ HW.out.lt (fun e => (HVW.out _ e).1 rfl))
 have hbx : Below w1.heap.size w1 ((w1.alloc (.cells #[.slice r.l.a r.l.n r.l.cap, .slice r.one.a r.one.n r.one.cap, .slice r.two.a r.two.n r.two.cap, .slice r.three.a r.three.n r.three.cap, .int .i64 (rs.length : Int)] 62)).alloc (.cells #[.slice r.l.a r.l.n r.l.cap, .slice r.one.a r.one.n r.one.cap, .slice r.two.a r.two.n r.two.cap, .slice r.three.a r.three.n r.three.cap, .int .i64 (rs.length : Int)] 62)).drew := by
  have hz : Below w1.heap.size w1 ((w1.alloc (.cells #[.slice r.l.a r.l.n r.l.cap, .slice r.one.a r.one.n r.one.cap, .slice r.two.a r.two.n r.two.cap, .slice r.three.a r.three.n r.three.cap, .int .i64 (rs.length : Int)] 62)).alloc (.cells #[.slice r.l.a r.l.n r.l.cap, .slice r.one.a r.one.n r.one.cap, .slice r.two.a r.two.n r.two.cap, .slice r.three.a r.three.n r.three.cap, .int .i64 (rs.length : Int)] 62)) := ((Below.refl _ _).alloc (Nat.le_refl _) _).alloc (by simp) _
  exact ⟨hz.os, hz.tape, hz.output, hz.size, hz.block⟩
 have hB2 := hB1.below hbx
 have hW2 := hW1.below hW1.lt hbx
 have hr2 := hr1.below hbx
 have hR0 : RowV (w1.alloc (.cells #[.slice r.l.a r.l.n r.l.cap, .slice r.one.a r.one.n r.one.cap, .slice r.two.a r.two.n r.two.cap, .slice r.three.a r.three.n r.three.cap, .int .i64 (rs.length : Int)] 62)) w1.heap.size 62 [.slice r.l.a r.l.n r.l.cap, .slice r.one.a r.one.n r.one.cap, .slice r.two.a r.two.n r.two.cap, .slice r.three.a r.three.n r.three.cap, .int .i64 (rs.length : Int)] := RowV.new w1 _ _
 have x0 : (w1.alloc (.cells #[.slice r.l.a r.l.n r.l.cap, .slice r.one.a r.one.n r.one.cap, .slice r.two.a r.two.n r.two.cap, .slice r.three.a r.three.n r.three.cap, .int .i64 (rs.length : Int)] 62)).cell? ⟨w1.heap.size, 0, none⟩ = some (.slice r.l.a r.l.n r.l.cap) := hR0.cell 0 (by simp)
 have x1 : (w1.alloc (.cells #[.slice r.l.a r.l.n r.l.cap, .slice r.one.a r.one.n r.one.cap, .slice r.two.a r.two.n r.two.cap, .slice r.three.a r.three.n r.three.cap, .int .i64 (rs.length : Int)] 62)).cell? ⟨w1.heap.size, 1, none⟩ = some (.slice r.one.a r.one.n r.one.cap) := hR0.cell 1 (by simp)
 have x2 : (w1.alloc (.cells #[.slice r.l.a r.l.n r.l.cap, .slice r.one.a r.one.n r.one.cap, .slice r.two.a r.two.n r.two.cap, .slice r.three.a r.three.n r.three.cap, .int .i64 (rs.length : Int)] 62)).cell? ⟨w1.heap.size, 2, none⟩ = some (.slice r.two.a r.two.n r.two.cap) := hR0.cell 2 (by simp)
 have x3 : (w1.alloc (.cells #[.slice r.l.a r.l.n r.l.cap, .slice r.one.a r.one.n r.one.cap, .slice r.two.a r.two.n r.two.cap, .slice r.three.a r.three.n r.three.cap, .int .i64 (rs.length : Int)] 62)).cell? ⟨w1.heap.size, 3, none⟩ = some (.slice r.three.a r.three.n r.three.cap) := hR0.cell 3 (by simp)
 have x4 : (w1.alloc (.cells #[.slice r.l.a r.l.n r.l.cap, .slice r.one.a r.one.n r.one.cap, .slice r.two.a r.two.n r.two.cap, .slice r.three.a r.three.n r.three.cap, .int .i64 (rs.length : Int)] 62)).cell? ⟨w1.heap.size, 4, none⟩ = some (.int .i64 (rs.length : Int)) := hR0.cell 4 (by simp)
 have y1 : (w1.alloc (.cells #[.slice r.l.a r.l.n r.l.cap, .slice r.one.a r.one.n r.one.cap, .slice r.two.a r.two.n r.two.cap, .slice r.three.a r.three.n r.three.cap, .int .i64 (rs.length : Int)] 62)).cell? ⟨wb, 2, none⟩ = some (.slice bs.a bs.n bs.cap) := (hW1.alloc _).cell 2 (by simp)
 have y2 : ((w1.alloc (.cells #[.slice r.l.a r.l.n r.l.cap, .slice r.one.a r.one.n r.one.cap, .slice r.two.a r.two.n r.two.cap, .slice r.three.a r.three.n r.three.cap, .int .i64 (rs.length : Int)] 62)).alloc (.cells #[.slice r.l.a r.l.n r.l.cap, .slice r.one.a r.one.n r.one.cap, .slice r.two.a r.two.n r.two.cap, .slice r.three.a r.three.n r.three.cap, .int .i64 (rs.length : Int)] 62)).cell? ⟨wb, 2, none⟩ = some (.slice bs.a bs.n bs.cap) := ((hW1.alloc _).alloc _).cell 2 (by simp)
 have hR1 := hR0.alloc (.cells #[.slice r.l.a r.l.n r.l.cap, .slice r.one.a r.one.n r.one.cap, .slice r.two.a r.two.n r.two.cap, .slice r.three.a r.three.n r.three.cap, .int .i64 (rs.length : Int)] 62)
 have HOX : Hid (World.ownsRow ((w1.alloc (.cells #[.slice r.l.a r.l.n r.l.cap, .slice r.one.a r.one.n r.one.cap, .slice r.two.a r.two.n r.two.cap, .slice r.three.a r.three.n r.three.cap, .int .i64 (rs.length : Int)] 62)).alloc (.cells #[.slice r.l.a r.l.n r.l.cap, .slice r.one.a r.one.n r.one.cap, .slice r.two.a r.two.n r.two.cap, .slice r.three.a r.three.n r.three.cap, .int .i64 (rs.length : Int)] 62)).drew 0 62 5 (.slice bs.a bs.n bs.cap) rs.length (bksF 0 rs)) := hB2.own
 have HSX : Hid (SlV ((w1.alloc (.cells #[.slice r.l.a r.l.n r.l.cap, .slice r.one.a r.one.n r.one.cap, .slice r.two.a r.two.n r.two.cap, .slice r.three.a r.three.n r.three.cap, .int .i64 (rs.length : Int)] 62)).alloc (.cells #[.slice r.l.a r.l.n r.l.cap, .slice r.one.a r.one.n r.one.cap, .slice r.two.a r.two.n r.two.cap, .slice r.three.a r.three.n r.three.cap, .int .i64 (rs.length : Int)] 62)).drew (some ⟨w1.heap.size + 1, 0, none⟩) (bkC r rs.length)) := by
  have := SlV.alloc_new (w1.alloc (.cells #[.slice r.l.a r.l.n r.l.cap, .slice r.one.a r.one.n r.one.cap, .slice r.two.a r.two.n r.two.cap, .slice r.three.a r.three.n r.three.cap, .int .i64 (rs.length : Int)] 62)) (bkC r rs.length) 62
  simp only [World.size_alloc] at this
  exact this
 have H1 : Hid (∀ u ∈ bkC r rs.length, u.oneCell' = true) := fun u hu => bk_one hu
 have HB2 : Hid (BdAt ((w1.alloc (.cells #[.slice r.l.a r.l.n r.l.cap, .slice r.one.a r.one.n r.one.cap, .slice r.two.a r.two.n r.two.cap, .slice r.three.a r.three.n r.three.cap, .int .i64 (rs.length : Int)] 62)).alloc (.cells #[.slice r.l.a r.l.n r.l.cap, .slice r.one.a r.one.n r.one.cap, .slice r.two.a r.two.n r.two.cap, .slice r.three.a r.three.n r.three.cap, .int .i64 (rs.length : Int)] 62)).drew bs rs) := hB2
 have HW2 : Hid (RowV ((w1.alloc (.cells #[.slice r.l.a r.l.n r.l.cap, .slice r.one.a r.one.n r.one.cap, .slice r.two.a r.two.n r.two.cap, .slice r.three.a r.three.n r.three.cap, .int .i64 (rs.length : Int)] 62)).alloc (.cells #[.slice r.l.a r.l.n r.l.cap, .slice r.one.a r.one.n r.one.cap, .slice r.two.a r.two.n r.two.cap, .slice r.three.a r.three.n r.three.cap, .int .i64 (rs.length : Int)] 62)).drew wb 34 [ps.val, ds.val, bs.val, es.val]) := hW2
 have HR2 : Hid (BkOk ((w1.alloc (.cells #[.slice r.l.a r.l.n r.l.cap, .slice r.one.a r.one.n r.one.cap, .slice r.two.a r.two.n r.two.cap, .slice r.three.a r.three.n r.three.cap, .int .i64 (rs.length : Int)] 62)).alloc (.cells #[.slice r.l.a r.l.n r.l.cap, .slice r.one.a r.one.n r.one.cap, .slice r.two.a r.two.n r.two.cap, .slice r.three.a r.three.n r.three.cap, .int .i64 (rs.length : Int)] 62)).drew (patD rs.length) 8 r) := hr2
 have HR1 : Hid (RowV ((w1.alloc (.cells #[.slice r.l.a r.l.n r.l.cap, .slice r.one.a r.one.n r.one.cap, .slice r.two.a r.two.n r.two.cap, .slice r.three.a r.three.n r.three.cap, .int .i64 (rs.length : Int)] 62)).alloc (.cells #[.slice r.l.a r.l.n r.l.cap, .slice r.one.a r.one.n r.one.cap, .slice r.two.a r.two.n r.two.cap, .slice r.three.a r.three.n r.three.cap, .int .i64 (rs.length : Int)] 62)) w1.heap.size 62 [.slice r.l.a r.l.n r.l.cap, .slice r.one.a r.one.n r.one.cap, .slice r.two.a r.two.n r.two.cap, .slice r.three.a r.three.n r.three.cap, .int .i64 (rs.length : Int)]) := hR1
 have HG1 : Hid (∀ k, bkF r k → (Value.slice v.a v.n v.cap).ownBlock = some k ∨ w.heap.size < k) := hg1
 have HFR : Hid (Frame (fun k => (Value.slice v.a v.n v.cap).ownBlock = some k) w ((w1.alloc (.cells #[.slice r.l.a r.l.n r.l.cap, .slice r.one.a r.one.n r.one.cap, .slice r.two.a r.two.n r.two.cap, .slice r.three.a r.three.n r.three.cap, .int .i64 (rs.length : Int)] 62)).alloc (.cells #[.slice r.l.a r.l.n r.l.cap, .slice r.one.a r.one.n r.one.cap, .slice r.two.a r.two.n r.two.cap, .slice r.three.a r.three.n r.three.cap, .int .i64 (rs.length : Int)] 62)).drew) := hf1.trans (Frame.of_below_all hbx)
 have HNW : Hid (∀ k, bkF r k → ¬ bs.val.ownBlock = some k ∧ k ≠ wb) := fun k hk => by
  rcases hg1 k hk with h | h
  ·exact ⟨fun e => (HVW.out k h).2 (Or.inl e), (HVW.out k h).1⟩
  ·exact ⟨fun e => by have := HB.out.lt k (Or.inl e); omega, by have := HWL.out; omega⟩
 have hwb1 : wb < w1.heap.size := hW1.lt
 have hne1 : wb ≠ w1.heap.size := by omega
 have HN12 : Hid (rs.length ≤ 1200000000000) := hn
 clear hB1 hW1 hbx hB2 hW2 hr2 hR0 hR1 hf1 hg1 hr1 hn
 unfold bkC
 unfold SlR.val
 go_wp2
 go_region_law ((refine step_appendV (by rfl) (.tmp 16) (.tmp 18) 29 (by rfl) 0 62 _ 5 104 Tryz.underlying29 Tryz.infoDigests rfl (by decide) (.slice bs.a bs.n bs.cap) rs.length (bksF 0 rs) (by rfl) HOX.out ⟨w1.heap.size + 1, 0, none⟩ 1 1 (bkC r rs.length) (by rfl) rfl HSX.out H1.out (by have := HN12.out; unfold maxLen; omega) (by have := HN12.out; omega) (Nat.zero_le _) ?_; intro a2 n2 c2 w2 ho2 hf2 hat2; have hW3 := RowV.of_block HW2.out (hf2.block _ HW2.out.lt (fun e => owns_ne HOX.out HW2.out (by decide) e)); have z1 : w2.cell? ⟨wb, 2, none⟩ = some (.slice bs.a bs.n bs.cap) := RowV.cell hW3 2 (by simp); have z2 : w2.frozen? ⟨wb, 2, none⟩ = false := RowV.frozen hW3 2))
 all_goals
  go_wp2
  go_returns
  obtain ⟨q1, q2, q3, q4⟩ := bookD_fin (v := .slice v.a v.n v.cap) HB.out HB2.out hW3 HR2.out HFR.out HNW.out HG1.out HBWB.out ho2 hf2 hat2
  exact ⟨rfl, ⟨a2, n2, c2⟩, r, q1, q2, q3, q4⟩
end Go.Proofs.YtekegfbjbainhaaGreat


namespace Go.Proofs.YtekegfbjbainhaaGreat
open Go.RowKit
attribute [local go_sem ↓] Go.wp_at_zero Go.wp_at_succ
def BookD.addD (B : BookD) (dg' : SlR) (r : BkR) : BookD := { B with dg := dg', gs := B.gs ++ [r] }
theorem LawK.moreD {w W W' : World} {wb : Nat} {ps dg' v : SlR} {ds : List PairD} {B : BookD} {r : BkR} (h : LawK w wb ps ds B) (hb : Below w.heap.size w W) (hv : ∀ k, v.val.ownBlock = some k → w.heap.size ≤ k) (hr : RowV W' wb 34 [ps.val, B.bs.val, dg'.val, B.es.val]) (hbk : BdAt W' dg' (B.gs ++ [r]))
  (hf : Frame (fun k => k = wb ∨ v.val.ownBlock = some k ∨ B.dg.val.ownBlock = some k) W W') (hn : ∀ k, bookF dg' (B.gs ++ [r]) k → k < W.heap.size → bookF B.dg B.gs k ∨ v.val.ownBlock = some k) : LawK W' wb ps ds (B.addD dg' r) := by
 have hz := hb.size
 have hW := h.below hb
 have hn' : ∀ k, bookF dg' (B.gs ++ [r]) k → k < w.heap.size → bookF B.dg B.gs k := fun k hk hlt => by
  rcases hn k hk (by omega) with e | e
  ·exact e
  ·have := hv k e; omega
 refine h.turn (B' := B.addD dg' r) hb hf (fun k e => ?_) hr (hW.bk.frame hf (fun k hk e => ?_)) hbk (hW.be.frame hf (fun k hk e => ?_)) (fun k hk hlt => ?_) (fun k hk hg => ?_) (fun k hk => ⟨(h.ap2 k hk).1, fun hg => ?_⟩)
 ·rcases e with e | e | e
  ·exact Or.inl e
  ·exact Or.inr (Or.inr (hv k e))
  ·exact Or.inr (Or.inl (Or.inr (Or.inl (Or.inl e))))
 ·have hl := h.low k (Or.inl hk)
  have := h.bk.lt k hk
  rcases e with e | e | e
  ·omega
  ·have := hv k e; omega
  ·exact h.ap1 k hk (Or.inl e)
 ·have hl := h.low k (Or.inr (Or.inr hk))
  have := h.be.lt k hk
  rcases e with e | e | e
  ·omega
  ·have := hv k e; omega
  ·exact (h.ap2 k hk).2 (Or.inl e)
 ·rcases hk with hk | hk | hk
  ·exact Or.inl hk
  ·exact Or.inr (Or.inl (hn' k hk hlt))
  ·exact Or.inr (Or.inr hk)
 ·exact h.ap1 k hk (hn' k hg (h.bk.lt k hk))
 ·exact (h.ap2 k hk).2 (hn' k hg (h.be.lt k hk))
set_option maxRecDepth 100000 in
set_option maxHeartbeats 4000000 in
theorem proved_incl (cs : List Value) (ob oc : Int) (wb : Nat) (ps : SlR) (ds : List PairD) (B : BookD) (d : PairD) (w : World) (h : LawK w wb ps ds B) (hd : d ∈ ds) (k0 : cs[0]? = some (.int .i64 8)) (k2 : cs[2]? = some (.int .i64 ob)) (k3 : cs[3]? = some (.int .i64 oc)) (hn : B.gs.length ≤ 1200000000000) :
  Calls Tryz.prog 22 #[.pointer (some ⟨wb, 0, none⟩), .agg cs.toArray, .pointer (some ⟨d.pb, 0, none⟩)] w (StepK 0 1 0 wb ps ds B w) := by
 have hdk := h.law.ok d hd
 have hA : Below w.heap.size w (w.alloc (.cells cs.toArray 43)) := (Below.refl _ _).alloc (Nat.le_refl _) _
 have hpb : d.pb < w.heap.size := RowV.lt hdk.lay.row
 have hwb : wb < w.heap.size := RowV.lt h.law.row
 have HH : Hid (LawK w wb ps ds B) := h
 have HDK : Hid (PairOk w d) := hdk
 have HN : Hid (B.gs.length ≤ 1200000000000) := hn
 have HP0 : Hid (Calls _ _ _ _ (logPost (w.alloc (.cells cs.toArray 43)).drew (incS (d.tds.map rootOf) ob oc))) := stoIncl_any d.sb d.N d.en d.tr d.mp d.es d.xs d.its d.tds ob oc (w.alloc (.cells cs.toArray 43)).drew (hdk.lay.below hA.drew).sto hdk.t40
 have HR0 : Hid (∀ W, Below w.heap.size w W → Calls Tryz.prog 51 #[.pointer (some ⟨d.rb, 0, none⟩), .int .i64 ob, .int .i64 oc] W (logPost W (incS (d.tds.map rootOf) ob oc))) := fun W hW => by
  have h := refIncl_any d.rb d.now d.past d.roots d.nl d.pastL d.rl ob oc W (hdk.lay.below hW).ref (by rw [hdk.rl]; simpa using hdk.t40)
  rw [hdk.rl] at h
  exact h
 have HL8 : Hid ((∀ x ∈ (incS (d.tds.map rootOf) ob oc).1, x.length = 8) ∧ (incS (d.tds.map rootOf) ob oc).1.length ≤ 42) := incS_8 _ _ _
 generalize incS (d.tds.map rootOf) ob oc = q at *
 have r0 : w.cell? ⟨d.pb, 0, none⟩ = some (.pointer (some ⟨d.sb, 0, none⟩)) := RowV.cell hdk.lay.row 0 (by simp)
 have r1 : w.cell? ⟨d.pb, 1, none⟩ = some (.pointer (some ⟨d.rb, 0, none⟩)) := RowV.cell hdk.lay.row 1 (by simp)
 clear h hdk hn
 have c0 : (w.alloc (.cells cs.toArray 43)).cell? ⟨w.heap.size, 0, none⟩ = some (.int .i64 8) := by simp [go_sem, k0]
 have c2 : (w.alloc (.cells cs.toArray 43)).cell? ⟨w.heap.size, 2, none⟩ = some (.int .i64 ob) := by simp [go_sem, k2]
 have c3 : (w.alloc (.cells cs.toArray 43)).cell? ⟨w.heap.size, 3, none⟩ = some (.int .i64 oc) := by simp [go_sem, k3]
 have p0 : (w.alloc (.cells cs.toArray 43)).cell? ⟨d.pb, 0, none⟩ = some (.pointer (some ⟨d.sb, 0, none⟩)) := by rw [hA.cell (p := ⟨d.pb, 0, none⟩) hpb]; exact r0
 have p1 : (w.alloc (.cells cs.toArray 43)).cell? ⟨d.pb, 1, none⟩ = some (.pointer (some ⟨d.rb, 0, none⟩)) := by rw [hA.cell (p := ⟨d.pb, 1, none⟩) hpb]; exact r1
 have hz : w.heap.size < (w.alloc (.cells cs.toArray 43)).heap.size := by simp
 have HA : Hid (Below w.heap.size w (w.alloc (.cells cs.toArray 43))) := hA
 clear hA r0 r1
 go_enter Tryz.func22, Tryz.ntmps22
 go_wp2
 generalize hW0 : w.alloc (.cells cs.toArray 43) = W0 at *
 go_region_held3 (fun W' => W'.cell? ⟨d.pb, 0, none⟩ = some (.pointer (some ⟨d.sb, 0, none⟩)) ∧ W'.cell? ⟨w.heap.size, 2, none⟩ = some (.int .i64 ob) ∧ W'.cell? ⟨w.heap.size, 3, none⟩ = some (.int .i64 oc)) (go_keep)
  ((go_at_call 50; refine HP0.out.mono ?_; rintro v w2 hp2; unfold logPost at hp2; obtain ⟨v2, rfl, ho2, hb2⟩ := hp2; have hb2' : Below W0.heap.size W0 w2 := ⟨hb2.os, hb2.tape, hb2.output, hb2.size, hb2.block⟩; have a0 : w2.cell? ⟨d.pb, 0, none⟩ = _ := (hb2'.cell (p := ⟨d.pb, 0, none⟩) (by show d.pb < W0.heap.size; omega)).trans p0; have a2 : w2.cell? ⟨w.heap.size, 2, none⟩ = _ := (hb2'.cell (p := ⟨w.heap.size, 2, none⟩) hz).trans c2; have a3 : w2.cell? ⟨w.heap.size, 3, none⟩ = _ := (hb2'.cell (p := ⟨w.heap.size, 3, none⟩) hz).trans c3))
 have a1 : w2.cell? ⟨d.pb, 1, none⟩ = some (.pointer (some ⟨d.rb, 0, none⟩)) := (hb2'.cell (p := ⟨d.pb, 1, none⟩) (by show d.pb < W0.heap.size; omega)).trans p1
 have HO2 : Hid (w2.ownsRow W0.heap.size 36 8 (.slice v2.a v2.n v2.cap) q.1.length (digsC q.1)) := ho2
 have HB2 : Hid (Below w.heap.size w w2) := HA.out.trans (hb2'.mono HA.out.size)
 have hz2 : w.heap.size < w2.heap.size := Nat.lt_of_lt_of_le hz hb2'.size
 have hz3 : W0.heap.size ≤ w2.heap.size := hb2'.size
 clear ho2 hb2 hb2' p0 p1 c0 c2 c3 HP0 a0
 go_wp2
 go_region_held3 (fun W' => W'.cell? ⟨d.pb, 1, none⟩ = some (.pointer (some ⟨d.rb, 0, none⟩)) ∧ W'.cell? ⟨w.heap.size, 2, none⟩ = some (.int .i64 ob) ∧ W'.cell? ⟨w.heap.size, 3, none⟩ = some (.int .i64 oc)) (go_keep)
  ((go_at_call 51; refine (HR0.out _ (by repeat' (first | (with_reducible exact HB2.out) | (with_reducible refine Below.drew ?_)))).mono ?_; rintro v w3 hp3; unfold logPost at hp3; obtain ⟨v3, rfl, ho3, hb3⟩ := hp3; have hb3' : Below w2.heap.size w2 w3 := ⟨hb3.os, hb3.tape, hb3.output, hb3.size, hb3.block⟩; have e1 : w3.cell? ⟨d.pb, 1, none⟩ = _ := (hb3'.cell (p := ⟨d.pb, 1, none⟩) (by show d.pb < w2.heap.size; omega)).trans a1; have e2 : w3.cell? ⟨w.heap.size, 2, none⟩ = _ := (hb3'.cell (p := ⟨w.heap.size, 2, none⟩) hz2).trans a2; have e3 : w3.cell? ⟨w.heap.size, 3, none⟩ = _ := (hb3'.cell (p := ⟨w.heap.size, 3, none⟩) hz2).trans a3))
 have HB3 : Hid (Below w.heap.size w w3) := HB2.out.trans (hb3'.mono HB2.out.size)
 have HO23 : Hid (w3.ownsRow W0.heap.size 36 8 (.slice v2.a v2.n v2.cap) q.1.length (digsC q.1)) := owns_below HO2.out hb3'
 have hn2 : v2.n = q.1.length := (owns_cap (a := v2.a) (n' := v2.n) (cap := v2.cap) HO23.out).1
 have hn3 : v3.n = q.1.length := (owns_cap (a := v3.a) (n' := v3.n) (cap := v3.cap) ho3).1
 have HSP : Hid (Calls _ _ _ _ _) := samePath_any q.1 v2.a v3.a v2.cap v3.cap w3 ⟨(SlV.ofOwn (s := v2) HO23.out).1, HL8.out.1⟩ ⟨(SlV.ofOwn (s := v3) ho3).1, HL8.out.1⟩ (by have := HL8.out.2; omega)
 have HV2 : Hid (∀ k, (Value.slice v2.a v2.n v2.cap).ownBlock = some k → w.heap.size < k) := fun k hk => Nat.lt_of_lt_of_le hz (HO23.out.lt k hk).1
 have hz4 : W0.heap.size ≤ w3.heap.size := Nat.le_trans hz3 hb3'.size
 have HBD : Hid (∀ m, Calls Tryz.prog 53 #[.pointer (some ⟨wb, 1, none⟩), .slice v2.a v2.n v2.cap] (w3.drewN m) fun e w' => e = .returned (.tuple #[]) ∧ ∃ dg' r, LawK w' wb ps ds (B.addD dg' r) ∧ Below wb w w') := fun m => by
  have hbm : Below w3.heap.size w3 (w3.drewN m) := ⟨rfl, rfl, rfl, Nat.le_refl _, fun _ _ => rfl⟩
  have hbw := HB3.out.trans (hbm.mono HB3.out.size)
  have hHc := HH.out.below hbw
  refine (book_digest wb ps B.dg B.bs B.es v2 B.gs q.1.length (digsC q.1) W0.heap.size (w3.drewN m) hHc.row hHc.bd (owns_below HO23.out hbm) (by have := HL8.out.2; omega) HN.out hz4
   (fun k hk => ⟨by have := HV2.out k hk; omega, fun e => by have := HV2.out k hk; have := HH.out.bd.lt k e; omega⟩) (fun k hk => by have := (HH.out.low k (Or.inr (Or.inl hk))).1; omega)).mono ?_
  rintro e w' ⟨rfl, dg', r, g1, g2, g3, g4⟩
  refine ⟨rfl, dg', r, LawK.moreD (v := v2) HH.out hbw (fun k hk => Nat.le_of_lt (HV2.out k hk)) g1 g2 g3 g4, ?_⟩
  exact (hbw.mono (Nat.le_of_lt hwb)).trans (g3.below (Nat.le_trans (Nat.le_of_lt hwb) hbw.size) (fun k hk => by
   rcases hk with e | e | e
   ·omega
   ·have := HV2.out k e; omega
   ·have := (HH.out.low k (Or.inr (Or.inl (Or.inl e)))).1; omega))
 clear ho3 hb3 hb3' e1 e2 e3 a1 a2 a3
 rw [hn2, hn3] at *
 go_wp2_with fail
 refine HSP.out.mono ?_
 rintro v w4 ⟨rfl, m, rfl⟩
 go_wp2_with fail
 refine (HBD.out m).mono ?_
 rintro v w5 ⟨rfl, dg', r, g1, g2⟩
 have G1 : Hid (LawK w5 wb ps ds (B.addD dg' r)) := g1
 have G2 : Hid (Below wb w w5) := g2
 clear g1 g2 HBD HSP
 go_wp2
 go_ret
 exact ⟨rfl, _, G1.out, by simp [BookD.addD], by simp [BookD.addD], by simp [BookD.addD], G2.out⟩
set_option maxRecDepth 100000 in
set_option maxHeartbeats 4000000 in
theorem proved_ext (cs : List Value) (ob oc : Int) (wb : Nat) (ps : SlR) (ds : List PairD) (B : BookD) (d : PairD) (w : World) (h : LawK w wb ps ds B) (hd : d ∈ ds) (k0 : cs[0]? = some (.int .i64 9)) (k2 : cs[2]? = some (.int .i64 ob)) (k3 : cs[3]? = some (.int .i64 oc)) (hn : B.gs.length ≤ 1200000000000) :
  Calls Tryz.prog 22 #[.pointer (some ⟨wb, 0, none⟩), .agg cs.toArray, .pointer (some ⟨d.pb, 0, none⟩)] w (StepK 0 1 0 wb ps ds B w) := by
 have hdk := h.law.ok d hd
 have hA : Below w.heap.size w (w.alloc (.cells cs.toArray 43)) := (Below.refl _ _).alloc (Nat.le_refl _) _
 have hpb : d.pb < w.heap.size := RowV.lt hdk.lay.row
 have hwb : wb < w.heap.size := RowV.lt h.law.row
 have HH : Hid (LawK w wb ps ds B) := h
 have HDK : Hid (PairOk w d) := hdk
 have HN : Hid (B.gs.length ≤ 1200000000000) := hn
 have HP0 : Hid (Calls _ _ _ _ (logPost (w.alloc (.cells cs.toArray 43)).drew (extS (d.tds.map rootOf) ob oc))) := stoExt_any d.sb d.N d.en d.tr d.mp d.es d.xs d.its d.tds ob oc (w.alloc (.cells cs.toArray 43)).drew (hdk.lay.below hA.drew).sto hdk.t40
 have HR0 : Hid (∀ W, Below w.heap.size w W → Calls Tryz.prog 55 #[.pointer (some ⟨d.rb, 0, none⟩), .int .i64 ob, .int .i64 oc] W (logPost W (extS (d.tds.map rootOf) ob oc))) := fun W hW => by
  have h := refExt_any d.rb d.now d.past d.roots d.nl d.pastL d.rl ob oc W (hdk.lay.below hW).ref (by rw [hdk.rl]; simpa using hdk.t40)
  rw [hdk.rl] at h
  exact h
 have HL8 : Hid ((∀ x ∈ (extS (d.tds.map rootOf) ob oc).1, x.length = 8) ∧ (extS (d.tds.map rootOf) ob oc).1.length ≤ 42) := extS_8 _ _ _
 generalize extS (d.tds.map rootOf) ob oc = q at *
 have r0 : w.cell? ⟨d.pb, 0, none⟩ = some (.pointer (some ⟨d.sb, 0, none⟩)) := RowV.cell hdk.lay.row 0 (by simp)
 have r1 : w.cell? ⟨d.pb, 1, none⟩ = some (.pointer (some ⟨d.rb, 0, none⟩)) := RowV.cell hdk.lay.row 1 (by simp)
 clear h hdk hn
 have c0 : (w.alloc (.cells cs.toArray 43)).cell? ⟨w.heap.size, 0, none⟩ = some (.int .i64 9) := by simp [go_sem, k0]
 have c2 : (w.alloc (.cells cs.toArray 43)).cell? ⟨w.heap.size, 2, none⟩ = some (.int .i64 ob) := by simp [go_sem, k2]
 have c3 : (w.alloc (.cells cs.toArray 43)).cell? ⟨w.heap.size, 3, none⟩ = some (.int .i64 oc) := by simp [go_sem, k3]
 have p0 : (w.alloc (.cells cs.toArray 43)).cell? ⟨d.pb, 0, none⟩ = some (.pointer (some ⟨d.sb, 0, none⟩)) := by rw [hA.cell (p := ⟨d.pb, 0, none⟩) hpb]; exact r0
 have p1 : (w.alloc (.cells cs.toArray 43)).cell? ⟨d.pb, 1, none⟩ = some (.pointer (some ⟨d.rb, 0, none⟩)) := by rw [hA.cell (p := ⟨d.pb, 1, none⟩) hpb]; exact r1
 have hz : w.heap.size < (w.alloc (.cells cs.toArray 43)).heap.size := by simp
 have HA : Hid (Below w.heap.size w (w.alloc (.cells cs.toArray 43))) := hA
 clear hA r0 r1
 go_enter Tryz.func22, Tryz.ntmps22
 go_wp2
 generalize hW0 : w.alloc (.cells cs.toArray 43) = W0 at *
 go_region_held3 (fun W' => W'.cell? ⟨d.pb, 0, none⟩ = some (.pointer (some ⟨d.sb, 0, none⟩)) ∧ W'.cell? ⟨w.heap.size, 2, none⟩ = some (.int .i64 ob) ∧ W'.cell? ⟨w.heap.size, 3, none⟩ = some (.int .i64 oc)) (go_keep)
  ((go_at_call 54; refine HP0.out.mono ?_; rintro v w2 hp2; unfold logPost at hp2; obtain ⟨v2, rfl, ho2, hb2⟩ := hp2; have hb2' : Below W0.heap.size W0 w2 := ⟨hb2.os, hb2.tape, hb2.output, hb2.size, hb2.block⟩; have a0 : w2.cell? ⟨d.pb, 0, none⟩ = _ := (hb2'.cell (p := ⟨d.pb, 0, none⟩) (by show d.pb < W0.heap.size; omega)).trans p0; have a2 : w2.cell? ⟨w.heap.size, 2, none⟩ = _ := (hb2'.cell (p := ⟨w.heap.size, 2, none⟩) hz).trans c2; have a3 : w2.cell? ⟨w.heap.size, 3, none⟩ = _ := (hb2'.cell (p := ⟨w.heap.size, 3, none⟩) hz).trans c3))
 have a1 : w2.cell? ⟨d.pb, 1, none⟩ = some (.pointer (some ⟨d.rb, 0, none⟩)) := (hb2'.cell (p := ⟨d.pb, 1, none⟩) (by show d.pb < W0.heap.size; omega)).trans p1
 have HO2 : Hid (w2.ownsRow W0.heap.size 36 8 (.slice v2.a v2.n v2.cap) q.1.length (digsC q.1)) := ho2
 have HB2 : Hid (Below w.heap.size w w2) := HA.out.trans (hb2'.mono HA.out.size)
 have hz2 : w.heap.size < w2.heap.size := Nat.lt_of_lt_of_le hz hb2'.size
 have hz3 : W0.heap.size ≤ w2.heap.size := hb2'.size
 clear ho2 hb2 hb2' p0 p1 c0 c2 c3 HP0 a0
 go_wp2
 go_region_held3 (fun W' => W'.cell? ⟨d.pb, 1, none⟩ = some (.pointer (some ⟨d.rb, 0, none⟩)) ∧ W'.cell? ⟨w.heap.size, 2, none⟩ = some (.int .i64 ob) ∧ W'.cell? ⟨w.heap.size, 3, none⟩ = some (.int .i64 oc)) (go_keep)
  ((go_at_call 55; refine (HR0.out _ (by repeat' (first | (with_reducible exact HB2.out) | (with_reducible refine Below.drew ?_)))).mono ?_; rintro v w3 hp3; unfold logPost at hp3; obtain ⟨v3, rfl, ho3, hb3⟩ := hp3; have hb3' : Below w2.heap.size w2 w3 := ⟨hb3.os, hb3.tape, hb3.output, hb3.size, hb3.block⟩; have e1 : w3.cell? ⟨d.pb, 1, none⟩ = _ := (hb3'.cell (p := ⟨d.pb, 1, none⟩) (by show d.pb < w2.heap.size; omega)).trans a1; have e2 : w3.cell? ⟨w.heap.size, 2, none⟩ = _ := (hb3'.cell (p := ⟨w.heap.size, 2, none⟩) hz2).trans a2; have e3 : w3.cell? ⟨w.heap.size, 3, none⟩ = _ := (hb3'.cell (p := ⟨w.heap.size, 3, none⟩) hz2).trans a3))
 have HB3 : Hid (Below w.heap.size w w3) := HB2.out.trans (hb3'.mono HB2.out.size)
 have HO23 : Hid (w3.ownsRow W0.heap.size 36 8 (.slice v2.a v2.n v2.cap) q.1.length (digsC q.1)) := owns_below HO2.out hb3'
 have hn2 : v2.n = q.1.length := (owns_cap (a := v2.a) (n' := v2.n) (cap := v2.cap) HO23.out).1
 have hn3 : v3.n = q.1.length := (owns_cap (a := v3.a) (n' := v3.n) (cap := v3.cap) ho3).1
 have HSP : Hid (Calls _ _ _ _ _) := samePath_any q.1 v2.a v3.a v2.cap v3.cap w3 ⟨(SlV.ofOwn (s := v2) HO23.out).1, HL8.out.1⟩ ⟨(SlV.ofOwn (s := v3) ho3).1, HL8.out.1⟩ (by have := HL8.out.2; omega)
 have HV2 : Hid (∀ k, (Value.slice v2.a v2.n v2.cap).ownBlock = some k → w.heap.size < k) := fun k hk => Nat.lt_of_lt_of_le hz (HO23.out.lt k hk).1
 have hz4 : W0.heap.size ≤ w3.heap.size := Nat.le_trans hz3 hb3'.size
 have HBD : Hid (∀ m, Calls Tryz.prog 53 #[.pointer (some ⟨wb, 1, none⟩), .slice v2.a v2.n v2.cap] (w3.drewN m) fun e w' => e = .returned (.tuple #[]) ∧ ∃ dg' r, LawK w' wb ps ds (B.addD dg' r) ∧ Below wb w w') := fun m => by
  have hbm : Below w3.heap.size w3 (w3.drewN m) := ⟨rfl, rfl, rfl, Nat.le_refl _, fun _ _ => rfl⟩
  have hbw := HB3.out.trans (hbm.mono HB3.out.size)
  have hHc := HH.out.below hbw
  refine (book_digest wb ps B.dg B.bs B.es v2 B.gs q.1.length (digsC q.1) W0.heap.size (w3.drewN m) hHc.row hHc.bd (owns_below HO23.out hbm) (by have := HL8.out.2; omega) HN.out hz4
   (fun k hk => ⟨by have := HV2.out k hk; omega, fun e => by have := HV2.out k hk; have := HH.out.bd.lt k e; omega⟩) (fun k hk => by have := (HH.out.low k (Or.inr (Or.inl hk))).1; omega)).mono ?_
  rintro e w' ⟨rfl, dg', r, g1, g2, g3, g4⟩
  refine ⟨rfl, dg', r, LawK.moreD (v := v2) HH.out hbw (fun k hk => Nat.le_of_lt (HV2.out k hk)) g1 g2 g3 g4, ?_⟩
  exact (hbw.mono (Nat.le_of_lt hwb)).trans (g3.below (Nat.le_trans (Nat.le_of_lt hwb) hbw.size) (fun k hk => by
   rcases hk with e | e | e
   ·omega
   ·have := HV2.out k e; omega
   ·have := (HH.out.low k (Or.inr (Or.inl (Or.inl e)))).1; omega))
 clear ho3 hb3 hb3' e1 e2 e3 a1 a2 a3
 rw [hn2, hn3] at *
 go_wp2_with fail
 refine HSP.out.mono ?_
 rintro v w4 ⟨rfl, m, rfl⟩
 go_wp2_with fail
 refine (HBD.out m).mono ?_
 rintro v w5 ⟨rfl, dg', r, g1, g2⟩
 have G1 : Hid (LawK w5 wb ps ds (B.addD dg' r)) := g1
 have G2 : Hid (Below wb w w5) := g2
 clear g1 g2 HBD HSP
 go_wp2
 go_ret
 exact ⟨rfl, _, G1.out, by simp [BookD.addD], by simp [BookD.addD], by simp [BookD.addD], G2.out⟩
end Go.Proofs.YtekegfbjbainhaaGreat
