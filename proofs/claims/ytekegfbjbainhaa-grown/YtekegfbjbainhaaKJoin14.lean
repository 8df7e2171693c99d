import Derived.Test.YtekegfbjbainhaaKJoin5
import Derived.Test.YtekegfbjbainhaaKJoin13
import Derived.Deep.RegionHeld3
import Derived.Test.YtekegfbjbainhaaKJoin1
import Derived.Test.YtekegfbjbainhaaKJoin3
import Derived.Test.YtekegfbjbainhaaKJoin6
import Derived.Deep.RegionLaw
import Derived.Deep.DrawnRows
import Derived.WalkLawsBesides
import Derived.Deep.DeepCutAuto
import Derived.Deep.RegionWith
import Derived.Defers
import Derived.Recover
import Derived.Deep.CutBlock
set_option linter.unusedVariables false
set_option linter.unusedSimpArgs false

namespace Go.Proofs.Ytekegfbjbainhaa
open Go.RowKit
def flagsF : Nat → Nat → Nat → List Bool
 | 0, _, _ => []
 | f + 1, e, n => if n ≤ 1 then [] else if e < halfN n then false :: flagsF f e (halfN n) else true :: flagsF f (e - halfN n) (n - halfN n)
def jF : List Bool → List (List UInt8) → List UInt8 → List (List UInt8)
 | b :: bs, p :: ps, d => (if b = true then 1 :: (p ++ d) else 1 :: (d ++ p)) :: jF bs ps (digB (if b = true then 1 :: (p ++ d) else 1 :: (d ++ p)))
 | _, _, _ => []
def dF : List Bool → List (List UInt8) → List UInt8 → List UInt8
 | b :: bs, p :: ps, d => dF bs ps (digB (if b = true then 1 :: (p ++ d) else 1 :: (d ++ p)))
 | _, _, d => d
theorem jF_snoc (b : Bool) (p : List UInt8) : ∀ (bs : List Bool) (ps : List (List UInt8)) (d : List UInt8), bs.length = ps.length → jF (bs ++ [b]) (ps ++ [p]) d = jF bs ps d ++ [if b = true then 1 :: (p ++ dF bs ps d) else 1 :: (dF bs ps d ++ p)]
 | [], [], d, _ => by cases b <;> rfl
 | [], _ :: _, d, h => by simp at h
 | _ :: _, [], d, h => by simp at h
 | c :: bs, q :: ps, d, h => by
  simp only [List.cons_append, jF, dF]
  rw [jF_snoc b p bs ps _ (by simpa using h)]
theorem dF_snoc (b : Bool) (p : List UInt8) : ∀ (bs : List Bool) (ps : List (List UInt8)) (d : List UInt8), bs.length = ps.length → dF (bs ++ [b]) (ps ++ [p]) d = digB (if b = true then 1 :: (p ++ dF bs ps d) else 1 :: (dF bs ps d ++ p))
 | [], [], d, _ => by cases b <;> rfl
 | [], _ :: _, d, h => by simp at h
 | _ :: _, [], d, h => by simp at h
 | c :: bs, q :: ps, d, h => by
  simp only [List.cons_append, dF]
  rw [dF_snoc b p bs ps _ (by simpa using h)]
def joinedF (e n : Nat) (root : List UInt8) (path : List (List UInt8)) : List (List UInt8) := (0 :: root) :: jF (flagsF 64 e n).reverse path (digB (0 :: root))
theorem flags_step {f e n : Nat} (hn : ¬ n ≤ 1) : flagsF (f + 1) e n = if e < halfN n then false :: flagsF f e (halfN n) else true :: flagsF f (e - halfN n) (n - halfN n) := by
 conv => lhs; unfold flagsF
 rw [if_neg hn]
theorem flags_one (f e : Nat) : flagsF f e 1 = [] := by
 cases f with
 | zero => rfl
 | succ f => unfold flagsF; rw [if_pos (by omega)]
theorem thr_cons {e n : Nat} {root x : List UInt8} {r : List (List UInt8)} (h : (thrF e n root (x :: r)).2 = true) : n ≠ 1 := fun e1 => by
 unfold thrF at h
 rw [if_pos e1] at h
 cases h
theorem thr_lt {e n : Nat} {root x : List UInt8} {r : List (List UInt8)} (hn : n ≠ 1) (he : e < halfN n) : thrF e n root (x :: r) = (digB (1 :: ((thrF e (halfN n) root r).1 ++ x)), (thrF e (halfN n) root r).2) := by
 conv => lhs; unfold thrF
 rw [if_neg hn, if_pos he]
theorem thr_ge {e n : Nat} {root x : List UInt8} {r : List (List UInt8)} (hn : n ≠ 1) (he : ¬ e < halfN n) : thrF e n root (x :: r) = (digB (1 :: (x ++ (thrF (e - halfN n) (n - halfN n) root r).1)), (thrF (e - halfN n) (n - halfN n) root r).2) := by
 conv => lhs; unfold thrF
 rw [if_neg hn, if_neg he]
theorem thr_nil {e n : Nat} {root : List UInt8} (h : (thrF e n root []).2 = true) : n = 1 := by
 unfold thrF at h
 split at h
 ·assumption
 ·cases h
theorem thr_join : ∀ (r : List (List UInt8)) (f e n : Nat) (root : List UInt8), n ≤ f → 1 ≤ n → (thrF e n root r).2 = true →
  (flagsF f e n).length = r.length ∧ dF (flagsF f e n).reverse r.reverse (digB (0 :: root)) = (thrF e n root r).1
 | [], f, e, n, root, hf, hn, h => by
  have h1 := thr_nil h
  subst h1
  rw [flags_one]
  exact ⟨rfl, by unfold thrF; rw [if_pos rfl]; rfl⟩
 | x :: r, 0, e, n, root, hf, hn, h => by omega
 | x :: r, f + 1, e, n, root, hf, hn, h => by
  have h1 := thr_cons h
  have hb := halfN_bd n (by omega)
  rw [flags_step (by omega)]
  by_cases he : e < halfN n
  ·rw [thr_lt h1 he] at h ⊢
   obtain ⟨i1, i2⟩ := thr_join r f e (halfN n) root (by omega) (by omega) h
   rw [if_pos he]
   refine ⟨by simp [i1], ?_⟩
   rw [List.reverse_cons, List.reverse_cons, dF_snoc false x _ _ _ (by simp [i1]), i2]
   rfl
  ·rw [thr_ge h1 he] at h ⊢
   obtain ⟨i1, i2⟩ := thr_join r f (e - halfN n) (n - halfN n) root (by omega) (by omega) h
   rw [if_neg he]
   refine ⟨by simp [i1], ?_⟩
   rw [List.reverse_cons, List.reverse_cons, dF_snoc true x _ _ _ (by simp [i1]), i2]
   rfl
theorem two_paths : ∀ (r s : List (List UInt8)) (f e n : Nat) (x y : List UInt8), n ≤ f → 1 ≤ n → (thrF e n x r).2 = true → (thrF e n y s).2 = true → (thrF e n x r).1 = (thrF e n y s).1 →
  x = y ∨ Met ((0 :: x) :: jF (flagsF f e n).reverse r.reverse (digB (0 :: x))) ((0 :: y) :: jF (flagsF f e n).reverse s.reverse (digB (0 :: y)))
 | [], [], f, e, n, x, y, hf, hn, h1, h2, h3 => by
  have g1 := thr_nil h1
  subst g1
  unfold thrF at h3
  rw [if_pos rfl, if_pos rfl] at h3
  by_cases e : x = y
  ·exact Or.inl e
  ·exact Or.inr ⟨0 :: x, by simp, 0 :: y, by simp, fun h => e (by simpa using h), h3⟩
 | [], q :: s, f, e, n, x, y, hf, hn, h1, h2, h3 => absurd (thr_nil h1) (thr_cons h2)
 | p :: r, [], f, e, n, x, y, hf, hn, h1, h2, h3 => absurd (thr_nil h2) (thr_cons h1)
 | p :: r, q :: s, 0, e, n, x, y, hf, hn, h1, h2, h3 => by omega
 | p :: r, q :: s, f + 1, e, n, x, y, hf, hn, h1, h2, h3 => by
  have g1 := thr_cons h1
  have hb := halfN_bd n (by omega)
  rw [flags_step (by omega)]
  by_cases he : e < halfN n
  ·rw [thr_lt g1 he] at h1 h3
   rw [thr_lt g1 he] at h2 h3
   simp only at h1 h2 h3
   rw [if_pos he]
   obtain ⟨i1, i2⟩ := thr_join r f e (halfN n) x (by omega) (by omega) h1
   obtain ⟨j1, j2⟩ := thr_join s f e (halfN n) y (by omega) (by omega) h2
   rw [List.reverse_cons, List.reverse_cons, List.reverse_cons, jF_snoc false p _ _ _ (by simp [i1]), jF_snoc false q _ _ _ (by simp [j1]), i2, j2]
   simp only [Bool.false_eq_true, if_false]
   by_cases ht : (1 :: ((thrF e (halfN n) x r).1 ++ p) : List UInt8) = 1 :: ((thrF e (halfN n) y s).1 ++ q)
   ·have ht2 : (thrF e (halfN n) x r).1 ++ p = (thrF e (halfN n) y s).1 ++ q := by simpa using ht
    have hs := (List.append_inj ht2 (by rw [thrF_length, thrF_length])).1
    rcases two_paths r s f e (halfN n) x y (by omega) (by omega) h1 h2 hs with h | h
    ·exact Or.inl h
    ·refine Or.inr (h.mono (fun z hz => ?_) (fun z hz => ?_))
     ·rcases List.mem_cons.1 hz with rfl | hz
      ·simp
      ·simp [hz]
     ·rcases List.mem_cons.1 hz with rfl | hz
      ·simp
      ·simp [hz]
   ·exact Or.inr ⟨_, List.mem_cons_of_mem _ (List.mem_append_right _ (List.mem_singleton.2 rfl)), _, List.mem_cons_of_mem _ (List.mem_append_right _ (List.mem_singleton.2 rfl)), ht, h3⟩
  ·rw [thr_ge g1 he] at h1 h3
   rw [thr_ge g1 he] at h2 h3
   simp only at h1 h2 h3
   rw [if_neg he]
   obtain ⟨i1, i2⟩ := thr_join r f (e - halfN n) (n - halfN n) x (by omega) (by omega) h1
   obtain ⟨j1, j2⟩ := thr_join s f (e - halfN n) (n - halfN n) y (by omega) (by omega) h2
   rw [List.reverse_cons, List.reverse_cons, List.reverse_cons, jF_snoc true p _ _ _ (by simp [i1]), jF_snoc true q _ _ _ (by simp [j1]), i2, j2]
   simp only [if_true]
   by_cases ht : (1 :: (p ++ (thrF (e - halfN n) (n - halfN n) x r).1) : List UInt8) = 1 :: (q ++ (thrF (e - halfN n) (n - halfN n) y s).1)
   ·have ht2 : p ++ (thrF (e - halfN n) (n - halfN n) x r).1 = q ++ (thrF (e - halfN n) (n - halfN n) y s).1 := by simpa using ht
    have hs := (List.append_inj' ht2 (by rw [thrF_length, thrF_length])).2
    rcases two_paths r s f (e - halfN n) (n - halfN n) x y (by omega) (by omega) h1 h2 hs with h | h
    ·exact Or.inl h
    ·refine Or.inr (h.mono (fun z hz => ?_) (fun z hz => ?_))
     ·rcases List.mem_cons.1 hz with rfl | hz
      ·simp
      ·simp [hz]
     ·rcases List.mem_cons.1 hz with rfl | hz
      ·simp
      ·simp [hz]
   ·exact Or.inr ⟨_, List.mem_cons_of_mem _ (List.mem_append_right _ (List.mem_singleton.2 rfl)), _, List.mem_cons_of_mem _ (List.mem_append_right _ (List.mem_singleton.2 rfl)), ht, h3⟩
theorem incl_two {n e : Nat} {sum x y : List UInt8} {a b : List (List UInt8)} (hn : n ≤ 64) (h1 : inclF (n : Int) (e : Int) sum x a.reverse = true) (h2 : inclF (n : Int) (e : Int) sum y b.reverse = true) : x = y ∨ Met (joinedF e n x a) (joinedF e n y b) := by
 unfold inclF at h1 h2
 split at h1
 ·cases h1
 ·rename_i hc
  rw [if_neg hc] at h2
  simp only [Int.toNat_natCast, Bool.and_eq_true, beq_iff_eq] at h1 h2
  have h := two_paths a.reverse b.reverse 64 e n x y hn (by omega) h1.1 h2.1 (h1.2.trans h2.2.symm)
  simp only [List.reverse_reverse] at h
  exact h
end Go.Proofs.Ytekegfbjbainhaa


namespace Go.Proofs.Ytekegfbjbainhaa
open Go.RowKit
attribute [local go_sem ↓] Go.wp_at_zero Go.wp_at_succ
def bothB (o : Option (List UInt8 × List UInt8)) (osum sum : List UInt8) : Bool := match o with
 | none => false
 | some q => q.1 == osum && q.2 == sum
def extF (m n : Int) (osum sum : List UInt8) (r : List (List UInt8)) : Bool := if m < 0 ∨ n < m then false else if m = 0 then r.length == 0 && osum == digB [] else bothB (bothF m.toNat n.toNat true osum r) osum sum
end Go.Proofs.Ytekegfbjbainhaa


namespace Go.Proofs.Ytekegfbjbainhaa
open Go.RowKit
end Go.Proofs.Ytekegfbjbainhaa


namespace Go.Proofs.Ytekegfbjbainhaa
open Go.RowKit
end Go.Proofs.Ytekegfbjbainhaa


namespace Go.Proofs.Ytekegfbjbainhaa
open Go.RowKit
end Go.Proofs.Ytekegfbjbainhaa


namespace Go.Proofs.Ytekegfbjbainhaa
open Go.RowKit
attribute [local go_sem ↓] Go.wp_at_zero Go.wp_at_succ
end Go.Proofs.Ytekegfbjbainhaa


namespace Go.Proofs.Ytekegfbjbainhaa
open Go.RowKit
end Go.Proofs.Ytekegfbjbainhaa


namespace Go.Proofs.Ytekegfbjbainhaa
open Go.RowKit
def entC (e : SlR × SlR) : List Value := [e.1.val, e.2.val]
def entsC (l : List (SlR × SlR)) : List Value := l.flatMap entC
theorem entsC_append (l m : List (SlR × SlR)) : entsC (l ++ m) = entsC l ++ entsC m := by simp [entsC]
theorem entsC_one (l : List (SlR × SlR)) : ∀ u ∈ entsC l, u.oneCell' = true := fun u hu => by
 obtain ⟨x, _, hx⟩ := List.mem_flatMap.1 hu
 simp only [entC, SlR.val, List.mem_cons, List.not_mem_nil, or_false] at hx
 rcases hx with rfl | rfl <;> rfl
theorem Try.infoEnt : (Try.prog.info? 37).map (fun i => (i.zero, i.size, i.bytes)) = some (some (.agg #[.slice none 0 0, .slice none 0 0]), 2, 48) := by kernel_rfl
end Go.Proofs.Ytekegfbjbainhaa


namespace Go.Proofs.Ytekegfbjbainhaa
open Go.RowKit
end Go.Proofs.Ytekegfbjbainhaa


namespace Go.Proofs.Ytekegfbjbainhaa
open Go.RowKit
end Go.Proofs.Ytekegfbjbainhaa


namespace Go.Proofs.Ytekegfbjbainhaa
open Go.RowKit
end Go.Proofs.Ytekegfbjbainhaa


namespace Go.Proofs.Ytekegfbjbainhaa
open Go.RowKit
attribute [local go_sem ↓] Go.wp_at_zero Go.wp_at_succ
end Go.Proofs.Ytekegfbjbainhaa


namespace Go.Proofs.Ytekegfbjbainhaa
open Go.RowKit
attribute [local go_sem ↓] Go.wp_at_zero Go.wp_at_succ
end Go.Proofs.Ytekegfbjbainhaa


namespace Go.Proofs.Ytekegfbjbainhaa
open Go.RowKit
attribute [local go_sem ↓] Go.wp_at_zero Go.wp_at_succ
end Go.Proofs.Ytekegfbjbainhaa


namespace Go.Proofs.Ytekegfbjbainhaa
open Go.RowKit
end Go.Proofs.Ytekegfbjbainhaa


namespace Go.Proofs.Ytekegfbjbainhaa
open Go.RowKit
attribute [local go_sem ↓] Go.wp_at_zero Go.wp_at_succ
end Go.Proofs.Ytekegfbjbainhaa


namespace Go.Proofs.Ytekegfbjbainhaa
open Go.RowKit
attribute [local go_sem ↓] Go.wp_at_zero Go.wp_at_succ
end Go.Proofs.Ytekegfbjbainhaa


namespace Go.Proofs.Ytekegfbjbainhaa
open Go.RowKit
attribute [local go_sem ↓] Go.wp_at_zero Go.wp_at_succ
end Go.Proofs.Ytekegfbjbainhaa


namespace Go.Proofs.Ytekegfbjbainhaa
open Go.RowKit
attribute [local go_sem ↓] Go.wp_at_zero Go.wp_at_succ
end Go.Proofs.Ytekegfbjbainhaa


namespace Go.Proofs.Ytekegfbjbainhaa
open Go.RowKit
attribute [local go_sem ↓] Go.wp_at_zero Go.wp_at_succ
end Go.Proofs.Ytekegfbjbainhaa


namespace Go.Proofs.Ytekegfbjbainhaa
open Go.RowKit
attribute [local go_sem ↓] Go.wp_at_zero Go.wp_at_succ
end Go.Proofs.Ytekegfbjbainhaa


namespace Go.Proofs.Ytekegfbjbainhaa
open Go.RowKit
attribute [local go_sem ↓] Go.wp_at_zero Go.wp_at_succ
theorem wp_toBytes {ops : Array Oper} {rest : List Oper} {o : Oper} {a : Act} {w : World} {Q : Exit → Act → World → Prop} (hgd : o.guard = none) (x : Operand) (ho : o.op = .convert 9 35 x) (l : List UInt8) (hx : a.eval x = .string ⟨l.toArray⟩)
  (h : ∀ (s : SlR) (w' : World), BS w' s l → Below w.heap.size w w' → (∀ x, s.a = some x → w.heap.size ≤ x.block) → wpList Try.prog ops Q rest (a.put o.dst (.slice s.a s.n s.cap)) w') : wpList Try.prog ops Q (o :: rest) a w := by
 refine wpList_plain hgd fun K hK => ?_
 have hr := run_bytes_of_string (P := Try.prog) w 9 35 5 ⟨l.toArray⟩ Try.underlying9 Try.underlying35 Try.underlying5
 unfold Oper.wp execOp
 simp only [ho, Option.map, hx]
 go_simp
 refine hK _ _ (h ⟨some ⟨w.heap.size, 0, none⟩, l.length, grownCap w l.length 0 5⟩ _ ?_ ?_ ?_)
 ·have hb := (BS.ofString w ⟨l.toArray⟩ (grownCap w l.length 0 5) 5 ((bytesRow ⟨l.toArray⟩ (grownCap w l.length 0 5)).size, (bytesRow ⟨l.toArray⟩ (grownCap w l.length 0 5)).size + 1)).drew
  simpa [ba_size] using hb
 ·exact ((Below.refl _ _).alloc (Nat.le_refl _) _).drew
 ·intro x hx; cases hx; exact Nat.le_refl _
end Go.Proofs.Ytekegfbjbainhaa


namespace Go.Proofs.Ytekegfbjbainhaa
open Go.RowKit
attribute [local go_sem ↓] Go.wp_at_zero Go.wp_at_succ
end Go.Proofs.Ytekegfbjbainhaa


namespace Go.Proofs.Ytekegfbjbainhaa
open Go.RowKit
attribute [local go_sem ↓] Go.wp_at_zero Go.wp_at_succ
end Go.Proofs.Ytekegfbjbainhaa


namespace Go.Proofs.Ytekegfbjbainhaa
open Go.RowKit
attribute [local go_sem ↓] Go.wp_at_zero Go.wp_at_succ
end Go.Proofs.Ytekegfbjbainhaa


namespace Go.Proofs.Ytekegfbjbainhaa
open Go.RowKit
attribute [local go_sem ↓] Go.wp_at_zero Go.wp_at_succ
end Go.Proofs.Ytekegfbjbainhaa


namespace Go.Proofs.Ytekegfbjbainhaa
open Go.RowKit
attribute [local go_sem ↓] Go.wp_at_zero Go.wp_at_succ
end Go.Proofs.Ytekegfbjbainhaa


namespace Go.Proofs.Ytekegfbjbainhaa
open Go.RowKit
attribute [local go_sem ↓] Go.wp_at_zero Go.wp_at_succ
end Go.Proofs.Ytekegfbjbainhaa


namespace Go.Proofs.Ytekegfbjbainhaa
open Go.RowKit
attribute [local go_sem ↓] Go.wp_at_zero Go.wp_at_succ
theorem owns_apart {w : World} {base base' e e' size size' n n' : Nat} {v v' : Value} {xs xs' : List Value} (h : w.ownsRow base e size v n xs) (h' : w.ownsRow base' e' size' v' n' xs') (hne : e ≠ e') : ∀ k, v.ownBlock = some k → v'.ownBlock ≠ some k := fun k hk hk' => by
 rcases h.2 with ⟨hv, _⟩ | ⟨g, cap, cur, hv, hg, hb, _⟩
 ·rw [hv] at hk; simp [Value.ownBlock] at hk
 ·rcases h'.2 with ⟨hv', _⟩ | ⟨g', cap', cur', hv', hg', hb', _⟩
  ·rw [hv'] at hk'; simp [Value.ownBlock] at hk'
  ·rw [hv] at hk; rw [hv'] at hk'
   simp [Value.ownBlock] at hk hk'
   subst hk; subst hk'
   rw [hb] at hb'
   simp at hb'
   exact hne hb'.2
end Go.Proofs.Ytekegfbjbainhaa


namespace Go.Proofs.Ytekegfbjbainhaa
open Go.RowKit
attribute [local go_sem ↓] Go.wp_at_zero Go.wp_at_succ
end Go.Proofs.Ytekegfbjbainhaa


namespace Go.Proofs.Ytekegfbjbainhaa
open Go.RowKit
attribute [local go_sem ↓] Go.wp_at_zero Go.wp_at_succ
end Go.Proofs.Ytekegfbjbainhaa


namespace Go.Proofs.Ytekegfbjbainhaa
open Go.RowKit
attribute [local go_sem ↓] Go.wp_at_zero Go.wp_at_succ
end Go.Proofs.Ytekegfbjbainhaa


namespace Go.Proofs.Ytekegfbjbainhaa
open Go.RowKit
theorem Try.infoDigP : (Try.prog.info? 45).map (fun i => (i.zero, i.size, i.bytes)) = some (some (.agg #[.int .u8 0, .int .u8 0, .int .u8 0, .int .u8 0, .int .u8 0, .int .u8 0, .int .u8 0, .int .u8 0]), 8, 8) := by kernel_rfl
end Go.Proofs.Ytekegfbjbainhaa
