import Derived.Test.YtekegfbjbainhaaKJoin12
import Derived.Test.YtekegfbjbainhaaKJoin3
import Derived.Test.YtekegfbjbainhaaKJoin10
set_option linter.unusedVariables false
set_option linter.unusedSimpArgs false

namespace Go.Proofs.Ytekegfbjbainhaa
open Go.RowKit
def pageAt (lvls : List (List (List ItR))) (n j : Nat) : List ItR := ((lvls[n]?.getD [])[j]?).getD []
def belowAt (p : List ItR) (i : Nat) : Nat := (p[i]?.map (·.below)).getD 0
def rangeF (lvls : List (List (List ItR))) (fr tu : List UInt8) : Nat → List ItR → List UInt8
 | 0, p => frameB 0 p
 | n + 1, p => frameB (n + 1) p ++ (List.range p.length).flatMap (fun i => if withB p i fr tu = true then rangeF lvls fr tu n (pageAt lvls n (belowAt p i)) else [])
def behindF (lvls : List (List (List ItR))) (fr tu : List UInt8) (n : Nat) (p : List ItR) (k : Nat) : List UInt8 := (List.range k).flatMap (fun i => if withB p i fr tu = true then rangeF lvls fr tu n (pageAt lvls n (belowAt p i)) else [])
theorem rangeF_succ (lvls : List (List (List ItR))) (fr tu : List UInt8) (n : Nat) (p : List ItR) : rangeF lvls fr tu (n + 1) p = frameB (n + 1) p ++ behindF lvls fr tu n p p.length := rfl
theorem behind_yes (lvls : List (List (List ItR))) (fr tu : List UInt8) (n : Nat) (p : List ItR) (k : Nat) (h : withB p k fr tu = true) : behindF lvls fr tu n p (k + 1) = behindF lvls fr tu n p k ++ rangeF lvls fr tu n (pageAt lvls n (belowAt p k)) := by
 unfold behindF
 rw [List.range_succ, List.flatMap_append]
 simp [h]
theorem behind_no (lvls : List (List (List ItR))) (fr tu : List UInt8) (n : Nat) (p : List ItR) (k : Nat) (h : withB p k fr tu = false) : behindF lvls fr tu n p (k + 1) = behindF lvls fr tu n p k := by
 unfold behindF
 rw [List.range_succ, List.flatMap_append]
 simp [h]
def RiseK (l : List ItR) : Prop := l.Pairwise (fun x y => Op.bytesLess x.key y.key = true)
structure LvlsOk (lvls : List (List (List ItR))) : Prop where
 len : lvls.length ≤ 7
 cnt : ∀ (n : Nat) (ps : List (List ItR)), lvls[n]? = some ps → ps.length ≤ 61
 ok : ∀ (n : Nat) (ps : List (List ItR)), lvls[n]? = some ps → ∀ p ∈ ps, p.length ≤ 60 ∧ (∀ x ∈ p, ItOk x) ∧ RiseK p
 bel : ∀ (n : Nat) (ps up : List (List ItR)), lvls[n]? = some ps → lvls[n + 1]? = some up → ∀ p ∈ up, ∀ x ∈ p, x.below < ps.length ∧ x.key = lastK (ps[x.below]?.getD [])
theorem partF_flatten (level : Nat) : ∀ (r cur : List ItR), (partF level r cur).flatten = cur ++ r
 | [], cur => by simp [partF]
 | x :: r, cur => by
  unfold partF
  split
  ·rw [List.flatten_cons, partF_flatten level r []]; simp
  ·rw [partF_flatten level r (cur ++ [x])]; simp
theorem next_get (level : Nat) : ∀ (ps : List (List ItR)) (i k : Nat), (nextF level i ps)[k]? = ps[k]?.map (fun p => ⟨lastK p, digB (codeB level p), i + k⟩)
 | [], i, k => by simp [nextF]
 | p :: r, i, 0 => by simp [nextF]
 | p :: r, i, k + 1 => by
  unfold nextF
  rw [List.getElem?_cons_succ, next_get level r (i + 1) k, List.getElem?_cons_succ]
  have : i + 1 + k = i + (k + 1) := by omega
  rw [this]
theorem lastK_mem {p : List ItR} (h : p ≠ []) : ∃ x ∈ p, lastK p = x.key := by
 refine ⟨p.getLast h, List.getLast_mem h, ?_⟩
 unfold lastK
 rw [List.getLast?_eq_some_getLast h]
 rfl
theorem next_rise (level : Nat) : ∀ (ps : List (List ItR)) (i : Nat), ps.Pairwise (fun a b => ∀ x ∈ a, ∀ y ∈ b, Op.bytesLess x.key y.key = true) → (∀ p ∈ ps, p ≠ []) → RiseK (nextF level i ps)
 | [], _, _, _ => List.Pairwise.nil
 | p :: r, i, h, hne => by
  obtain ⟨h1, h2⟩ := List.pairwise_cons.1 h
  refine List.pairwise_cons.2 ⟨?_, next_rise level r (i + 1) h2 (fun q hq => hne q (by simp [hq]))⟩
  intro y hy
  obtain ⟨k, hk⟩ := List.getElem?_of_mem hy
  rw [next_get] at hk
  obtain ⟨q, hq, rfl⟩ := Option.map_eq_some_iff.1 hk
  have hqm := List.mem_of_getElem? hq
  obtain ⟨x, hx, ex⟩ := lastK_mem (hne p (by simp))
  obtain ⟨z, hz, ez⟩ := lastK_mem (hne q (by simp [hqm]))
  show Op.bytesLess (lastK p) (lastK q) = true
  rw [ex, ez]
  exact h1 q hqm x hx z hz
theorem parted_rise (level : Nat) (l : List ItR) (h : RiseK l) : (∀ p ∈ partedN level l, RiseK p) ∧ (partedN level l).Pairwise (fun a b => ∀ x ∈ a, ∀ y ∈ b, Op.bytesLess x.key y.key = true) := by
 have e : (partedN level l).flatten = l := by unfold partedN; rw [partF_flatten]; rfl
 unfold RiseK at h
 rw [← e, List.pairwise_flatten] at h
 exact h
theorem grownF_lv : ∀ (f level : Nat) (l : List ItR), RiseK l → (∀ x ∈ l, ItOk x) → l.length ≤ 60 →
  (∀ (n : Nat) (ps : List (List ItR)), (grownF f level l)[n]? = some ps → ps.length ≤ 61 ∧ ∀ p ∈ ps, p.length ≤ 60 ∧ (∀ x ∈ p, ItOk x) ∧ RiseK p) ∧
  (∀ (n : Nat) (ps up : List (List ItR)), (grownF f level l)[n]? = some ps → (grownF f level l)[n + 1]? = some up → ∀ p ∈ up, ∀ x ∈ p, x.below < ps.length ∧ x.key = lastK (ps[x.below]?.getD []))
 | 0, level, l, _, _, _ => by simp [grownF]
 | f + 1, level, l, hr, hok, h60 => by
  have hpl := partF_length level l []
  have hpart : (partedN level l).length ≤ 61 ∧ ∀ p ∈ partedN level l, p.length ≤ 60 ∧ (∀ x ∈ p, ItOk x) ∧ RiseK p := by
   refine ⟨by unfold partedN; omega, fun p hp => ⟨?_, fun x hx => ?_, (parted_rise level l hr).1 p hp⟩⟩
   ·have := partF_size level l [] p hp; simp at this; omega
   ·rcases partF_mem level l [] p hp x hx with h | h
    ·exact hok x h
    ·cases h
  unfold grownF
  by_cases h1 : (partedN level l).length = 1
  ·rw [if_pos h1]
   refine ⟨fun n ps h => ?_, fun n ps up h h' => ?_⟩
   ·cases n with
    | zero => simp at h; subst h; exact hpart
    | succ n => simp at h
   ·simp at h'
  ·rw [if_neg h1]
   have hne : l ≠ [] := fun e => by subst e; simp [partedN, partF] at h1
   have hpne : ∀ p ∈ partedN level l, p ≠ [] := partF_ne level l [] (Or.inl hne)
   have hb := partF_bound level l [] hne
   have hnl : (nextF level 0 (partedN level l)).length ≤ 60 := by
    have : ∀ (i : Nat) (ps : List (List ItR)), (nextF level i ps).length = ps.length := fun i ps => by
     induction ps generalizing i with
     | nil => rfl
     | cons p r ih => simp [nextF, ih]
    rw [this]; unfold partedN; omega
   have hnok : ∀ x ∈ nextF level 0 (partedN level l), ItOk x ∧ x.below < (partedN level l).length ∧ x.key = lastK ((partedN level l)[x.below]?.getD []) := fun x hx => by
    obtain ⟨k, hk⟩ := List.getElem?_of_mem hx
    rw [next_get] at hk
    obtain ⟨q, hq, rfl⟩ := Option.map_eq_some_iff.1 hk
    have hqm := List.mem_of_getElem? hq
    obtain ⟨z, hz, ez⟩ := lastK_mem (hpne q hqm)
    refine ⟨⟨?_, ?_⟩, ?_, ?_⟩
    ·show (lastK q).length ≤ 12
     rw [ez]
     exact ((hpart.2 q hqm).2.1 z hz).1
    ·show (digB _).length ≤ 12
     rw [digB_length]; omega
    ·show 0 + k < _
     rw [Nat.zero_add]
     exact (List.getElem?_eq_some_iff.1 hq).1
    ·show lastK q = lastK ((partedN level l)[0 + k]?.getD [])
     rw [Nat.zero_add, hq]; rfl
   obtain ⟨i1, i2⟩ := grownF_lv f (level + 1) (nextF level 0 (partedN level l)) (next_rise level _ 0 (parted_rise level l hr).2 hpne) (fun x hx => (hnok x hx).1) hnl
   refine ⟨fun n ps h => ?_, fun n ps up h h' => ?_⟩
   ·cases n with
    | zero => simp at h; subst h; exact hpart
    | succ n => rw [List.getElem?_cons_succ] at h; exact i1 n ps h
   ·cases n with
    | zero =>
     simp only [List.getElem?_cons_zero, Option.some.injEq] at h
     subst h
     rw [List.getElem?_cons_succ] at h'
     cases f with
     | zero => simp [grownF] at h'
     | succ f =>
      have hup : up = partedN (level + 1) (nextF level 0 (partedN level l)) := by
       unfold grownF at h'
       split at h'
       ·simpa using h'.symm
       ·simpa using h'.symm
      intro p hp x hx
      rw [hup] at hp
      rcases partF_mem (level + 1) _ [] p hp x hx with g | g
      ·exact (hnok x g).2
      ·cases g
    | succ n =>
     rw [List.getElem?_cons_succ] at h h'
     exact i2 n ps up h h'
theorem grown_lv (l : List ItR) (hr : RiseK l) (hok : ∀ x ∈ l, ItOk x) (h60 : l.length ≤ 60) : LvlsOk (grownN l) := by
 obtain ⟨h1, h2⟩ := grownF_lv 7 0 l hr hok h60
 exact ⟨(grownF_length 7 0 l (by omega)).2, fun n ps h => (h1 n ps h).1, fun n ps h => (h1 n ps h).2, h2⟩
theorem frameB_length (level : Nat) (l : List ItR) (h : ∀ x ∈ l, ItOk x) (h60 : l.length ≤ 60) : (frameB level l).length ≤ 1600 := by
 have := prefB_length level l.length l h
 unfold prefB at this
 unfold frameB codeB
 simp only [List.length_cons] at this ⊢
 omega
theorem pageAt_ok {lvls : List (List (List ItR))} (h : LvlsOk lvls) (n j : Nat) : (pageAt lvls n j).length ≤ 60 ∧ (∀ x ∈ pageAt lvls n j, ItOk x) ∧ RiseK (pageAt lvls n j) := by
 unfold pageAt
 cases e : lvls[n]? with
 | none => simp [RiseK]
 | some ps =>
  cases e2 : ps[j]? with
  | none => simp [e2, RiseK]
  | some p => simpa [e2] using h.ok n ps e p (List.mem_of_getElem? e2)
theorem flat_bound {α : Type} (f : Nat → List α) (B : Nat) : ∀ (k : Nat), (∀ i, (f i).length ≤ B) → ((List.range k).flatMap f).length ≤ k * B
 | 0, _ => by simp
 | k + 1, h => by
  have ih := flat_bound f B k h
  have := h k
  have e : (List.flatMap f [k]).length = (f k).length := by simp
  rw [List.range_succ, List.flatMap_append, List.length_append, Nat.add_mul, e]
  omega
theorem rangeF_length {lvls : List (List (List ItR))} (h : LvlsOk lvls) (fr tu : List UInt8) : ∀ (n : Nat) (p : List ItR), p.length ≤ 60 → (∀ x ∈ p, ItOk x) → (rangeF lvls fr tu n p).length ≤ 1600 * 61 ^ n
 | 0, p, h60, hok => by
  have := frameB_length 0 p hok h60
  simpa [rangeF] using this
 | n + 1, p, h60, hok => by
  have h1 := frameB_length (n + 1) p hok h60
  have h2 := flat_bound (fun i => if withB p i fr tu = true then rangeF lvls fr tu n (pageAt lvls n (belowAt p i)) else []) (1600 * 61 ^ n) p.length (fun i => by
   split
   ·exact rangeF_length h fr tu n _ (pageAt_ok h n _).1 (pageAt_ok h n _).2.1
   ·simp)
  have h3 : p.length * (1600 * 61 ^ n) ≤ 60 * (1600 * 61 ^ n) := Nat.mul_le_mul_right _ h60
  have h4 : 1600 ≤ 1600 * 61 ^ n := Nat.le_mul_of_pos_right _ (Nat.pow_pos (by omega))
  rw [rangeF, List.length_append, Nat.pow_succ]
  omega
theorem range_small {lvls : List (List (List ItR))} (h : LvlsOk lvls) (fr tu : List UInt8) (n : Nat) (hn : n ≤ 6) (p : List ItR) (h60 : p.length ≤ 60) (hok : ∀ x ∈ p, ItOk x) : (rangeF lvls fr tu n p).length ≤ 100000000000000 := by
 have h1 := rangeF_length h fr tu n p h60 hok
 have h2 : 61 ^ n ≤ 61 ^ 6 := Nat.pow_le_pow_right (by omega) hn
 have h3 : 1600 * 61 ^ n ≤ 1600 * 61 ^ 6 := Nat.mul_le_mul_left _ h2
 have h4 : 1600 * 61 ^ 6 ≤ 100000000000000 := by decide
 omega
theorem with_self {p : List ItR} (hr : RiseK p) (key : List UInt8) (i : Nat) (hi : i < p.length) (hplace : ∀ i (h : i < p.length), lessK key p[i] = decide (i < placeN p key)) : withB p i key key = decide (i = placeN p key) := by
 unfold withB
 rw [keyAt_lt hi]
 have h1 := hplace i hi
 unfold lessK at h1
 rw [h1]
 cases i with
 | zero => by_cases e : 0 = placeN p key <;> simp [e] <;> omega
 | succ j =>
  have h2 := hplace j (by omega)
  unfold lessK at h2
  rw [show j + 1 - 1 = j by omega, keyAt_lt (by omega : j < p.length), h2]
  by_cases e : j + 1 = placeN p key
  ·simp [e]; omega
  ·simp [e]; omega
theorem flat_single {α : Type} (f : Nat → List α) (m : Nat) : ∀ (k : Nat), (∀ i, i < k → i ≠ m → f i = []) → (List.range k).flatMap f = if m < k then f m else []
 | 0, _ => by simp
 | k + 1, h => by
  rw [List.range_succ, List.flatMap_append, flat_single f m k (fun i hi hm => h i (by omega) hm)]
  by_cases e : m = k
  ·subst e; simp
  ·have := h k (by omega) (fun e' => e e'.symm)
   by_cases hlt : m < k
   ·rw [if_pos hlt, if_pos (by omega)]; simp [this]
   ·rw [if_neg hlt, if_neg (by omega)]; simp [this]
end Go.Proofs.Ytekegfbjbainhaa


namespace Go.Proofs.Ytekegfbjbainhaa
open Go.RowKit
set_option maxRecDepth 100000 in
theorem nodeKeyP_any (nb : Nat) (k : SlR) (w : World) (h0 : w.cell? ⟨nb, 0, none⟩ = some k.val) :
  Calls Try.prog 80 #[.pointer (some ⟨nb, 0, none⟩)] w fun e w' => e = .returned k.val ∧ w' = w := by
 unfold SlR.val at *
 go_enter Try.func80, Try.ntmps80
 go_wp2
 go_ret
 exact ⟨rfl, rfl⟩
def selF (p : List ItR) (fr tu : List UInt8) (bl : List Nat) (k : Nat) : List Nat := (List.range k).flatMap (fun i => if withB p i fr tu = true then [bl.getD i 0] else [])
theorem sel_yes (p : List ItR) (fr tu : List UInt8) (bl : List Nat) (k : Nat) (h : withB p k fr tu = true) : selF p fr tu bl (k + 1) = selF p fr tu bl k ++ [bl.getD k 0] := by
 unfold selF
 rw [List.range_succ, List.flatMap_append]
 simp [h]
theorem sel_no (p : List ItR) (fr tu : List UInt8) (bl : List Nat) (k : Nat) (h : withB p k fr tu = false) : selF p fr tu bl (k + 1) = selF p fr tu bl k := by
 unfold selF
 rw [List.range_succ, List.flatMap_append]
 simp [h]
theorem sel_len (p : List ItR) (fr tu : List UInt8) (bl : List Nat) : ∀ (k : Nat), (selF p fr tu bl k).length ≤ k
 | 0 => by simp [selF]
 | k + 1 => by
  have ih := sel_len p fr tu bl k
  cases h : withB p k fr tu
  ·rw [sel_no _ _ _ _ _ h]; omega
  ·rw [sel_yes _ _ _ _ _ h]; simp; omega
theorem with_zero {p : List ItR} {fr tu : List UInt8} {c : Int} (h : 0 < p.length) (hc : Lib.compareBytes p[0].key fr = c) : withB p 0 fr tu = decide (0 ≤ c) := by
 unfold withB
 rw [keyAt_lt h]
 have := cmp_neg p[0].key fr
 rw [hc] at this
 cases e : Op.bytesLess p[0].key fr
 ·have h2 : ¬ c < 0 := fun h => by rw [this.1 h] at e; cases e
  simp; omega
 ·have h2 : c < 0 := this.2 e
  simp; omega
theorem with_succ {p : List ItR} {fr tu : List UInt8} {j : Nat} {c d : Int} (h : j + 1 < p.length) (hd : Lib.compareBytes p[j].key tu = d) (hc : Lib.compareBytes p[j + 1].key fr = c) : withB p (j + 1) fr tu = (decide (d < 0) && decide (0 ≤ c)) := by
 unfold withB
 rw [keyAt_lt h, show j + 1 - 1 = j by omega, keyAt_lt (by omega : j < p.length)]
 have h1 := cmp_neg p[j + 1].key fr
 have h2 := cmp_neg p[j].key tu
 rw [hc] at h1
 rw [hd] at h2
 have e1 : Op.bytesLess p[j + 1].key fr = decide (c < 0) := by
  rw [Bool.eq_iff_iff]; simp [h1]
 have e2 : Op.bytesLess p[j].key tu = decide (d < 0) := by
  rw [Bool.eq_iff_iff]; simp [h2]
 rw [e1, e2]
 by_cases g1 : c < 0 <;> by_cases g2 : d < 0 <;> simp [g1, g2] <;> omega
set_option maxRecDepth 100000 in
set_option maxHeartbeats 2000000 in
theorem withinN_any (a : Option Addr) (n cap : Nat) (bl : List Nat) (its : List ItR) (sf st : SlR) (fr tu : List UInt8) (w : World) (hn : n = its.length) (hl : its.length = bl.length) (h200 : its.length ≤ 200) (hs : SlV w a (bl.map ptrV)) (hen : ∀ i (h1 : i < bl.length) (h2 : i < its.length), ∃ la : SlR, w.cell? ⟨bl[i], 0, none⟩ = some la.val ∧ bl[i] < w.heap.size ∧ BS w la its[i].key) (hF : BS w sf fr) (hT : BS w st tu) :
  Calls Try.prog 79 #[.slice a n cap, .func (.func 80) #[] #[], sf.val, st.val] w fun e w' => ∃ o : SlR, e = .returned o.val ∧ w'.ownsRow w.heap.size 96 1 o.val (selF its fr tu bl n).length ((selF its fr tu bl n).map ptrV) ∧ Below w.heap.size w w' := by
 have HQ : Hid (∀ (wr : World), Below w.heap.size w wr → ∀ k (hk : k < n) (hk2 : k < its.length), ∃ b o p, a = some ⟨b, o, none⟩ ∧ bl.getD k 0 = p ∧ wr.cell? ⟨b, o + k, none⟩ = some (.pointer (some ⟨p, 0, none⟩)) ∧
   ∃ sk : SlR, (Calls Try.prog 80 #[.pointer (some ⟨p, 0, none⟩)] wr fun e w' => e = .returned sk.val ∧ w' = wr) ∧ BS wr sk its[k].key) := fun wr hB k hk hk2 => by
  obtain ⟨b, o, ha, hb, hc⟩ := SlV.ptr hs k (by omega)
  obtain ⟨la, hla, hlt, hbs⟩ := hen k (by omega) hk2
  refine ⟨b, o, bl[k]'(by omega), ha, by simp [List.getD_eq_getElem?_getD, show k < bl.length by omega], ?_, la, ?_, hbs.below hB⟩
  ·rw [hB.cell (p := ⟨b, o + k, none⟩) hb]; exact hc
  ·refine nodeKeyP_any _ la wr ?_
   rw [hB.cell (p := ⟨bl[k]'(by omega), 0, none⟩) hlt]; exact hla
 have HCF : Hid (∀ (wr : World), Below w.heap.size w wr → ∀ (sk : SlR) (l : List UInt8), BS wr sk l → Calls Try.prog 44 #[sk.val, sf.val] wr fun e w' => e = .returned (.int .i64 (Lib.compareBytes l fr)) ∧ w' = wr) := fun wr hB sk l h => compare_any sk sf l fr wr h (hF.below hB)
 have HCT : Hid (∀ (wr : World), Below w.heap.size w wr → ∀ (sk : SlR) (l : List UInt8), BS wr sk l → Calls Try.prog 44 #[sk.val, st.val] wr fun e w' => e = .returned (.int .i64 (Lib.compareBytes l tu)) ∧ w' = wr) := fun wr hB sk l h => compare_any sk st l tu wr h (hT.below hB)
 have HN : Hid (n = its.length) := hn
 have hn2 : n ≤ 200 := by omega
 have hnI : (n : Int) ≤ 200 := by omega
 have H1 : Hid (∀ p : Nat, ∀ u ∈ [Value.pointer (some ⟨p, 0, none⟩)], u.oneCell' = true) := fun p u hu => by simp at hu; subst hu; rfl
 clear hs hen hn hl h200 hF hT
 unfold SlR.val at HCF HCT ⊢
 go_enter Try.func79, Try.ntmps79
 go_wp2
 go_loopw [9, 10, 11, 12, 15] (fun ov _ _ _ ix wr => ∃ (k : Nat) (o : SlR), k ≤ n ∧ ix = .int .i64 k ∧ ov = o.val ∧ Hid (wr.ownsRow w.heap.size 96 1 o.val (selF its fr tu bl k).length ((selF its fr tu bl k).map ptrV)) ∧ Below w.heap.size w wr) (fun _ _ _ _ ix _ => n - (intOf ix).toNat)
 case atStart => exact ⟨0, ⟨none, 0, 0⟩, by omega, by simp, rfl, World.ownsRow_nil _ _ _ _, Below.refl _ _⟩
 case round =>
  obtain ⟨k, o9, hk, rfl, rfl, HO, hB⟩ := hrel
  by_cases hlt : k < n
  ·have hltI : (k : Int) < n := by omega
   have hkl : k < its.length := by have := HN.out; omega
   obtain ⟨b, o, p, rfl, hpg, hc, sk, hkey, hbs⟩ := HQ.out wr hB k hlt hkl
   have HK1 : Hid (Calls _ _ _ _ _) := hkey
   have HK2 : Hid (Calls _ _ _ _ _) := HCF.out wr hB sk _ hbs
   have HBD := cmp_bd its[k].key fr
   have HOX : Hid ((wr.alloc (.cells #[.pointer (some ⟨p, 0, none⟩)] 96)).ownsRow w.heap.size 96 1 (.slice o9.a o9.n o9.cap) (selF its fr tu bl k).length ((selF its fr tu bl k).map ptrV)) := HO.out.alloc _
   have HBX : Hid (Below w.heap.size w (wr.alloc (.cells #[.pointer (some ⟨p, 0, none⟩)] 96))) := hB.alloc hB.size _
   have HSL : Hid ((selF its fr tu bl k).length ≤ 200) := by have := sel_len its fr tu bl k; unfold Hid; omega
   have HPG : Hid (bl.getD k 0 = p) := hpg
   clear hkey hbs hpg
   unfold SlR.val at HK1 HK2 ⊢
   cases k with
   | zero =>
    rw [Nat.add_zero] at hc
    have HW0 := fun c hcm => with_zero (fr := fr) (tu := tu) (c := c) hkl hcm
    generalize hcm : Lib.compareBytes its[0].key fr = c at *
    have HW1 := HW0 c rfl
    clear HW0
    by_cases hc0 : 0 ≤ c
    ·have HW : Hid (withB its 0 fr tu = true) := by unfold Hid; rw [HW1]; simp [hc0]
     clear HW1 hcm
     go_wp2_with (first
      | (go_at_call_of 80 (Value.pointer (some ⟨p, 0, none⟩)); refine HK1.out.mono ?_; rintro e w4 ⟨rfl, hw4⟩; obtain rfl : wr = w4 := hw4.symm; clear hw4)
      | (go_at_call_of 44 (Value.slice sk.a sk.n sk.cap); refine HK2.out.mono ?_; rintro e w5 ⟨rfl, hw5⟩; obtain rfl : wr = w5 := hw5.symm; clear hw5)
      | (at_builtin; refine wp_appendV (by rfl) (.tmp 43) (.tmp 45) 87 (by rfl) w.heap.size 96 _ 1 8 Try.underlying87 Try.infoNodeP rfl (by decide) (.slice o9.a o9.n o9.cap) (selF its fr tu bl 0).length ((selF its fr tu bl 0).map ptrV) (by rfl) HOX.out (some ⟨wr.heap.size, 0, none⟩) 1 1 [.pointer (some ⟨p, 0, none⟩)] (by rfl) rfl (SlV.alloc_new wr _ _) (fun h => by cases h) (H1.out p) (by have := HSL.out; unfold maxLen; omega) (by have := HSL.out; omega) HBX.out.size ?_; intro v3 w3 ho3 hf3 hat3; obtain ⟨a3, c3, hv3, _⟩ := owns_form ho3; subst hv3))
     refine ⟨⟨0 + 1, ⟨a3, _, c3⟩, by omega, by go_num, rfl, ?_, HBX.out.trans (hf3.below HBX.out.size (fun q hq => (HOX.out.lt q hq).1))⟩, by simp [intOf]; omega⟩
     unfold Hid; rw [sel_yes _ _ _ _ _ HW.out, List.length_append, List.map_append, HPG.out]; exact ho3
    ·have HW : Hid (withB its 0 fr tu = false) := by unfold Hid; rw [HW1]; simp [hc0]
     clear HW1 hcm
     go_wp2_with (first
      | (go_at_call_of 80 (Value.pointer (some ⟨p, 0, none⟩)); refine HK1.out.mono ?_; rintro e w4 ⟨rfl, hw4⟩; obtain rfl : wr = w4 := hw4.symm; clear hw4)
      | (go_at_call_of 44 (Value.slice sk.a sk.n sk.cap); refine HK2.out.mono ?_; rintro e w5 ⟨rfl, hw5⟩; obtain rfl : wr = w5 := hw5.symm; clear hw5))
     refine ⟨⟨0 + 1, o9, by omega, by go_num, rfl, ?_, hB⟩, by simp [intOf]; omega⟩
     unfold Hid; rw [sel_no _ _ _ _ _ HW.out]; exact HO.out
   | succ j =>
    have hjl : j < its.length := by omega
    obtain ⟨b', o', p', hb', hpg', hc', sk', hkey', hbs'⟩ := HQ.out wr hB j (by omega) hjl
    cases hb'
    have HJ1 : Hid (Calls _ _ _ _ _) := hkey'
    have HJ2 : Hid (Calls _ _ _ _ _) := HCT.out wr hB sk' _ hbs'
    have HBD' := cmp_bd its[j].key tu
    have hj0 : ((j : Int) + 1 == 0) = false := by simp; omega
    have hjI : (j : Int) + 1 - 1 = j := by omega
    have hjJ : (j : Int) < n := by omega
    clear hkey' hbs' hpg'
    unfold SlR.val at HJ1 HJ2
    have HW0 := fun c d hcm hdm => with_succ (fr := fr) (tu := tu) (c := c) (d := d) hkl hdm hcm
    generalize hcm : Lib.compareBytes its[j + 1].key fr = c at *
    generalize hdm : Lib.compareBytes its[j].key tu = d at *
    have HW1 := HW0 c d rfl rfl
    clear HW0
    clear HQ HCF HCT
    have hltI' : (j : Int) + 1 < n := by omega
    by_cases hd0 : d < 0
    ·by_cases hc0 : 0 ≤ c
     ·have HW : Hid (withB its (j + 1) fr tu = true) := by unfold Hid; rw [HW1]; simp [hc0, hd0]
      clear HW1 hcm hdm
      go_wp2_with (first
       | (go_at_call_of 80 (Value.pointer (some ⟨p', 0, none⟩)); refine HJ1.out.mono ?_; rintro e w4 ⟨rfl, hw4⟩; obtain rfl : wr = w4 := hw4.symm; clear hw4)
       | (go_at_call_of 44 (Value.slice sk'.a sk'.n sk'.cap); refine HJ2.out.mono ?_; rintro e w5 ⟨rfl, hw5⟩; obtain rfl : wr = w5 := hw5.symm; clear hw5)
       | (go_at_call_of 80 (Value.pointer (some ⟨p, 0, none⟩)); refine HK1.out.mono ?_; rintro e w4 ⟨rfl, hw4⟩; obtain rfl : wr = w4 := hw4.symm; clear hw4)
       | (go_at_call_of 44 (Value.slice sk.a sk.n sk.cap); refine HK2.out.mono ?_; rintro e w5 ⟨rfl, hw5⟩; obtain rfl : wr = w5 := hw5.symm; clear hw5)
       | (at_builtin; refine wp_appendV (by rfl) (.tmp 43) (.tmp 45) 87 (by rfl) w.heap.size 96 _ 1 8 Try.underlying87 Try.infoNodeP rfl (by decide) (.slice o9.a o9.n o9.cap) (selF its fr tu bl (j + 1)).length ((selF its fr tu bl (j + 1)).map ptrV) (by rfl) HOX.out (some ⟨wr.heap.size, 0, none⟩) 1 1 [.pointer (some ⟨p, 0, none⟩)] (by rfl) rfl (SlV.alloc_new wr _ _) (fun h => by cases h) (H1.out p) (by have := HSL.out; unfold maxLen; omega) (by have := HSL.out; omega) HBX.out.size ?_; intro v3 w3 ho3 hf3 hat3; obtain ⟨a3, c3, hv3, _⟩ := owns_form ho3; subst hv3))
      refine ⟨⟨j + 1 + 1, ⟨a3, _, c3⟩, by omega, by go_num, rfl, ?_, HBX.out.trans (hf3.below HBX.out.size (fun q hq => (HOX.out.lt q hq).1))⟩, by simp [intOf]; omega⟩
      unfold Hid; rw [sel_yes _ _ _ _ _ HW.out, List.length_append, List.map_append, HPG.out]; exact ho3
     ·have HW : Hid (withB its (j + 1) fr tu = false) := by unfold Hid; rw [HW1]; simp [hc0]
      clear HW1 hcm hdm
      go_wp2_with (first
       | (go_at_call_of 80 (Value.pointer (some ⟨p', 0, none⟩)); refine HJ1.out.mono ?_; rintro e w4 ⟨rfl, hw4⟩; obtain rfl : wr = w4 := hw4.symm; clear hw4)
       | (go_at_call_of 44 (Value.slice sk'.a sk'.n sk'.cap); refine HJ2.out.mono ?_; rintro e w5 ⟨rfl, hw5⟩; obtain rfl : wr = w5 := hw5.symm; clear hw5)
       | (go_at_call_of 80 (Value.pointer (some ⟨p, 0, none⟩)); refine HK1.out.mono ?_; rintro e w4 ⟨rfl, hw4⟩; obtain rfl : wr = w4 := hw4.symm; clear hw4)
       | (go_at_call_of 44 (Value.slice sk.a sk.n sk.cap); refine HK2.out.mono ?_; rintro e w5 ⟨rfl, hw5⟩; obtain rfl : wr = w5 := hw5.symm; clear hw5))
      refine ⟨⟨j + 1 + 1, o9, by omega, by go_num, rfl, ?_, hB⟩, by simp [intOf]; omega⟩
      unfold Hid; rw [sel_no _ _ _ _ _ HW.out]; exact HO.out
    ·have HW : Hid (withB its (j + 1) fr tu = false) := by unfold Hid; rw [HW1]; simp [hd0]
     clear HW1 hcm hdm
     go_wp2_with (first
      | (go_at_call_of 80 (Value.pointer (some ⟨p', 0, none⟩)); refine HJ1.out.mono ?_; rintro e w4 ⟨rfl, hw4⟩; obtain rfl : wr = w4 := hw4.symm; clear hw4)
      | (go_at_call_of 44 (Value.slice sk'.a sk'.n sk'.cap); refine HJ2.out.mono ?_; rintro e w5 ⟨rfl, hw5⟩; obtain rfl : wr = w5 := hw5.symm; clear hw5))
     refine ⟨⟨j + 1 + 1, o9, by omega, by go_num, rfl, ?_, hB⟩, by simp [intOf]; omega⟩
     unfold Hid; rw [sel_no _ _ _ _ _ HW.out]; exact HO.out
  ·obtain rfl : k = n := by omega
   unfold SlR.val
   go_wp2
   go_ret
   exact ⟨o9, rfl, HO.out, hB⟩
end Go.Proofs.Ytekegfbjbainhaa


namespace Go.Proofs.Ytekegfbjbainhaa
open Go.RowKit
theorem TreeRep.node {lvls : List (List (List ItR))} {L : List (List Nd)} (h : TreeRep lvls L) {n j : Nat} {nds : List Nd} {x : Nd} (h1 : L[n]? = some nds) (h2 : nds[j]? = some x) : x.level = n ∧ x.its = normL (pageAt lvls n j) ∧ ∃ ps, lvls[n]? = some ps ∧ ps[j]? = some (pageAt lvls n j) ∧ nds.length = ps.length := by
 have e := congrArg (fun l => l[n]?) h.its
 simp only [List.getElem?_map, h1, Option.map_some] at e
 cases hp : lvls[n]? with
 | none => rw [hp] at e; cases e
 | some ps =>
  rw [hp] at e
  simp only [Option.map_some, Option.some.injEq] at e
  have hl : nds.length = ps.length := by simpa using congrArg List.length e
  have hj := (List.getElem?_eq_some_iff.1 h2).1
  have e2 := congrArg (fun l => l[j]?) e
  simp only [List.getElem?_map, h2, Option.map_some, List.getElem?_eq_getElem (by omega : j < ps.length), Option.some.injEq] at e2
  have hpa : pageAt lvls n j = ps[j]'(by omega) := by
   unfold pageAt
   rw [hp]
   simp [show j < ps.length by omega]
  exact ⟨h.lev n nds h1 x (List.mem_of_getElem? h2), by rw [hpa]; exact e2, ps, rfl, by rw [hpa]; exact List.getElem?_eq_getElem (by omega), hl⟩
theorem TreeRep.low' {lvls : List (List (List ItR))} {L : List (List Nd)} (h : TreeRep lvls L) {j : Nat} {nds : List Nd} {x : Nd} (h1 : L[0]? = some nds) (h2 : nds[j]? = some x) : x.bl = [] := h.low nds h1 x (List.mem_of_getElem? h2)
theorem TreeRep.down {lvls : List (List (List ItR))} {L : List (List Nd)} (h : TreeRep lvls L) (hL : LvlsOk lvls) {n j : Nat} {nds : List Nd} {x : Nd} (h1 : L[n + 1]? = some nds) (h2 : nds[j]? = some x) :
  x.bl.length = (pageAt lvls (n + 1) j).length ∧ ∀ i (hi : i < (pageAt lvls (n + 1) j).length), ∃ (nds' : List Nd) (y : Nd), L[n]? = some nds' ∧ nds'[belowAt (pageAt lvls (n + 1) j) i]? = some y ∧ x.bl[i]? = some y.b ∧ lastK y.its = (pageAt lvls (n + 1) j)[i].key := by
 obtain ⟨_, _, ps, hp, hpj, hlen⟩ := h.node h1 h2
 have hn : n < L.length := by have := (List.getElem?_eq_some_iff.1 h1).1; omega
 have e1 : L[n]? = some L[n] := List.getElem?_eq_getElem hn
 have hb := h.bel n L[n] nds ps e1 h1 hp
 have hbj := congrArg (fun l => l[j]?) hb
 simp only [List.getElem?_map, h2, hpj, Option.map_some, Option.some.injEq] at hbj
 refine ⟨by rw [hbj, List.length_map], fun i hi => ?_⟩
 have hmem := List.mem_of_getElem? hpj
 have hq : lvls[n]? = some (lvls[n]'(by have := (List.getElem?_eq_some_iff.1 hp).1; omega)) := List.getElem?_eq_getElem _
 obtain ⟨hlt, hkey⟩ := hL.bel n _ ps hq hp _ hmem _ (List.getElem_mem hi)
 have hbel : belowAt (pageAt lvls (n + 1) j) i = (pageAt lvls (n + 1) j)[i].below := by unfold belowAt; rw [List.getElem?_eq_getElem hi]; rfl
 have hL0 : L[n].length = (lvls[n]'(by have := (List.getElem?_eq_some_iff.1 hp).1; omega)).length := by
  have e := congrArg (fun l => l[n]?) h.its
  simp only [List.getElem?_map, e1, hq, Option.map_some, Option.some.injEq] at e
  simpa using congrArg List.length e
 have hy : L[n][(pageAt lvls (n + 1) j)[i].below]? = some (L[n][(pageAt lvls (n + 1) j)[i].below]'(by rw [hL0]; exact hlt)) := List.getElem?_eq_getElem _
 refine ⟨L[n], L[n][(pageAt lvls (n + 1) j)[i].below]'(by rw [hL0]; exact hlt), e1, by rw [hbel]; exact hy, ?_, ?_⟩
 ·rw [hbj, List.getElem?_map, List.getElem?_eq_getElem hi]
  simp only [Option.map_some]
  rw [hy]; rfl
 ·obtain ⟨_, g2, ps', gp, gpj, _⟩ := h.node e1 hy
  rw [g2, lastK_norm, hkey]
  rw [hq] at gp
  cases gp
  rw [gpj]; rfl
def selI (p : List ItR) (fr tu : List UInt8) (k : Nat) : List Nat := (List.range k).filter (fun i => withB p i fr tu)
theorem flat_if {α : Type} (q : Nat → Bool) (f : Nat → List α) : ∀ (l : List Nat), l.flatMap (fun i => if q i = true then f i else []) = (l.filter q).flatMap f
 | [] => rfl
 | x :: l => by
  rw [List.flatMap_cons, flat_if q f l, List.filter_cons]
  cases h : q x <;> simp
theorem sel_places (p : List ItR) (fr tu : List UInt8) (bl : List Nat) (k : Nat) : selF p fr tu bl k = (selI p fr tu k).map (fun i => bl.getD i 0) := by
 unfold selF selI
 rw [flat_if (fun i => withB p i fr tu) (fun i => [bl.getD i 0])]
 generalize (List.range k).filter (fun i => withB p i fr tu) = l
 induction l with
 | nil => rfl
 | cons x l ih => rw [List.flatMap_cons, ih]; rfl
theorem behind_places (lvls : List (List (List ItR))) (fr tu : List UInt8) (n : Nat) (p : List ItR) (k : Nat) : behindF lvls fr tu n p k = (selI p fr tu k).flatMap (fun i => rangeF lvls fr tu n (pageAt lvls n (belowAt p i))) := flat_if (fun i => withB p i fr tu) _ _
theorem selI_lt {p : List ItR} {fr tu : List UInt8} {k i : Nat} (h : i ∈ selI p fr tu k) : i < k := by
 unfold selI at h
 simpa using (List.mem_filter.1 h).1
end Go.Proofs.Ytekegfbjbainhaa
