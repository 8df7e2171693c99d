import Derived.Test.YtekegfbjbainhaaKJoin14
import Derived.Deep.CutBlock
set_option linter.unusedVariables false
set_option linter.unusedSimpArgs false

namespace Go.Proofs.Ytekegfbjbainhaa
open Go.RowKit
def bare (p : List ItR) : List ItR := p.map (fun x => ⟨x.key, x.more, 0⟩)
theorem bare_append (p q : List ItR) : bare (p ++ q) = bare p ++ bare q := by simp [bare]
theorem bare_length (p : List ItR) : (bare p).length = p.length := by simp [bare]
structure PgW (lv : Nat) (p : List ItR) : Prop where
 le6 : lv ≤ 6
 len : p.length ≤ 60
 ne : lv = 0 ∨ p ≠ []
 rise : RiseK p
 key : ∀ x ∈ p, 1 ≤ x.key.length ∧ x.key.length ≤ 12
 low : lv = 0 → ∀ x ∈ p, x.more.length ≤ 12
 high : lv ≠ 0 → ∀ x ∈ p, x.more.length = 8
theorem bt_toNat {n : Nat} (h : n < 256) : (bt n).toNat = n := by
 unfold bt
 rw [UInt8.toNat_ofNat']
 omega
theorem oneV_cons (x : UInt8) (l : List UInt8) : oneV (some (x :: l)) = x.toNat := rfl
theorem takeR_one (x : UInt8) (l : List UInt8) : takeR 1 (some (x :: l)) = some l := by simp [takeR]
theorem takeR_app (a l : List UInt8) {n : Nat} (h : n = a.length) : takeR n (some (a ++ l)) = some l := by subst h; simp [takeR]
theorem takeB_app (a l : List UInt8) {n : Nat} (h : n = a.length) : takeB n (some (a ++ l)) = a := by subst h; simp [takeB]
theorem ent_read (lv : Nat) (x : ItR) (l : List UInt8) (hk : x.key.length ≤ 12) (h0 : lv = 0 → x.more.length ≤ 12) (h8 : lv ≠ 0 → x.more.length = 8) :
  oneV (some (itB lv x ++ l)) = x.key.length ∧ entK (some (itB lv x ++ l)) = x.key ∧ entM lv (some (itB lv x ++ l)) = x.more ∧ entR lv (some (itB lv x ++ l)) = some l ∧ (lv = 0 → oneV (entO (some (itB lv x ++ l))) = x.more.length) := by
 have e : itB lv x ++ l = bt x.key.length :: (x.key ++ (((if lv = 0 then [bt x.more.length] else []) ++ x.more) ++ l)) := by
  unfold itB; simp
 have h1 : oneV (some (itB lv x ++ l)) = x.key.length := by rw [e, oneV_cons, bt_toNat (by omega)]
 have h2 : takeR 1 (some (itB lv x ++ l)) = some (x.key ++ (((if lv = 0 then [bt x.more.length] else []) ++ x.more) ++ l)) := by rw [e, takeR_one]
 have h3 : entO (some (itB lv x ++ l)) = some (((if lv = 0 then [bt x.more.length] else []) ++ x.more) ++ l) := by
  unfold entO; rw [h1, h2, takeR_app _ _ rfl]
 refine ⟨h1, by unfold entK; rw [h1, h2, takeB_app _ _ rfl], ?_, ?_, ?_⟩
 ·unfold entM
  rw [h3]
  by_cases hz : lv = 0
  ·have := h0 hz
   simp only [hz, if_true, List.cons_append, List.nil_append]
   rw [oneV_cons, takeR_one, bt_toNat (by omega), takeB_app _ _ rfl]
  ·simp only [hz, if_false, List.nil_append]
   rw [takeB_app _ _ (h8 hz).symm]
 ·unfold entR
  rw [h3]
  by_cases hz : lv = 0
  ·have := h0 hz
   simp only [hz, if_true, List.cons_append, List.nil_append]
   rw [oneV_cons, takeR_one, bt_toNat (by omega), takeR_app _ _ rfl]
  ·simp only [hz, if_false, List.nil_append]
   rw [takeR_app _ _ (h8 hz).symm]
 ·intro hz
  have := h0 hz
  rw [h3]
  simp only [hz, if_true, List.cons_append, List.nil_append]
  rw [oneV_cons, bt_toNat (by omega)]
theorem behind_bare {acc q : List ItR} {x : ItR} (h : RiseK (acc ++ x :: q)) : behindK (bare acc) x.key = true := by
 unfold behindK
 cases hl : (bare acc).getLast? with
 | none => rfl
 | some y =>
  have hm := List.mem_of_getLast? hl
  obtain ⟨z, hz, rfl⟩ := List.mem_map.1 hm
  exact (List.pairwise_append.1 h).2.2 z hz x (by simp)
theorem items_read (lv : Nat) : ∀ (q acc : List ItR), RiseK (acc ++ q) → (∀ x ∈ q, 1 ≤ x.key.length ∧ x.key.length ≤ 12) → (lv = 0 → ∀ x ∈ q, x.more.length ≤ 12) → (lv ≠ 0 → ∀ x ∈ q, x.more.length = 8) →
  itemsO lv q.length (bare acc) (some (q.flatMap (itB lv))) = some (bare (acc ++ q))
 | [], acc, _, _, _, _ => by simp [itemsO]
 | x :: q, acc, hr, hk, h0, h8 => by
  obtain ⟨e1, e2, e3, e4, e5⟩ := ent_read lv x (q.flatMap (itB lv)) (hk x (by simp)).2 (fun e => h0 e x (by simp)) (fun e => h8 e x (by simp))
  rw [List.flatMap_cons, List.length_cons]
  unfold itemsO
  have hf : entFine lv (bare acc) (some (itB lv x ++ q.flatMap (itB lv))) = true := by
   unfold entFine
   rw [e1, e2, behind_bare hr]
   have h1 := hk x (by simp)
   by_cases hz : lv = 0
   ·have := h0 hz x (by simp)
    rw [e5 hz]
    simp [hz]; omega
   ·have : (lv == 0) = false := by simpa using hz
    simp [this]; omega
  rw [if_pos hf, e2, e3, e4]
  have := items_read lv q (acc ++ [x]) (by simpa using hr) (fun y hy => hk y (by simp [hy])) (fun e y hy => h0 e y (by simp [hy])) (fun e y hy => h8 e y (by simp [hy]))
  rw [bare_append] at this
  simpa [bare] using this
theorem page_read {lv : Nat} {p : List ItR} (h : PgW lv p) : pageF (codeB lv p) = some (lv, bare p) := by
 have h6 := h.le6
 have hl := h.len
 unfold pageF codeB
 have e1 : oneV (some (bt lv :: bt p.length :: p.flatMap (itB lv))) = lv := by rw [oneV_cons, bt_toNat (by omega)]
 have e2 : takeR 1 (some (bt lv :: bt p.length :: p.flatMap (itB lv))) = some (bt p.length :: p.flatMap (itB lv)) := takeR_one _ _
 have e3 : oneV (some (bt p.length :: p.flatMap (itB lv))) = p.length := by rw [oneV_cons, bt_toNat (by omega)]
 rw [e1, e2, e3, takeR_one, if_pos ⟨h6, hl, h.ne.imp id (fun e => by have := List.length_pos_iff.2 e; omega)⟩]
 have := items_read lv p [] (by simpa using h.rise) h.key h.low h.high
 rw [show (bare []) = [] from rfl] at this
 rw [this]
 rfl
theorem code_len {lv : Nat} {p : List ItR} (h : PgW lv p) : (codeB lv p).length ≤ 1602 := by
 unfold codeB
 have : ∀ q : List ItR, (∀ x ∈ q, x ∈ p) → (q.flatMap (itB lv)).length ≤ 26 * q.length := fun q hq => by
  induction q with
  | nil => simp
  | cons x q ih =>
   have h1 : ItOk x := by
    refine ⟨(h.key x (hq x (by simp))).2, ?_⟩
    by_cases hz : lv = 0
    ·exact h.low hz x (hq x (by simp))
    ·rw [h.high hz x (hq x (by simp))]; omega
   have h2 := itB_length lv x h1
   have h3 := ih (fun y hy => hq y (by simp [hy]))
   rw [List.flatMap_cons, List.length_append, List.length_cons]
   omega
 have h1 := this p (fun x hx => hx)
 have h2 := h.len
 simp; simp at h1; omega
theorem frame_read {lv : Nat} {p : List ItR} (h : PgW lv p) (r : List UInt8) : pgO (some (frameB lv p ++ r)) (digB (codeB lv p)) = some ((lv, bare p), r) := by
 have hl := code_len h
 have e : frameB lv p ++ r = bt ((codeB lv p).length / 256) :: bt ((codeB lv p).length % 256) :: (codeB lv p ++ r) := by unfold frameB; simp
 have en : pgN (some (frameB lv p ++ r)) = (codeB lv p).length := by
  unfold pgN
  rw [e, takeR_one, oneV_cons, oneV_cons, bt_toNat (by omega), bt_toNat (by omega)]
  omega
 have er : takeR 1 (takeR 1 (some (frameB lv p ++ r))) = some (codeB lv p ++ r) := by rw [e, takeR_one, takeR_one]
 have eb : pgB (some (frameB lv p ++ r)) = codeB lv p := by unfold pgB; rw [en, er, takeB_app _ _ rfl]
 unfold pgO
 rw [en, er, takeR_app _ _ rfl, eb, page_read h]
 simp
end Go.Proofs.Ytekegfbjbainhaa


namespace Go.Proofs.Ytekegfbjbainhaa
open Go.RowKit
def cov (G : List (List (List ItR))) : Nat → List ItR → List ItR
 | 0, p => p
 | n + 1, p => p.flatMap (fun x => cov G n (pageAt G n x.below))
theorem part_six (r : List ItR) : ∀ cur : List ItR, partF 6 r cur = [cur ++ r] := by
 induction r with
 | nil => intro cur; simp [partF]
 | cons x r ih =>
  intro cur
  unfold partF
  have : endB 6 x.key = false := by unfold endB; simp
  rw [this]
  simp [ih]
theorem nextF_below (level : Nat) : ∀ (ps : List (List ItR)) (i : Nat), (nextF level i ps).map (·.below) = List.range' i ps.length
 | [], _ => rfl
 | p :: r, i => by simp [nextF, nextF_below level r (i + 1), List.range'_succ]
theorem below_range : ∀ (f level : Nat) (l : List ItR) (n : Nat) (ps up : List (List ItR)), (grownF f level l)[n]? = some ps → (grownF f level l)[n + 1]? = some up → up.flatten.map (·.below) = List.range ps.length
 | 0, level, l, n, ps, up, h, _ => by simp [grownF] at h
 | f + 1, level, l, n, ps, up, h, h' => by
  unfold grownF at h h'
  by_cases h1 : (partedN level l).length = 1
  ·rw [if_pos h1] at h'
   simp at h'
  ·rw [if_neg h1] at h h'
   cases n with
   | zero =>
    simp only [List.getElem?_cons_zero, Option.some.injEq, List.getElem?_cons_succ] at h h'
    subst h
    cases f with
    | zero => simp [grownF] at h'
    | succ f =>
     have hup : up = partedN (level + 1) (nextF level 0 (partedN level l)) := by
      unfold grownF at h'
      split at h' <;> simpa using h'.symm
     rw [hup]
     unfold partedN
     rw [partF_flatten]
     simp only [List.nil_append]
     rw [nextF_below, List.range_eq_range']
   | succ n =>
    simp only [List.getElem?_cons_succ] at h h'
    exact below_range f (level + 1) _ n ps up h h'
theorem flat_range {α β : Type} (ps : List α) (g : α → List β) (d : α) : (List.range ps.length).flatMap (fun i => g (ps[i]?.getD d)) = ps.flatMap g := by
 have : (List.range ps.length).map (fun i => ps[i]?.getD d) = ps := by
  apply List.ext_getElem
  ·simp
  ·intro i h1 h2
   simp at h1
   simp [h1]
 have e := congrArg (List.flatMap g) this
 rw [List.flatMap_map] at e
 exact e
theorem flat_flat {α β : Type} (g : α → List β) (up : List (List α)) : up.flatMap (fun p => p.flatMap g) = up.flatten.flatMap g := by
 induction up with
 | nil => rfl
 | cons p r ih => rw [List.flatMap_cons, List.flatten_cons, List.flatMap_append, ih]
theorem cov_level (f level : Nat) (l : List ItR) : ∀ (n : Nat) (ps : List (List ItR)), (grownF f level l)[n]? = some ps → ps.flatMap (cov (grownF f level l) n) = l
 | 0, ps, h => by
  cases f with
  | zero => simp [grownF] at h
  | succ f =>
   have hps : ps = partedN level l := by
    unfold grownF at h
    split at h <;> simpa using h.symm
   show ps.flatMap (fun p => p) = l
   rw [hps]
   have : (partedN level l).flatten = l := by unfold partedN; rw [partF_flatten]; rfl
   simpa [List.flatMap_def] using this
 | n + 1, up, h => by
  obtain ⟨ps, hps⟩ : ∃ ps, (grownF f level l)[n]? = some ps := by
   have hl := (List.getElem?_eq_some_iff.1 h).1
   exact ⟨_, List.getElem?_eq_getElem (by omega)⟩
  have ih := cov_level f level l n ps hps
  have hb := below_range f level l n ps up hps h
  have e1 : up.flatMap (cov (grownF f level l) (n + 1)) = (up.flatten.map (·.below)).flatMap (fun i => cov (grownF f level l) n (pageAt (grownF f level l) n i)) := by
   rw [List.flatMap_map, ← flat_flat]
   rfl
  rw [e1, hb]
  have e2 : (fun i => cov (grownF f level l) n (pageAt (grownF f level l) n i)) = fun i => cov (grownF f level l) n (ps[i]?.getD []) := by
   funext i
   unfold pageAt
   rw [hps]
   rfl
  rw [e2, flat_range ps (cov (grownF f level l) n) []]
  exact ih
theorem last_one : ∀ (f level : Nat) (l : List ItR), level + (f + 1) = 7 → ∃ p, (grownF (f + 1) level l)[(grownF (f + 1) level l).length - 1]? = some [p]
 | f, level, l, h => by
  unfold grownF
  by_cases h1 : (partedN level l).length = 1
  ·rw [if_pos h1]
   obtain ⟨p, hp⟩ := List.length_eq_one_iff.1 h1
   exact ⟨p, by simp [hp]⟩
  ·rw [if_neg h1]
   cases f with
   | zero =>
    have : level = 6 := by omega
    subst this
    unfold partedN at h1
    rw [part_six] at h1
    simp at h1
   | succ f =>
    obtain ⟨p, hp⟩ := last_one f (level + 1) (nextF level 0 (partedN level l)) (by omega)
    have hl := (grownF_length (f + 1) (level + 1) (nextF level 0 (partedN level l)) (by omega)).1
    refine ⟨p, ?_⟩
    rw [List.length_cons, Nat.add_sub_cancel]
    rw [show (grownF (f + 1) (level + 1) (nextF level 0 (partedN level l))).length = ((grownF (f + 1) (level + 1) (nextF level 0 (partedN level l))).length - 1) + 1 by omega, List.getElem?_cons_succ]
    exact hp
end Go.Proofs.Ytekegfbjbainhaa


namespace Go.Proofs.Ytekegfbjbainhaa
open Go.RowKit
theorem grown_pages : ∀ (f level : Nat) (l : List ItR), level + f = 7 → RiseK l → l.length ≤ 60 → (∀ x ∈ l, 1 ≤ x.key.length ∧ x.key.length ≤ 12) → (level = 0 → ∀ x ∈ l, x.more.length ≤ 12) → (level ≠ 0 → l ≠ [] ∧ ∀ x ∈ l, x.more.length = 8) →
  ∀ (n : Nat) (ps : List (List ItR)), (grownF f level l)[n]? = some ps → (∀ p ∈ ps, PgW (level + n) p) ∧
   ∀ up, (grownF f level l)[n + 1]? = some up → ∀ p ∈ up, ∀ x ∈ p, ∃ q, ps[x.below]? = some q ∧ q ≠ [] ∧ x.more = digB (codeB (level + n) q) ∧ x.key = lastK q
 | 0, level, l, _, _, _, _, _, _, n, ps, h => by simp [grownF] at h
 | f + 1, level, l, hlf, hr, h60, hk, h0, h8, n, ps, h => by
  have hpart : ∀ p ∈ partedN level l, PgW level p := fun p hp => by
   have hm : ∀ x ∈ p, x ∈ l := fun x hx => by
    rcases partF_mem level l [] p hp x hx with h | h
    ·exact h
    ·cases h
   refine ⟨by omega, ?_, ?_, (parted_rise level l hr).1 p hp, fun x hx => hk x (hm x hx), fun e x hx => h0 e x (hm x hx), fun e x hx => (h8 e).2 x (hm x hx)⟩
   ·have := partF_size level l [] p hp; simp at this; omega
   ·by_cases hz : level = 0
    ·exact Or.inl hz
    ·exact Or.inr (partF_ne level l [] (Or.inl (h8 hz).1) p hp)
  unfold grownF at h ⊢
  by_cases h1 : (partedN level l).length = 1
  ·rw [if_pos h1] at h ⊢
   cases n with
   | zero =>
    simp only [List.getElem?_cons_zero, Option.some.injEq] at h
    subst h
    exact ⟨hpart, fun up hup => by simp at hup⟩
   | succ n => simp at h
  ·rw [if_neg h1] at h ⊢
   have hne : l ≠ [] := fun e => by subst e; simp [partedN, partF] at h1
   have hpne : ∀ p ∈ partedN level l, p ≠ [] := partF_ne level l [] (Or.inl hne)
   have hnx : ∀ x ∈ nextF level 0 (partedN level l), ∃ q, (partedN level l)[x.below]? = some q ∧ q ≠ [] ∧ x.more = digB (codeB level q) ∧ x.key = lastK q := fun x hx => by
    obtain ⟨k, hk'⟩ := List.getElem?_of_mem hx
    rw [next_get] at hk'
    obtain ⟨q, hq, rfl⟩ := Option.map_eq_some_iff.1 hk'
    exact ⟨q, by simpa using hq, hpne q (List.mem_of_getElem? hq), rfl, rfl⟩
   have hnk : ∀ x ∈ nextF level 0 (partedN level l), 1 ≤ x.key.length ∧ x.key.length ≤ 12 := fun x hx => by
    obtain ⟨q, hq, hqn, _, ek⟩ := hnx x hx
    obtain ⟨y, hy, ey⟩ := lastK_mem hqn
    rw [ek, ey]
    exact (hpart q (List.mem_of_getElem? hq)).key y hy
   have hnl : (nextF level 0 (partedN level l)).length ≤ 60 := by
    rw [nextF_length]
    have := partF_bound level l [] hne
    unfold partedN; omega
   cases n with
   | zero =>
    simp only [List.getElem?_cons_zero, Option.some.injEq] at h
    subst h
    refine ⟨hpart, fun up hup p hp x hx => ?_⟩
    simp only [Nat.zero_add, List.getElem?_cons_succ] at hup
    cases f with
    | zero => simp [grownF] at hup
    | succ f =>
     have he : up = partedN (level + 1) (nextF level 0 (partedN level l)) := by
      unfold grownF at hup
      split at hup <;> simpa using hup.symm
     rw [he] at hp
     have hx' : x ∈ nextF level 0 (partedN level l) := by
      rcases partF_mem (level + 1) _ [] p hp x hx with h | h
      ·exact h
      ·cases h
     exact hnx x hx'
   | succ n =>
    rw [List.getElem?_cons_succ] at h
    have ih := grown_pages f (level + 1) (nextF level 0 (partedN level l)) (by omega) (next_rise level _ 0 (parted_rise level l hr).2 hpne) hnl hnk (fun e => by omega) (fun _ => ⟨fun e => by
      have e1 := congrArg List.length e
      rw [nextF_length] at e1
      have e2 := (partF_length level l []).1
      unfold partedN at e1
      simp only [List.length_nil] at e1
      omega, fun x hx => by
      obtain ⟨q, _, _, em, _⟩ := hnx x hx
      rw [em, digB_length]⟩) n ps h
    rw [show level + (n + 1) = level + 1 + n by omega]
    refine ⟨ih.1, fun up hup => ?_⟩
    rw [List.getElem?_cons_succ] at hup
    exact ih.2 up hup
structure Stood (l : List ItR) : Prop where
 rise : RiseK l
 len : l.length ≤ 60
 key : ∀ x ∈ l, 1 ≤ x.key.length ∧ x.key.length ≤ 12
 val : ∀ x ∈ l, x.more.length ≤ 12
theorem Stood.pages {l : List ItR} (h : Stood l) {n : Nat} {ps : List (List ItR)} (hn : (grownN l)[n]? = some ps) : ∀ p ∈ ps, PgW n p := fun p hp => by
 have := (grown_pages 7 0 l rfl h.rise h.len h.key (fun _ => h.val) (fun e => absurd rfl e) n ps hn).1 p hp
 simpa using this
theorem Stood.child {l : List ItR} (h : Stood l) {n : Nat} {up : List (List ItR)} (hn : (grownN l)[n + 1]? = some up) : ∃ ps, (grownN l)[n]? = some ps ∧ ∀ p ∈ up, ∀ x ∈ p, pageAt (grownN l) n x.below ∈ ps ∧ pageAt (grownN l) n x.below ≠ [] ∧ x.more = digB (codeB n (pageAt (grownN l) n x.below)) ∧ x.key = lastK (pageAt (grownN l) n x.below) := by
 have hl := (List.getElem?_eq_some_iff.1 hn).1
 obtain ⟨ps, hps⟩ : ∃ ps, (grownN l)[n]? = some ps := ⟨_, List.getElem?_eq_getElem (by omega)⟩
 refine ⟨ps, hps, fun p hp x hx => ?_⟩
 obtain ⟨q, e1, e2, e3, e4⟩ := (grown_pages 7 0 l rfl h.rise h.len h.key (fun _ => h.val) (fun e => absurd rfl e) n ps hps).2 up hn p hp x hx
 have hpg : pageAt (grownN l) n x.below = q := by unfold pageAt; rw [hps]; simp [e1]
 rw [hpg]
 exact ⟨List.mem_of_getElem? e1, e2, by simpa using e3, e4⟩
theorem Stood.sub {l : List ItR} (h : Stood l) {n : Nat} {ps : List (List ItR)} (hn : (grownN l)[n]? = some ps) {p : List ItR} (hp : p ∈ ps) : (cov (grownN l) n p).Sublist l := by
 have e := cov_level 7 0 l n ps hn
 conv => rhs; rw [← e]
 rw [List.flatMap_def]
 exact List.sublist_flatten_of_mem (List.mem_map_of_mem hp)
theorem lastK_append (a : List ItR) {b : List ItR} (hb : b ≠ []) : lastK (a ++ b) = lastK b := by
 unfold lastK
 rw [List.getLast?_append, List.getLast?_eq_some_getLast hb]
 rfl
theorem Stood.last {l : List ItR} (h : Stood l) : ∀ (n : Nat) (ps : List (List ItR)), (grownN l)[n]? = some ps → ∀ p ∈ ps, p ≠ [] → cov (grownN l) n p ≠ [] ∧ lastK (cov (grownN l) n p) = lastK p
 | 0, ps, hn, p, hp, hne => ⟨hne, rfl⟩
 | n + 1, up, hn, p, hp, hne => by
  obtain ⟨ps, hps, hc⟩ := h.child hn
  obtain ⟨a, x, rfl⟩ : ∃ a x, p = a ++ [x] := by
   rcases List.eq_nil_or_concat p with rfl | ⟨a, x, rfl⟩
   ·exact absurd rfl hne
   ·exact ⟨a, x, by simp⟩
  obtain ⟨c1, c2, c3, c4⟩ := hc _ hp x (by simp)
  obtain ⟨i1, i2⟩ := h.last n ps hps _ c1 c2
  have e : cov (grownN l) (n + 1) (a ++ [x]) = a.flatMap (fun x => cov (grownN l) n (pageAt (grownN l) n x.below)) ++ cov (grownN l) n (pageAt (grownN l) n x.below) := by
   show (a ++ [x]).flatMap _ = _
   rw [List.flatMap_append]; simp
  rw [e]
  refine ⟨by simp [i1], ?_⟩
  rw [lastK_append _ i1, i2, ← c4, lastK_append _ (by simp)]
  rfl
theorem rise_last {l : List ItR} (h : RiseK l) {y : ItR} (hy : y ∈ l) : y.key = lastK l ∨ Op.bytesLess y.key (lastK l) = true := by
 obtain ⟨a, x, rfl⟩ : ∃ a x, l = a ++ [x] := by
  rcases List.eq_nil_or_concat l with rfl | ⟨a, x, rfl⟩
  ·cases hy
  ·exact ⟨a, x, by simp⟩
 have e : lastK (a ++ [x]) = x.key := by rw [lastK_append _ (by simp)]; rfl
 rw [e]
 rcases List.mem_append.1 hy with hy | hy
 ·exact Or.inr ((List.pairwise_append.1 h).2.2 y hy x (by simp))
 ·rw [List.mem_singleton.1 hy]; exact Or.inl rfl
end Go.Proofs.Ytekegfbjbainhaa


namespace Go.Proofs.Ytekegfbjbainhaa
open Go.RowKit
attribute [local go_sem ↓] Go.wp_at_zero Go.wp_at_succ
def chkR (root key proof : List UInt8) : Nat × Option (List UInt8) :=
 if keyOk key = true then (match checkF root key proof with
  | none => (5, none)
  | some a => (0, a)) else (1, none)
theorem Try.sizeAnswer : (Try.prog.info? 40).map (·.size) = some 2 := by kernel_rfl
def blkOf (s : SlR) (k : Nat) : Prop := ∃ x, s.a = some x ∧ x.block = k
end Go.Proofs.Ytekegfbjbainhaa


namespace Go.Proofs.Ytekegfbjbainhaa
open Go.RowKit
theorem placeN_bare (p : List ItR) (key : List UInt8) : placeN (bare p) key = placeN p key := by
 unfold placeN bare
 rw [List.takeWhile_map, List.length_map]
 rfl
def findM (key : List UInt8) (l : List ItR) : Option (List UInt8) := (l.find? (fun x => x.key == key)).map (·.more)
theorem findM_bare (key : List UInt8) (p : List ItR) : findM key (bare p) = findM key p := by
 unfold findM bare
 rw [List.find?_map, Option.map_map]
 rfl
theorem findM_none {key : List UInt8} {l : List ItR} (h : ∀ y ∈ l, y.key ≠ key) : findM key l = none := by
 unfold findM
 rw [List.find?_eq_none.2 (fun x hx => by simpa using h x hx)]
 rfl
theorem findM_right {key : List UInt8} {a b : List ItR} (h : ∀ y ∈ a, y.key ≠ key) : findM key (a ++ b) = findM key b := by
 unfold findM
 rw [List.find?_append, List.find?_eq_none.2 (fun x hx => by simpa using h x hx)]
 rfl
theorem findM_left {key : List UInt8} {a b : List ItR} (h : ∀ y ∈ b, y.key ≠ key) : findM key (a ++ b) = findM key a := by
 unfold findM
 have e : List.find? (fun x => x.key == key) b = none := List.find?_eq_none.2 (fun x hx => by simpa using h x hx)
 rw [List.find?_append, e]
 cases List.find? (fun x => x.key == key) a <;> rfl
def tailP (G : List (List (List ItR))) (key : List UInt8) : Nat → List ItR → List UInt8
 | 0, _ => []
 | n + 1, p => if placeN p key < p.length then pointF G key n (pageAt G n (belowAt p (placeN p key))) else []
theorem tailP_succ (G : List (List (List ItR))) (key : List UInt8) (n : Nat) (p : List ItR) : tailP G key (n + 1) p = if placeN p key < p.length then pointF G key n (pageAt G n (belowAt p (placeN p key))) else [] := rfl
theorem pointF_tail (G : List (List (List ItR))) (key : List UInt8) : ∀ (n : Nat) (p : List ItR), pointF G key n p = frameB n p ++ tailP G key n p
 | 0, p => by simp [pointF, tailP]
 | n + 1, p => rfl
theorem belowAt_get (p : List ItR) {i : Nat} (h : i < p.length) : belowAt p i = p[i].below := by unfold belowAt; simp [h]
theorem Stood.le {l : List ItR} (h : Stood l) {n : Nat} {ps : List (List ItR)} (hn : (grownN l)[n]? = some ps) {q : List ItR} (hq : q ∈ ps) (hne : q ≠ []) {y : ItR} (hy : y ∈ cov (grownN l) n q) : y.key = lastK q ∨ Op.bytesLess y.key (lastK q) = true := by
 have hr : RiseK (cov (grownN l) n q) := List.Pairwise.sublist (h.sub hn hq) h.rise
 have := rise_last hr hy
 rwa [(h.last n ps hn q hq hne).2] at this
theorem Stood.lastIn {l : List ItR} (h : Stood l) {n : Nat} {ps : List (List ItR)} (hn : (grownN l)[n]? = some ps) {q : List ItR} (hq : q ∈ ps) (hne : q ≠ []) : ∃ z ∈ cov (grownN l) n q, z.key = lastK q := by
 obtain ⟨i1, i2⟩ := h.last n ps hn q hq hne
 obtain ⟨z, hz, e⟩ := lastK_mem i1
 exact ⟨z, hz, by rw [← e, i2]⟩
theorem Stood.order {l : List ItR} (h : Stood l) {n : Nat} {up : List (List ItR)} (hn : (grownN l)[n + 1]? = some up) {p : List ItR} (hp : p ∈ up) : ∀ (i j : Nat) (hi : i < p.length) (hj : j < p.length), i < j → ∀ x ∈ cov (grownN l) n (pageAt (grownN l) n p[i].below), ∀ y ∈ cov (grownN l) n (pageAt (grownN l) n p[j].below), Op.bytesLess x.key y.key = true := fun i j hi hj hij => by
 have hr : RiseK (cov (grownN l) (n + 1) p) := List.Pairwise.sublist (h.sub hn hp) h.rise
 have hr2 := (List.pairwise_flatMap.1 hr).2
 exact List.pairwise_iff_getElem.1 hr2 i j hi hj hij
theorem less_asymm {a b : List UInt8} (h : Op.bytesLess a b = true) : Op.bytesLess b a = false := by
 cases e : Op.bytesLess b a with
 | false => rfl
 | true => have := less_trans h e; rw [less_irrefl] at this; cases this
theorem chk_point {l : List ItR} (h : Stood l) (key : List UInt8) : ∀ (n : Nat) (ps : List (List ItR)), (grownN l)[n]? = some ps → ∀ p ∈ ps,
  ∃ lv its, chkF key n (bare p) (tailP (grownN l) key n p) = some ((lv, its), []) ∧ (if lv = 0 then findM key its else none) = findM key (cov (grownN l) n p)
 | 0, ps, hn, p, hp => ⟨0, bare p, rfl, by rw [if_pos rfl, findM_bare]; rfl⟩
 | n + 1, up, hn, p, hp => by
  obtain ⟨ps, hps, hc⟩ := h.child hn
  have hW := h.pages hn p hp
  have hpl := rising_place p key hW.rise
  rw [tailP_succ]
  unfold chkF
  rw [placeN_bare, bare_length]
  by_cases hi : placeN p key < p.length
  ·rw [if_pos hi, if_pos hi, belowAt_get p hi]
   obtain ⟨c1, c2, c3, c4⟩ := hc p hp p[placeN p key] (List.getElem_mem hi)
   have e : ((bare p).getD (placeN p key) it0).more = p[placeN p key].more := by
    unfold bare
    rw [List.getD_eq_getElem?_getD, List.getElem?_map, List.getElem?_eq_getElem hi]
    rfl
   rw [e, c3, pointF_tail, frame_read (h.pages hps _ c1)]
   simp only [if_true]
   obtain ⟨lv, its, i1, i2⟩ := chk_point h key n ps hps _ c1
   refine ⟨lv, its, i1, i2.trans ?_⟩
   have hk := hpl (placeN p key) hi
   unfold lessK at hk
   have hk' : Op.bytesLess p[placeN p key].key key = false := by simpa using hk
   have ep : p = p.take (placeN p key) ++ p[placeN p key] :: p.drop (placeN p key + 1) := by rw [List.getElem_cons_drop, List.take_append_drop]
   have ec : cov (grownN l) (n + 1) p = (p.take (placeN p key)).flatMap (fun x => cov (grownN l) n (pageAt (grownN l) n x.below)) ++ (cov (grownN l) n (pageAt (grownN l) n p[placeN p key].below) ++ (p.drop (placeN p key + 1)).flatMap (fun x => cov (grownN l) n (pageAt (grownN l) n x.below))) := by
    conv => lhs; rw [ep]
    show List.flatMap _ _ = _
    rw [List.flatMap_append, List.flatMap_cons]
   rw [ec, findM_right, findM_left]
   ·intro y hy
    obtain ⟨x, hx, hy⟩ := List.mem_flatMap.1 hy
    obtain ⟨j, hj, rfl⟩ := List.mem_iff_getElem.1 hx
    rw [List.getElem_drop] at hy
    simp only [List.length_drop] at hj
    obtain ⟨z, hz, ez⟩ := h.lastIn hps c1 c2
    have := h.order hn hp (placeN p key) (placeN p key + 1 + j) hi (by omega) (by omega) z hz y hy
    intro eq
    rw [ez, ← c4, eq, hk'] at this
    cases this
   ·intro y hy
    obtain ⟨x, hx, hy⟩ := List.mem_flatMap.1 hy
    obtain ⟨j, hj, rfl⟩ := List.mem_iff_getElem.1 hx
    rw [List.getElem_take] at hy
    simp only [List.length_take] at hj
    obtain ⟨b1, b2, _, b4⟩ := hc p hp p[j] (List.getElem_mem (by omega))
    have hlj := hpl j (by omega)
    unfold lessK at hlj
    have hlj' : Op.bytesLess p[j].key key = true := by rw [hlj]; simp; omega
    intro eq
    rcases h.le hps b1 b2 hy with g | g
    ·rw [← b4, eq] at g; rw [← g, less_irrefl] at hlj'; cases hlj'
    ·rw [← b4, eq] at g; rw [less_asymm g] at hlj'; cases hlj'
  ·rw [if_neg hi, if_neg hi]
   refine ⟨n + 1, bare p, rfl, ?_⟩
   rw [if_neg (by omega), findM_none]
   intro y hy
   obtain ⟨x, hx, hy⟩ := List.mem_flatMap.1 (show y ∈ p.flatMap _ from hy)
   obtain ⟨j, hj, rfl⟩ := List.mem_iff_getElem.1 hx
   obtain ⟨b1, b2, _, b4⟩ := hc p hp p[j] hx
   have hlj := hpl j hj
   unfold lessK at hlj
   have hlj' : Op.bytesLess p[j].key key = true := by rw [hlj]; simp; omega
   intro eq
   rcases h.le hps b1 b2 hy with g | g
   ·rw [← b4, eq] at g; rw [← g, less_irrefl] at hlj'; cases hlj'
   ·rw [← b4, eq] at g; rw [less_asymm g] at hlj'; cases hlj'
theorem root_page {l : List ItR} : ∃ ps, (grownN l)[rootLevel l]? = some ps ∧ rootPage l ∈ ps ∧ cov (grownN l) (rootLevel l) (rootPage l) = l := by
 obtain ⟨p, hp⟩ := last_one 6 0 l rfl
 have hp' : (grownN l)[rootLevel l]? = some [p] := hp
 have er : rootPage l = p := by unfold rootPage; rw [show (grownN l)[(grownN l).length - 1]? = some [p] from hp]; rfl
 refine ⟨[p], hp', by rw [er]; simp, ?_⟩
 have := cov_level 7 0 l _ _ hp
 rw [er]
 simp only [List.flatMap_cons, List.flatMap_nil, List.append_nil] at this
 exact this
theorem check_point {l : List ItR} (h : Stood l) (key : List UInt8) : checkF (rootB l) key (prfB l key key) = some (findM key l) := by
 have hpast : PastR l := ⟨h.rise, fun x hx => ⟨(h.key x hx).2, h.val x hx⟩, h.len⟩
 obtain ⟨ps, h1, h2, h3⟩ := root_page (l := l)
 obtain ⟨lv, its, e1, e2⟩ := chk_point h key _ ps h1 _ h2
 unfold checkF
 rw [← point_prf l hpast key, pointF_tail]
 unfold rootB
 rw [frame_read (h.pages h1 _ h2)]
 show ansF key (chkF key (rootLevel l) (bare (rootPage l)) (tailP (grownN l) key (rootLevel l) (rootPage l))) = _
 rw [e1]
 rw [h3] at e2
 show (if ([] : List UInt8) = [] then some (if lv = 0 then findM key its else none) else none) = _
 rw [if_pos rfl, e2]
end Go.Proofs.Ytekegfbjbainhaa
