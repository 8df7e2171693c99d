import Derived.Test.YtekegfbjbainhaaKJoin16
import Derived.Test.YtekegfbjbainhaaKJoin12
set_option linter.unusedVariables false
set_option linter.unusedSimpArgs false

namespace Go.Proofs.Ytekegfbjbainhaa
open Go.RowKit
def pagesG : Nat → List UInt8 → List (List UInt8)
 | n + 1, a :: b :: r => if 256 * a.toNat + b.toNat ≤ r.length then r.take (256 * a.toNat + b.toNat) :: pagesG n (r.drop (256 * a.toNat + b.toNat)) else []
 | _, _ => []
def pagesN (l : List UInt8) : List (List UInt8) := pagesG l.length l
theorem pagesG_eq : ∀ (n m : Nat) (l : List UInt8), l.length ≤ n → l.length ≤ m → pagesG n l = pagesG m l
 | n, m, [], _, _ => by cases n <;> cases m <;> rfl
 | n, m, [x], _, _ => by cases n <;> cases m <;> rfl
 | 0, m, a :: b :: r, h, _ => by simp at h
 | n + 1, 0, a :: b :: r, _, h => by simp at h
 | n + 1, m + 1, a :: b :: r, h, h' => by
  simp only [pagesG]
  split
  ·rw [pagesG_eq n m (r.drop (256 * a.toNat + b.toNat)) (by simp at h ⊢; omega) (by simp at h' ⊢; omega)]
  ·rfl
theorem pagesN_cons (a b : UInt8) (r : List UInt8) : pagesN (a :: b :: r) = if 256 * a.toNat + b.toNat ≤ r.length then r.take (256 * a.toNat + b.toNat) :: pagesN (r.drop (256 * a.toNat + b.toNat)) else [] := by
 show pagesG ((a :: b :: r).length) (a :: b :: r) = _
 simp only [List.length_cons, pagesG]
 split
 ·rw [pagesG_eq (r.length + 1) (r.drop (256 * a.toNat + b.toNat)).length (r.drop (256 * a.toNat + b.toNat)) (by simp; omega) (Nat.le_refl _)]
  rfl
 ·rfl
theorem pagesN_short {l : List UInt8} (h : l.length < 2) : pagesN l = [] := by
 match l, h with
 | [], _ => rfl
 | [x], _ => rfl
def Met (A B : List (List UInt8)) : Prop := ∃ x ∈ A, ∃ y ∈ B, x ≠ y ∧ digB x = digB y
theorem Met.mono {A B A' B' : List (List UInt8)} (h : Met A B) (h1 : ∀ x ∈ A, x ∈ A') (h2 : ∀ x ∈ B, x ∈ B') : Met A' B' := by
 obtain ⟨x, hx, y, hy, h⟩ := h
 exact ⟨x, h1 x hx, y, h2 y hy, h⟩
theorem pgO_pages {r d r' : List UInt8} {p : Nat × List ItR} (h : pgO (some r) d = some (p, r')) : ∃ b, pageF b = some p ∧ digB b = d ∧ pagesN r = b :: pagesN r' := by
 match r, h with
 | [], h => simp [pgO, takeR] at h
 | [x], h => simp [pgO, takeR, pgN, oneV] at h
 | x :: y :: t, h =>
  have en : pgN (some (x :: y :: t)) = 256 * x.toNat + y.toNat := by simp [pgN, takeR, oneV]
  have er : takeR 1 (takeR 1 (some (x :: y :: t))) = some t := by simp [takeR]
  unfold pgO at h
  unfold pgB at h
  rw [en, er] at h
  by_cases hn : 256 * x.toNat + y.toNat ≤ t.length
  ·have e1 : takeR (256 * x.toNat + y.toNat) (some t) = some (t.drop (256 * x.toNat + y.toNat)) := by simp [takeR, hn]
   have e2 : takeB (256 * x.toNat + y.toNat) (some t) = t.take (256 * x.toNat + y.toNat) := by simp [takeB, hn]
   rw [e1, e2] at h
   simp only at h
   refine ⟨t.take (256 * x.toNat + y.toNat), ?_⟩
   split at h
   ·cases h
   ·rename_i q hq
    split at h
    ·rename_i hd
     simp only [Option.some.injEq, Prod.mk.injEq] at h
     obtain ⟨rfl, rfl⟩ := h
     exact ⟨hq, hd, by rw [pagesN_cons, if_pos hn]⟩
    ·cases h
  ·have e1 : takeR (256 * x.toNat + y.toNat) (some t) = none := by simp [takeR]; omega
   rw [e1] at h
   cases h
theorem step_some {fr tu : List UInt8} {lv : Nat} {s : List ItR × List UInt8} {x : ItR} {t : List ItR × List UInt8} (h : stepU (readU fr tu lv) lv s x = some t) :
  ∃ its r e, pgO (some s.2) x.more = some ((lv, its), r) ∧ readU fr tu lv its r = some (e, t.2) ∧ t.1 = s.1 ++ e := by
 unfold stepU at h
 split at h
 ·cases h
 ·rename_i l its r hp
  split at h
  ·rename_i hl
   subst hl
   obtain ⟨q, hq, rfl⟩ := Option.map_eq_some_iff.1 h
   exact ⟨its, r, q.1, hp, hq, rfl⟩
  ·cases h
theorem read_sub (fr tu : List UInt8) : ∀ (lv : Nat) (its : List ItR) (r : List UInt8) (e : List ItR) (s : List UInt8), readU fr tu lv its r = some (e, s) → ∀ x ∈ pagesN s, x ∈ pagesN r
 | 0, its, r, e, s, h => by
  unfold readU at h
  cases h
  exact fun x hx => hx
 | lv + 1, its, r, e, s, h => by
  unfold readU at h
  generalize selE its fr tu its.length = xs at h
  generalize ha : ([] : List ItR) = acc at h
  clear ha
  induction xs generalizing acc r with
  | nil => cases h; exact fun x hx => hx
  | cons y ys ih =>
   rw [List.foldlM_cons] at h
   obtain ⟨t, ht, h⟩ := Option.bind_eq_some_iff.1 h
   obtain ⟨its', r', e', h1, h2, h3⟩ := step_some ht
   obtain ⟨b, _, _, hb⟩ := pgO_pages h1
   intro x hx
   have h4 := ih t.2 t.1 h x hx
   have h5 := read_sub fr tu lv its' r' e' t.2 h2 x h4
   rw [hb]
   exact List.mem_cons_of_mem _ h5
theorem read_two (fr tu : List UInt8) : ∀ (lv : Nat) (its : List ItR) (r1 r2 : List UInt8) (e1 e2 : List ItR) (s1 s2 : List UInt8), readU fr tu lv its r1 = some (e1, s1) → readU fr tu lv its r2 = some (e2, s2) → e1 = e2 ∨ Met (pagesN r1) (pagesN r2)
 | 0, its, r1, r2, e1, e2, s1, s2, h1, h2 => by
  unfold readU at h1 h2
  cases h1; cases h2
  exact Or.inl rfl
 | lv + 1, its, r1, r2, e1, e2, s1, s2, h1, h2 => by
  unfold readU at h1 h2
  generalize selE its fr tu its.length = xs at h1 h2
  generalize ha : ([] : List ItR) = acc at h1 h2
  clear ha
  induction xs generalizing acc r1 r2 with
  | nil => cases h1; cases h2; exact Or.inl rfl
  | cons y ys ih =>
   rw [List.foldlM_cons] at h1 h2
   obtain ⟨t, ht, h1⟩ := Option.bind_eq_some_iff.1 h1
   obtain ⟨u, hu, h2⟩ := Option.bind_eq_some_iff.1 h2
   obtain ⟨ia, ra, ea, a1, a2, a3⟩ := step_some ht
   obtain ⟨ib, rb, eb, b1, b2, b3⟩ := step_some hu
   obtain ⟨pa, fa, da, ga⟩ := pgO_pages a1
   obtain ⟨pb, fb, db, gb⟩ := pgO_pages b1
   simp only at ga gb
   by_cases hp : pa = pb
   ·subst hp
    rw [fa] at fb
    simp only [Option.some.injEq, Prod.mk.injEq, true_and] at fb
    subst fb
    have hs1 : ∀ x ∈ pagesN ra, x ∈ pagesN r1 := fun x hx => by rw [ga]; exact List.mem_cons_of_mem _ hx
    have hs2 : ∀ x ∈ pagesN rb, x ∈ pagesN r2 := fun x hx => by rw [gb]; exact List.mem_cons_of_mem _ hx
    rcases read_two fr tu lv ia ra rb ea eb t.2 u.2 a2 b2 with he | hm
    ·subst he
     obtain ⟨t1, t2⟩ := t
     obtain ⟨u1, u2⟩ := u
     simp only at a3 b3 a2 b2
     subst a3
     subst b3
     rcases ih t2 u2 _ h1 h2 with he | hm
     ·exact Or.inl he
     ·exact Or.inr (hm.mono (fun x hx => hs1 x (read_sub fr tu lv ia ra ea t2 a2 x hx)) (fun x hx => hs2 x (read_sub fr tu lv ia rb ea u2 b2 x hx)))
    ·exact Or.inr (hm.mono hs1 hs2)
   ·exact Or.inr ⟨pa, by rw [ga]; simp, pb, by rw [gb]; simp, hp, da.trans db.symm⟩
theorem range_two {root fr tu p q : List UInt8} {a b : List ItR} (h1 : rangeC root fr tu p = some a) (h2 : rangeC root fr tu q = some b) : a = b ∨ Met (pagesN p) (pagesN q) := by
 have key : ∀ {p : List UInt8} {a : List ItR}, rangeC root fr tu p = some a → ∃ lv its r e s, pgO (some p) root = some ((lv, its), r) ∧ readU fr tu lv its r = some (e, s) ∧ a = e.filter (inR fr tu) := fun {p a} h => by
  unfold rangeC at h
  split at h
  ·cases h
  ·rename_i lv its r hp
   split at h
   ·cases h
   ·rename_i e s hr
    split at h
    ·cases h; exact ⟨lv, its, r, e, s, hp, hr, rfl⟩
    ·cases h
 obtain ⟨lv, its, r, e, s, g1, g2, rfl⟩ := key h1
 obtain ⟨lv', its', r', e', s', k1, k2, rfl⟩ := key h2
 obtain ⟨pa, fa, da, ga⟩ := pgO_pages g1
 obtain ⟨pb, fb, db, gb⟩ := pgO_pages k1
 by_cases hp : pa = pb
 ·subst hp
  rw [fa] at fb
  simp only [Option.some.injEq, Prod.mk.injEq] at fb
  obtain ⟨rfl, rfl⟩ := fb
  rcases read_two fr tu lv its r r' e e' s s' g2 k2 with he | hm
  ·exact Or.inl (by rw [he])
  ·exact Or.inr (hm.mono (fun x hx => by rw [ga]; exact List.mem_cons_of_mem _ hx) (fun x hx => by rw [gb]; exact List.mem_cons_of_mem _ hx))
 ·exact Or.inr ⟨pa, by rw [ga]; simp, pb, by rw [gb]; simp, hp, da.trans db.symm⟩
end Go.Proofs.Ytekegfbjbainhaa


namespace Go.Proofs.Ytekegfbjbainhaa
open Go.RowKit
theorem takeR_len {n : Nat} {o : Option (List UInt8)} {r : List UInt8} (h : takeR n o = some r) : ∃ l, o = some l ∧ r.length + n = l.length := by
 cases o with
 | none => cases h
 | some l =>
  have h' : (if n ≤ l.length then some (l.drop n) else none) = some r := h
  split at h'
  ·cases h'; exact ⟨l, rfl, by rw [List.length_drop]; omega⟩
  ·cases h'
theorem entR_len {lv : Nat} {l r : List UInt8} (h : entR lv (some l) = some r) : r.length + 1 ≤ l.length := by
 have ho : ∃ l2, entO (some l) = some l2 ∧ r.length ≤ l2.length := by
  unfold entR at h
  split at h
  ·obtain ⟨l1, h1, e1⟩ := takeR_len h
   obtain ⟨l2, h2, e2⟩ := takeR_len h1
   exact ⟨l2, h2, by omega⟩
  ·obtain ⟨l2, h2, e2⟩ := takeR_len h
   exact ⟨l2, h2, by omega⟩
 obtain ⟨l2, h2, e2⟩ := ho
 unfold entO at h2
 obtain ⟨l3, h3, e3⟩ := takeR_len h2
 obtain ⟨l4, h4, e4⟩ := takeR_len h3
 cases h4
 omega
theorem itemsO_len (lv : Nat) : ∀ (n : Nat) (its : List ItR) (l : List UInt8) (res : List ItR), itemsO lv n its (some l) = some res → n ≤ l.length
 | 0, _, _, _, _ => Nat.zero_le _
 | n + 1, its, l, res, h => by
  unfold itemsO at h
  split at h
  ·cases e : entR lv (some l) with
   | none => rw [e, itemsO_none] at h; cases h
   | some r =>
    rw [e] at h
    have h1 := itemsO_len lv n _ r res h
    have h2 := entR_len e
    omega
  ·cases h
theorem pageF_len {b : List UInt8} {lv : Nat} {its : List ItR} (h : pageF b = some (lv, its)) : its.length + 2 ≤ b.length := by
 unfold pageF at h
 split at h
 case isFalse => cases h
 case isTrue hc =>
  cases e : itemsO (oneV (some b)) (oneV (takeR 1 (some b))) [] (takeR 1 (takeR 1 (some b))) with
  | none => rw [e] at h; cases h
  | some l =>
   rw [e] at h
   simp only [Option.map_some, Option.some.injEq, Prod.mk.injEq] at h
   obtain ⟨rfl, rfl⟩ := h
   obtain ⟨h1, h2, h3⟩ := itemsO_ok _ _ [] _ l e List.Pairwise.nil (fun x hx => by cases hx)
   cases e2 : takeR 1 (takeR 1 (some b)) with
   | none => rw [e2, itemsO_none] at e; cases e
   | some r =>
    rw [e2] at e
    have h4 := itemsO_len _ _ _ _ _ e
    obtain ⟨l1, g1, e1⟩ := takeR_len e2
    obtain ⟨l2, g2, e3⟩ := takeR_len g1
    cases g2
    rw [h2]; simp; omega
theorem pgO_len {s d : List UInt8} {lv : Nat} {its : List ItR} {r : List UInt8} (h : pgO (some s) d = some ((lv, its), r)) : its.length + r.length + 4 ≤ s.length := by
 unfold pgO at h
 split at h
 ·cases h
 ·rename_i r' hr
  split at h
  ·cases h
  ·rename_i p hp
   split at h
   ·simp only [Option.some.injEq, Prod.mk.injEq] at h
    obtain ⟨rfl, rfl⟩ := h
    have h1 := pageF_len hp
    obtain ⟨l1, g1, e1⟩ := takeR_len hr
    obtain ⟨l2, g2, e2⟩ := takeR_len g1
    obtain ⟨l3, g3, e3⟩ := takeR_len g2
    cases g3
    have h2 : (pgB (some s)).length = pgN (some s) := takeB_some hr
    omega
   ·cases h
theorem readU_len (fr tu : List UInt8) : ∀ (lv : Nat) (its : List ItR) (r : List UInt8) (es : List ItR) (r' : List UInt8), readU fr tu lv its r = some (es, r') → es.length + r'.length ≤ its.length + r.length
 | 0, its, r, es, r', h => by
  have h' : some (its, r) = some (es, r') := h
  simp only [Option.some.injEq, Prod.mk.injEq] at h'
  obtain ⟨rfl, rfl⟩ := h'
  omega
 | lv + 1, its, r, es, r', h => by
  have key : ∀ (sel : List ItR) (s : List ItR × List UInt8), sel.foldlM (stepU (readU fr tu lv) lv) s = some (es, r') → es.length + r'.length ≤ s.1.length + s.2.length := by
   intro sel
   induction sel with
   | nil => intro s hs; simp only [List.foldlM_nil] at hs; cases hs; exact Nat.le_refl _
   | cons x xs ih =>
    intro s hs
    simp only [List.foldlM_cons] at hs
    cases e : stepU (readU fr tu lv) lv s x with
    | none => rw [e] at hs; cases hs
    | some t =>
     rw [e] at hs
     have h1 := ih t hs
     unfold stepU at e
     split at e
     ·cases e
     ·rename_i l its' r1 hp
      split at e
      ·cases e2 : readU fr tu lv its' r1 with
       | none => rw [e2] at e; cases e
       | some q =>
        obtain ⟨q1, q2⟩ := q
        rw [e2] at e
        simp only [Option.map_some, Option.some.injEq] at e
        subst e
        have h2 := readU_len fr tu lv its' r1 q1 q2 e2
        have h3 := pgO_len hp
        simp at h1
        omega
      ·cases e
  have := key _ _ h
  simp at this
  omega
def entC (e : SlR × SlR) : List Value := [e.1.val, e.2.val]
def entsC (l : List (SlR × SlR)) : List Value := l.flatMap entC
theorem entsC_append (l m : List (SlR × SlR)) : entsC (l ++ m) = entsC l ++ entsC m := by simp [entsC]
theorem entsC_one (l : List (SlR × SlR)) : ∀ u ∈ entsC l, u.oneCell' = true := fun u hu => by
 obtain ⟨x, _, hx⟩ := List.mem_flatMap.1 hu
 simp only [entC, SlR.val, List.mem_cons, List.not_mem_nil, or_false] at hx
 rcases hx with rfl | rfl <;> rfl
theorem Try.infoEnt : (Try.prog.info? 37).map (fun i => (i.zero, i.size, i.bytes)) = some (some (.agg #[.slice none 0 0, .slice none 0 0]), 2, 48) := by kernel_rfl
end Go.Proofs.Ytekegfbjbainhaa


namespace Go.Proofs.Ytekegfbjbainhaa
open Go.RowKit
def hpA (l : List ItR) (key val : List UInt8) (i : Nat) : List ItR :=
 if i ≤ placeN l key then l.take i
 else l.take (placeN l key) ++ [⟨key, val, 0⟩] ++ (l.take i).drop (if thereB l key then placeN l key + 1 else placeN l key)
theorem place_ne {l : List ItR} {key : List UInt8} (hr : Rising l) {i : Nat} (hi : i < l.length) (hp : i ≠ placeN l key) : l[i].key ≠ key := by
 intro e
 rcases Nat.lt_or_gt_of_ne hp with h | h
 ·have := rising_place l key hr i hi
  unfold lessK at this
  rw [e, less_irrefl] at this
  simp at this; omega
 ·have h1 := rising_place l key hr (placeN l key) (by omega)
  have h2 := List.pairwise_iff_getElem.1 hr (placeN l key) i (by omega) hi h
  rw [e] at h2
  unfold lessK at h1
  rw [h2] at h1
  simp at h1
theorem place_eq {l : List ItR} {key : List UInt8} {i : Nat} (hi : i < l.length) (hp : i = placeN l key) : thereB l key = (l[i].key == key) := by
 subst hp
 unfold thereB
 rw [List.getElem?_eq_getElem hi]
 rfl
theorem hpA_zero (l : List ItR) (key val : List UInt8) : hpA l key val 0 = [] := by unfold hpA; simp
theorem hpA_low {l : List ItR} {key : List UInt8} (val : List UInt8) {i : Nat} (hi : i < l.length) (hp : i < placeN l key) : hpA l key val (i + 1) = hpA l key val i ++ [l[i]] := by
 unfold hpA
 rw [if_pos (by omega), if_pos (by omega), List.take_succ_eq_append_getElem hi]
theorem hpA_there {l : List ItR} {key : List UInt8} (val : List UInt8) {i : Nat} (hi : i < l.length) (hp : i = placeN l key) (ht : thereB l key = true) : hpA l key val (i + 1) = hpA l key val i ++ [⟨key, val, 0⟩] := by
 unfold hpA
 rw [if_neg (show ¬ i + 1 ≤ placeN l key by omega), if_pos (show i ≤ placeN l key by omega), ht, ← hp]
 simp
theorem hpA_new {l : List ItR} {key : List UInt8} (val : List UInt8) {i : Nat} (hi : i < l.length) (hp : i = placeN l key) (ht : thereB l key = false) : hpA l key val (i + 1) = hpA l key val i ++ [⟨key, val, 0⟩] ++ [l[i]] := by
 unfold hpA
 rw [if_neg (show ¬ i + 1 ≤ placeN l key by omega), if_pos (show i ≤ placeN l key by omega), ht, ← hp]
 have e : (l.take (i + 1)).drop i = [l[i]] := by
  rw [List.take_succ_eq_append_getElem hi, List.drop_append_of_le_length (by simp; omega), List.drop_eq_nil_of_le (by simp; omega)]
  rfl
 simp [e]
theorem hpA_up {l : List ItR} {key : List UInt8} (val : List UInt8) {i : Nat} (hi : i < l.length) (hp : placeN l key < i) : hpA l key val (i + 1) = hpA l key val i ++ [l[i]] := by
 unfold hpA
 rw [if_neg (show ¬ i + 1 ≤ placeN l key by omega), if_neg (show ¬ i ≤ placeN l key by omega), List.take_succ_eq_append_getElem hi, List.drop_append_of_le_length (by simp; split <;> omega)]
 simp
theorem hpA_end {l : List ItR} {key : List UInt8} (val : List UInt8) (hp : placeN l key < l.length) : hpA l key val l.length = putN l key val := by
 unfold hpA putN
 rw [if_neg (by omega), List.take_length]
theorem hpA_last {l : List ItR} {key : List UInt8} (val : List UInt8) (hp : ¬ placeN l key < l.length) : hpA l key val l.length ++ [⟨key, val, 0⟩] = putN l key val := by
 have h1 := placeN_le l key
 have ht : thereB l key = false := by
  cases h : thereB l key with
  | false => rfl
  | true => exact absurd (thereB_lt h) hp
 unfold hpA putN
 rw [if_pos (by omega), ht, show placeN l key = l.length by omega]
 simp
theorem hpA_len {l : List ItR} (key val : List UInt8) (i : Nat) (hi : i ≤ l.length) : (hpA l key val i).length ≤ i + 1 := by
 unfold hpA
 split
 ·simp; omega
 ·simp; split <;> omega
def htA (l : List ItR) (key : List UInt8) (i : Nat) : List ItR := (l.take i).filter (fun x => x.key != key)
theorem htA_succ {l : List ItR} {key : List UInt8} {i : Nat} (hi : i < l.length) : htA l key (i + 1) = htA l key i ++ (if l[i].key != key then [l[i]] else []) := by
 unfold htA
 rw [List.take_succ_eq_append_getElem hi, List.filter_append]
 congr 1
 by_cases h : (l[i].key != key) = true <;> simp [h]
theorem htA_len (l : List ItR) (key : List UInt8) (i : Nat) : (htA l key i).length ≤ l.length := by
 unfold htA
 exact Nat.le_trans (List.length_filter_le _ _) (List.length_take_le' _ _)
theorem htA_end {l : List ItR} {key : List UInt8} (hr : Rising l) : htA l key l.length = if thereB l key then delN l key else l := by
 unfold htA
 rw [List.take_length]
 cases ht : thereB l key with
 | true =>
  have hp := thereB_lt ht
  have he := place_eq hp rfl
  rw [ht] at he
  simp only [if_true]
  unfold delN
  have e : l = l.take (placeN l key) ++ l[placeN l key] :: l.drop (placeN l key + 1) := by
   rw [List.getElem_cons_drop, List.take_append_drop]
  have h1 : (l.take (placeN l key)).filter (fun x => x.key != key) = l.take (placeN l key) := by
   rw [List.filter_eq_self]
   intro x hx
   obtain ⟨i, hi, rfl⟩ := List.mem_iff_getElem.1 hx
   have hi' : i < placeN l key := by simp at hi; omega
   rw [List.getElem_take]
   simpa using place_ne hr (by omega) (by omega : i ≠ placeN l key)
  have h2 : (l.drop (placeN l key + 1)).filter (fun x => x.key != key) = l.drop (placeN l key + 1) := by
   rw [List.filter_eq_self]
   intro x hx
   obtain ⟨i, hi, rfl⟩ := List.mem_iff_getElem.1 hx
   rw [List.getElem_drop]
   simp at hi
   simpa using place_ne hr (by omega) (by omega : placeN l key + 1 + i ≠ placeN l key)
  have h0 : (l[placeN l key].key != key) = false := by rw [bne, ← he]; rfl
  have := congrArg (List.filter (fun x => x.key != key)) e
  rw [List.filter_append, List.filter_cons, h0, h1, h2] at this
  simpa using this
 | false =>
  simp only [Bool.false_eq_true, if_false]
  rw [List.filter_eq_self]
  intro x hx
  obtain ⟨i, hi, rfl⟩ := List.mem_iff_getElem.1 hx
  by_cases hp : i = placeN l key
  ·have := place_eq hi hp
   rw [ht] at this
   rw [bne, ← this]; rfl
  ·simpa using place_ne hr hi hp
theorem entsC_cells {w : World} {a : Option Addr} {el : List (SlR × SlR)} (h : SlV w a (entsC el)) (i : Nat) (hi : i < el.length) : ∃ b o, a = some ⟨b, o, none⟩ ∧ b < w.heap.size ∧ w.cell? ⟨b, o + i * 2, none⟩ = some el[i].1.val ∧ w.cell? ⟨b, o + i * 2 + 1, none⟩ = some el[i].2.val := by
 have g := fun j (hj : j < 2) => flat_get entC 2 el (fun _ _ => rfl) i hi j hj
 obtain ⟨b, o, ha, hb, c0⟩ := SlV.at h (g 0 (by omega))
 obtain ⟨b1, o1, ha1, _, c1⟩ := SlV.at h (g 1 (by omega))
 rw [ha] at ha1; cases ha1
 exact ⟨b, o, ha, hb, c0, by rw [Nat.add_assoc]; exact c1⟩
structure EnsK (w : World) (base : Nat) (v : SlR) (es : List (SlR × SlR)) (l : List ItR) : Prop where
 own : w.ownsRow base 37 2 v.val es.length (entsC es)
 len : es.length = l.length
 bs : ∀ i (h1 : i < es.length) (h2 : i < l.length), BS w es[i].1 l[i].key ∧ BS w es[i].2 l[i].more
def ensF (v : SlR) (es : List (SlR × SlR)) (k : Nat) : Prop := v.val.ownBlock = some k ∨ ∃ e ∈ es, blkOf e.1 k ∨ blkOf e.2 k
theorem EnsK.nil (w : World) (base : Nat) : EnsK w base ⟨none, 0, 0⟩ [] [] := ⟨World.ownsRow_nil _ _ _ _, rfl, fun i h => absurd h (Nat.not_lt_zero _)⟩
end Go.Proofs.Ytekegfbjbainhaa
