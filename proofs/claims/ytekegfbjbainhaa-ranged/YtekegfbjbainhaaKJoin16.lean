import Derived.Test.YtekegfbjbainhaaKJoin15
import Derived.Deep.CutBlock
set_option linter.unusedVariables false
set_option linter.unusedSimpArgs false

namespace Go.Proofs.Ytekegfbjbainhaa
open Go.RowKit
theorem grown_pages : ∀ (f level : Nat) (l : List ItR), level + f = 7 → RiseK l → l.length ≤ 60 → (∀ x ∈ l, 1 ≤ x.key.length ∧ x.key.length ≤ 12) → (level = 0 → ∀ x ∈ l, x.more.length ≤ 12) → (level ≠ 0 → l ≠ [] ∧ ∀ x ∈ l, x.more.length = 8) →
  ∀ (n : Nat) (ps : List (List ItR)), (grownF f level l)[n]? = some ps → (∀ p ∈ ps, PgW (level + n) p) ∧
   ∀ up, (grownF f level l)[n + 1]? = some up → ∀ p ∈ up, ∀ x ∈ p, ∃ q, ps[x.below]? = some q ∧ q ≠ [] ∧ x.more = digB (codeB (level + n) q) ∧ x.key = lastK q
 | 0, level, l, _, _, _, _, _, _, n, ps, h => by simp [grownF] at h
 | f + 1, level, l, hlf, hr, h60, hk, h0, h8, n, ps, h => by
  have hpart : ∀ p ∈ partedN level l, PgW level p := fun p hp => by
   have hm : ∀ x ∈ p, x ∈ l := fun x hx => by
    rcases partF_mem level l [] p hp x hx with h | h
    ·exact h
    ·cases h
   refine ⟨by omega, ?_, ?_, (parted_rise level l hr).1 p hp, fun x hx => hk x (hm x hx), fun e x hx => h0 e x (hm x hx), fun e x hx => (h8 e).2 x (hm x hx)⟩
   ·have := partF_size level l [] p hp; simp at this; omega
   ·by_cases hz : level = 0
    ·exact Or.inl hz
    ·exact Or.inr (partF_ne level l [] (Or.inl (h8 hz).1) p hp)
  unfold grownF at h ⊢
  by_cases h1 : (partedN level l).length = 1
  ·rw [if_pos h1] at h ⊢
   cases n with
   | zero =>
    simp only [List.getElem?_cons_zero, Option.some.injEq] at h
    subst h
    exact ⟨hpart, fun up hup => by simp at hup⟩
   | succ n => simp at h
  ·rw [if_neg h1] at h ⊢
   have hne : l ≠ [] := fun e => by subst e; simp [partedN, partF] at h1
   have hpne : ∀ p ∈ partedN level l, p ≠ [] := partF_ne level l [] (Or.inl hne)
   have hnx : ∀ x ∈ nextF level 0 (partedN level l), ∃ q, (partedN level l)[x.below]? = some q ∧ q ≠ [] ∧ x.more = digB (codeB level q) ∧ x.key = lastK q := fun x hx => by
    obtain ⟨k, hk'⟩ := List.getElem?_of_mem hx
    rw [next_get] at hk'
    obtain ⟨q, hq, rfl⟩ := Option.map_eq_some_iff.1 hk'
    exact ⟨q, by simpa using hq, hpne q (List.mem_of_getElem? hq), rfl, rfl⟩
   have hnk : ∀ x ∈ nextF level 0 (partedN level l), 1 ≤ x.key.length ∧ x.key.length ≤ 12 := fun x hx => by
    obtain ⟨q, hq, hqn, _, ek⟩ := hnx x hx
    obtain ⟨y, hy, ey⟩ := lastK_mem hqn
    rw [ek, ey]
    exact (hpart q (List.mem_of_getElem? hq)).key y hy
   have hnl : (nextF level 0 (partedN level l)).length ≤ 60 := by
    rw [nextF_length]
    have := partF_bound level l [] hne
    unfold partedN; omega
   cases n with
   | zero =>
    simp only [List.getElem?_cons_zero, Option.some.injEq] at h
    subst h
    refine ⟨hpart, fun up hup p hp x hx => ?_⟩
    simp only [Nat.zero_add, List.getElem?_cons_succ] at hup
    cases f with
    | zero => simp [grownF] at hup
    | succ f =>
     have he : up = partedN (level + 1) (nextF level 0 (partedN level l)) := by
      unfold grownF at hup
      split at hup <;> simpa using hup.symm
     rw [he] at hp
     have hx' : x ∈ nextF level 0 (partedN level l) := by
      rcases partF_mem (level + 1) _ [] p hp x hx with h | h
      ·exact h
      ·cases h
     exact hnx x hx'
   | succ n =>
    rw [List.getElem?_cons_succ] at h
    have ih := grown_pages f (level + 1) (nextF level 0 (partedN level l)) (by omega) (next_rise level _ 0 (parted_rise level l hr).2 hpne) hnl hnk (fun e => by omega) (fun _ => ⟨fun e => by
      have e1 := congrArg List.length e
      rw [nextF_length] at e1
      have e2 := (partF_length level l []).1
      unfold partedN at e1
      simp only [List.length_nil] at e1
      omega, fun x hx => by
      obtain ⟨q, _, _, em, _⟩ := hnx x hx
      rw [em, digB_length]⟩) n ps h
    rw [show level + (n + 1) = level + 1 + n by omega]
    refine ⟨ih.1, fun up hup => ?_⟩
    rw [List.getElem?_cons_succ] at hup
    exact ih.2 up hup
structure Stood (l : List ItR) : Prop where
 rise : RiseK l
 len : l.length ≤ 60
 key : ∀ x ∈ l, 1 ≤ x.key.length ∧ x.key.length ≤ 12
 val : ∀ x ∈ l, x.more.length ≤ 12
theorem Stood.pages {l : List ItR} (h : Stood l) {n : Nat} {ps : List (List ItR)} (hn : (grownN l)[n]? = some ps) : ∀ p ∈ ps, PgW n p := fun p hp => by
 have := (grown_pages 7 0 l rfl h.rise h.len h.key (fun _ => h.val) (fun e => absurd rfl e) n ps hn).1 p hp
 simpa using this
theorem Stood.child {l : List ItR} (h : Stood l) {n : Nat} {up : List (List ItR)} (hn : (grownN l)[n + 1]? = some up) : ∃ ps, (grownN l)[n]? = some ps ∧ ∀ p ∈ up, ∀ x ∈ p, pageAt (grownN l) n x.below ∈ ps ∧ pageAt (grownN l) n x.below ≠ [] ∧ x.more = digB (codeB n (pageAt (grownN l) n x.below)) ∧ x.key = lastK (pageAt (grownN l) n x.below) := by
 have hl := (List.getElem?_eq_some_iff.1 hn).1
 obtain ⟨ps, hps⟩ : ∃ ps, (grownN l)[n]? = some ps := ⟨_, List.getElem?_eq_getElem (by omega)⟩
 refine ⟨ps, hps, fun p hp x hx => ?_⟩
 obtain ⟨q, e1, e2, e3, e4⟩ := (grown_pages 7 0 l rfl h.rise h.len h.key (fun _ => h.val) (fun e => absurd rfl e) n ps hps).2 up hn p hp x hx
 have hpg : pageAt (grownN l) n x.below = q := by unfold pageAt; rw [hps]; simp [e1]
 rw [hpg]
 exact ⟨List.mem_of_getElem? e1, e2, by simpa using e3, e4⟩
theorem Stood.sub {l : List ItR} (h : Stood l) {n : Nat} {ps : List (List ItR)} (hn : (grownN l)[n]? = some ps) {p : List ItR} (hp : p ∈ ps) : (cov (grownN l) n p).Sublist l := by
 have e := cov_level 7 0 l n ps hn
 conv => rhs; rw [← e]
 rw [List.flatMap_def]
 exact List.sublist_flatten_of_mem (List.mem_map_of_mem hp)
theorem lastK_append (a : List ItR) {b : List ItR} (hb : b ≠ []) : lastK (a ++ b) = lastK b := by
 unfold lastK
 rw [List.getLast?_append, List.getLast?_eq_some_getLast hb]
 rfl
theorem Stood.last {l : List ItR} (h : Stood l) : ∀ (n : Nat) (ps : List (List ItR)), (grownN l)[n]? = some ps → ∀ p ∈ ps, p ≠ [] → cov (grownN l) n p ≠ [] ∧ lastK (cov (grownN l) n p) = lastK p
 | 0, ps, hn, p, hp, hne => ⟨hne, rfl⟩
 | n + 1, up, hn, p, hp, hne => by
  obtain ⟨ps, hps, hc⟩ := h.child hn
  obtain ⟨a, x, rfl⟩ : ∃ a x, p = a ++ [x] := by
   rcases List.eq_nil_or_concat p with rfl | ⟨a, x, rfl⟩
   ·exact absurd rfl hne
   ·exact ⟨a, x, by simp⟩
  obtain ⟨c1, c2, c3, c4⟩ := hc _ hp x (by simp)
  obtain ⟨i1, i2⟩ := h.last n ps hps _ c1 c2
  have e : cov (grownN l) (n + 1) (a ++ [x]) = a.flatMap (fun x => cov (grownN l) n (pageAt (grownN l) n x.below)) ++ cov (grownN l) n (pageAt (grownN l) n x.below) := by
   show (a ++ [x]).flatMap _ = _
   rw [List.flatMap_append]; simp
  rw [e]
  refine ⟨by simp [i1], ?_⟩
  rw [lastK_append _ i1, i2, ← c4, lastK_append _ (by simp)]
  rfl
theorem rise_last {l : List ItR} (h : RiseK l) {y : ItR} (hy : y ∈ l) : y.key = lastK l ∨ Op.bytesLess y.key (lastK l) = true := by
 obtain ⟨a, x, rfl⟩ : ∃ a x, l = a ++ [x] := by
  rcases List.eq_nil_or_concat l with rfl | ⟨a, x, rfl⟩
  ·cases hy
  ·exact ⟨a, x, by simp⟩
 have e : lastK (a ++ [x]) = x.key := by rw [lastK_append _ (by simp)]; rfl
 rw [e]
 rcases List.mem_append.1 hy with hy | hy
 ·exact Or.inr ((List.pairwise_append.1 h).2.2 y hy x (by simp))
 ·rw [List.mem_singleton.1 hy]; exact Or.inl rfl
end Go.Proofs.Ytekegfbjbainhaa


namespace Go.Proofs.Ytekegfbjbainhaa
open Go.RowKit
attribute [local go_sem ↓] Go.wp_at_zero Go.wp_at_succ
def blkOf (s : SlR) (k : Nat) : Prop := ∃ x, s.a = some x ∧ x.block = k
end Go.Proofs.Ytekegfbjbainhaa


namespace Go.Proofs.Ytekegfbjbainhaa
open Go.RowKit
theorem belowAt_get (p : List ItR) {i : Nat} (h : i < p.length) : belowAt p i = p[i].below := by unfold belowAt; simp [h]
theorem Stood.le {l : List ItR} (h : Stood l) {n : Nat} {ps : List (List ItR)} (hn : (grownN l)[n]? = some ps) {q : List ItR} (hq : q ∈ ps) (hne : q ≠ []) {y : ItR} (hy : y ∈ cov (grownN l) n q) : y.key = lastK q ∨ Op.bytesLess y.key (lastK q) = true := by
 have hr : RiseK (cov (grownN l) n q) := List.Pairwise.sublist (h.sub hn hq) h.rise
 have := rise_last hr hy
 rwa [(h.last n ps hn q hq hne).2] at this
theorem Stood.lastIn {l : List ItR} (h : Stood l) {n : Nat} {ps : List (List ItR)} (hn : (grownN l)[n]? = some ps) {q : List ItR} (hq : q ∈ ps) (hne : q ≠ []) : ∃ z ∈ cov (grownN l) n q, z.key = lastK q := by
 obtain ⟨i1, i2⟩ := h.last n ps hn q hq hne
 obtain ⟨z, hz, e⟩ := lastK_mem i1
 exact ⟨z, hz, by rw [← e, i2]⟩
theorem Stood.order {l : List ItR} (h : Stood l) {n : Nat} {up : List (List ItR)} (hn : (grownN l)[n + 1]? = some up) {p : List ItR} (hp : p ∈ up) : ∀ (i j : Nat) (hi : i < p.length) (hj : j < p.length), i < j → ∀ x ∈ cov (grownN l) n (pageAt (grownN l) n p[i].below), ∀ y ∈ cov (grownN l) n (pageAt (grownN l) n p[j].below), Op.bytesLess x.key y.key = true := fun i j hi hj hij => by
 have hr : RiseK (cov (grownN l) (n + 1) p) := List.Pairwise.sublist (h.sub hn hp) h.rise
 have hr2 := (List.pairwise_flatMap.1 hr).2
 exact List.pairwise_iff_getElem.1 hr2 i j hi hj hij
theorem less_asymm {a b : List UInt8} (h : Op.bytesLess a b = true) : Op.bytesLess b a = false := by
 cases e : Op.bytesLess b a with
 | false => rfl
 | true => have := less_trans h e; rw [less_irrefl] at this; cases this
theorem root_page {l : List ItR} : ∃ ps, (grownN l)[rootLevel l]? = some ps ∧ rootPage l ∈ ps ∧ cov (grownN l) (rootLevel l) (rootPage l) = l := by
 obtain ⟨p, hp⟩ := last_one 6 0 l rfl
 have hp' : (grownN l)[rootLevel l]? = some [p] := hp
 have er : rootPage l = p := by unfold rootPage; rw [show (grownN l)[(grownN l).length - 1]? = some [p] from hp]; rfl
 refine ⟨[p], hp', by rw [er]; simp, ?_⟩
 have := cov_level 7 0 l _ _ hp
 rw [er]
 simp only [List.flatMap_cons, List.flatMap_nil, List.append_nil] at this
 exact this
end Go.Proofs.Ytekegfbjbainhaa


namespace Go.Proofs.Ytekegfbjbainhaa
open Go.RowKit
theorem keyAt_bare (p : List ItR) (i : Nat) : keyAt (bare p) i = keyAt p i := by
 unfold keyAt bare
 rw [List.getElem?_map, Option.map_map]
 rfl
theorem withB_bare (p : List ItR) (i : Nat) (fr tu : List UInt8) : withB (bare p) i fr tu = withB p i fr tu := by
 unfold withB
 rw [keyAt_bare, keyAt_bare]
def tailR (G : List (List (List ItR))) (fr tu : List UInt8) : Nat → List ItR → List UInt8
 | 0, _ => []
 | n + 1, p => behindF G fr tu n p p.length
theorem rangeF_tail (G : List (List (List ItR))) (fr tu : List UInt8) : ∀ (n : Nat) (p : List ItR), rangeF G fr tu n p = frameB n p ++ tailR G fr tu n p
 | 0, p => by simp [rangeF, tailR]
 | n + 1, p => rfl
def told (G : List (List (List ItR))) (fr tu : List UInt8) : Nat → List ItR → List ItR
 | 0, p => bare p
 | n + 1, p => (List.range p.length).flatMap (fun i => if withB p i fr tu = true then told G fr tu n (pageAt G n (belowAt p i)) else [])
theorem told_succ (G : List (List (List ItR))) (fr tu : List UInt8) (n : Nat) (p : List ItR) : told G fr tu (n + 1) p = (List.range p.length).flatMap (fun i => if withB p i fr tu = true then told G fr tu n (pageAt G n (belowAt p i)) else []) := rfl
theorem read_range {l : List ItR} (h : Stood l) (fr tu : List UInt8) : ∀ (n : Nat) (ps : List (List ItR)), (grownN l)[n]? = some ps → ∀ p ∈ ps, ∀ r, readU fr tu n (bare p) (tailR (grownN l) fr tu n p ++ r) = some (told (grownN l) fr tu n p, r)
 | 0, ps, hn, p, hp, r => rfl
 | n + 1, up, hn, p, hp, r => by
  obtain ⟨ps, hps, hc⟩ := h.child hn
  have key : ∀ (k : Nat), k ≤ p.length → ∀ r, (selE (bare p) fr tu k).foldlM (stepU (readU fr tu n) n) ([], behindF (grownN l) fr tu n p k ++ r) = some ((List.range k).flatMap (fun i => if withB p i fr tu = true then told (grownN l) fr tu n (pageAt (grownN l) n (belowAt p i)) else []), r) := by
   intro k
   induction k with
   | zero => intro _ r; rfl
   | succ k ih =>
    intro hk r
    have hk' : k < p.length := by omega
    cases hw : withB p k fr tu with
    | false =>
     rw [selE_no _ _ _ _ (by rw [withB_bare]; exact hw), behind_no _ _ _ _ _ _ hw, ih (by omega) r, List.range_succ, List.flatMap_append]
     simp [hw]
    | true =>
     rw [selE_yes _ _ _ _ (by rw [withB_bare]; exact hw), behind_yes _ _ _ _ _ _ hw, List.append_assoc, List.foldlM_append, ih (by omega) _, List.range_succ, List.flatMap_append]
     obtain ⟨c1, c2, c3, c4⟩ := hc p hp p[k] (List.getElem_mem hk')
     have e : ((bare p).getD k it0).more = p[k].more := by
      unfold bare
      rw [List.getD_eq_getElem?_getD, List.getElem?_map, List.getElem?_eq_getElem hk']
      rfl
     have hst : ∀ acc : List ItR, stepU (readU fr tu n) n (acc, rangeF (grownN l) fr tu n (pageAt (grownN l) n (belowAt p k)) ++ r) ((bare p).getD k it0) = some (acc ++ told (grownN l) fr tu n (pageAt (grownN l) n (belowAt p k)), r) := fun acc => by
      unfold stepU
      rw [belowAt_get p hk', rangeF_tail, e, c3, List.append_assoc, frame_read (h.pages hps _ c1)]
      simp only [if_true]
      rw [read_range h fr tu n ps hps _ c1 r]
      rfl
     simp only [Option.bind_eq_bind, Option.bind_some, List.foldlM_cons, List.foldlM_nil, hst, List.flatMap_cons, List.flatMap_nil, List.append_nil, hw, if_true]
     rfl
  show (selE (bare p) fr tu (bare p).length).foldlM (stepU (readU fr tu n) n) ([], behindF (grownN l) fr tu n p p.length ++ r) = _
  rw [bare_length, key p.length (Nat.le_refl _) r]
  rfl
theorem keyAt_get (p : List ItR) {i : Nat} (h : i < p.length) : keyAt p i = p[i].key := by unfold keyAt; simp [h]
theorem flat_idx {α β : Type} (p : List α) (g : α → List β) : ∀ (f : Nat → List β), (∀ i (h : i < p.length), f i = g p[i]) → (List.range p.length).flatMap f = p.flatMap g := fun f hf => by
 have : (List.range p.length).map f = p.map g := by
  apply List.ext_getElem
  ·simp
  ·intro i h1 h2
   simp at h1
   simp [hf i h1]
 rw [List.flatMap_def, List.flatMap_def, this]
theorem told_filter {l : List ItR} (h : Stood l) (fr tu : List UInt8) : ∀ (n : Nat) (ps : List (List ItR)), (grownN l)[n]? = some ps → ∀ p ∈ ps, (told (grownN l) fr tu n p).filter (inR fr tu) = (bare (cov (grownN l) n p)).filter (inR fr tu)
 | 0, ps, hn, p, hp => rfl
 | n + 1, up, hn, p, hp => by
  obtain ⟨ps, hps, hc⟩ := h.child hn
  have e2 : bare (cov (grownN l) (n + 1) p) = p.flatMap (fun x => bare (cov (grownN l) n (pageAt (grownN l) n x.below))) := by
   show bare (p.flatMap _) = _
   unfold bare
   rw [List.map_flatMap]
  rw [told_succ, e2, List.filter_flatMap, List.filter_flatMap]
  refine flat_idx p _ _ (fun i hi => ?_)
  obtain ⟨c1, c2, c3, c4⟩ := hc p hp p[i] (List.getElem_mem hi)
  rw [belowAt_get p hi]
  cases hw : withB p i fr tu with
  | true =>
   simp only [if_true]
   exact told_filter h fr tu n ps hps _ c1
  | false =>
   simp only [Bool.false_eq_true, if_false, List.filter_nil]
   symm
   rw [List.filter_eq_nil_iff]
   intro y hy
   obtain ⟨z, hz, rfl⟩ := List.mem_map.1 hy
   show ¬ (inR fr tu ⟨z.key, z.more, 0⟩ = true)
   unfold inR
   unfold withB at hw
   rw [keyAt_get p hi] at hw
   simp only [Bool.and_eq_false_iff, Bool.not_eq_false', Bool.or_eq_false_iff] at hw
   intro hin
   simp only [Bool.and_eq_true, Bool.not_eq_true'] at hin
   rcases hw with hw | ⟨hw0, hw1⟩
   ·rcases h.le hps c1 c2 hz with g | g
    ·rw [← c4] at g; rw [g, hw] at hin; cases hin.1
    ·rw [← c4] at g; rw [less_trans g hw] at hin; cases hin.1
   ·have hi0 : 0 < i := by
     rcases Nat.eq_zero_or_pos i with e | e
     ·subst e; simp at hw0
     ·exact e
    rw [keyAt_get p (by omega)] at hw1
    obtain ⟨b1, b2, _, b4⟩ := hc p hp p[i - 1] (List.getElem_mem (by omega))
    obtain ⟨y, hy, ey⟩ := h.lastIn hps b1 b2
    have := h.order hn hp (i - 1) i (by omega) hi (by omega) y hy z hz
    rw [ey, ← b4] at this
    rw [less_trans this hin.2] at hw1
    cases hw1
theorem check_range {l : List ItR} (h : Stood l) (hz : ∀ x ∈ l, x.below = 0) (fr tu : List UInt8) : rangeC (rootB l) fr tu (prfB l fr tu) = some (l.filter (inR fr tu)) := by
 obtain ⟨ps, h1, h2, h3⟩ := root_page (l := l)
 have hr := read_range h fr tu _ ps h1 _ h2 []
 have ht := told_filter h fr tu _ ps h1 _ h2
 rw [h3] at ht
 have hb : bare l = l := by
  unfold bare
  have : ∀ x ∈ l, (⟨x.key, x.more, 0⟩ : ItR) = x := fun x hx => by
   have := hz x hx
   cases x
   simp only at this
   subst this
   rfl
  exact (List.map_congr_left this).trans (List.map_id _)
 rw [hb] at ht
 unfold rangeC prfB
 rw [rangeF_tail]
 unfold rootB
 rw [frame_read (h.pages h1 _ h2)]
 rw [List.append_nil] at hr
 simp only [hr, if_true, ht]
end Go.Proofs.Ytekegfbjbainhaa
