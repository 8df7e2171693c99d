import Derived.Test.YtekegfbjbainhaaKJoin23
import Derived.Test.YtekegfbjbainhaaKJoin14
import Derived.Test.YtekegfbjbainhaaKJoin15
import Derived.BigQuiet
set_option linter.unusedVariables false
set_option linter.unusedSimpArgs false

namespace Go.Proofs.Ytekegfbjbainhaa
open Go.RowKit
theorem grown_pages : ∀ (f level : Nat) (l : List ItR), level + f = 7 → RiseK l → l.length ≤ 60 → (∀ x ∈ l, 1 ≤ x.key.length ∧ x.key.length ≤ 12) → (level = 0 → ∀ x ∈ l, x.more.length ≤ 12) → (level ≠ 0 → l ≠ [] ∧ ∀ x ∈ l, x.more.length = 8) →
  ∀ (n : Nat) (ps : List (List ItR)), (grownF f level l)[n]? = some ps → (∀ p ∈ ps, PgW (level + n) p) ∧
   ∀ up, (grownF f level l)[n + 1]? = some up → ∀ p ∈ up, ∀ x ∈ p, ∃ q, ps[x.below]? = some q ∧ q ≠ [] ∧ x.more = digB (codeB (level + n) q) ∧ x.key = lastK q
 | 0, level, l, _, _, _, _, _, _, n, ps, h => by simp [grownF] at h
 | f + 1, level, l, hlf, hr, h60, hk, h0, h8, n, ps, h => by
  have hpart : ∀ p ∈ partedN level l, PgW level p := fun p hp => by
   have hm : ∀ x ∈ p, x ∈ l := fun x hx => by
    rcases partF_mem level l [] p hp x hx with h | h
    ·exact h
    ·cases h
   refine ⟨by omega, ?_, ?_, (parted_rise level l hr).1 p hp, fun x hx => hk x (hm x hx), fun e x hx => h0 e x (hm x hx), fun e x hx => (h8 e).2 x (hm x hx)⟩
   ·have := partF_size level l [] p hp; simp at this; omega
   ·by_cases hz : level = 0
    ·exact Or.inl hz
    ·exact Or.inr (partF_ne level l [] (Or.inl (h8 hz).1) p hp)
  unfold grownF at h ⊢
  by_cases h1 : (partedN level l).length = 1
  ·rw [if_pos h1] at h ⊢
   cases n with
   | zero =>
    simp only [List.getElem?_cons_zero, Option.some.injEq] at h
    subst h
    exact ⟨hpart, fun up hup => by simp at hup⟩
   | succ n => simp at h
  ·rw [if_neg h1] at h ⊢
   have hne : l ≠ [] := fun e => by subst e; simp [partedN, partF] at h1
   have hpne : ∀ p ∈ partedN level l, p ≠ [] := partF_ne level l [] (Or.inl hne)
   have hnx : ∀ x ∈ nextF level 0 (partedN level l), ∃ q, (partedN level l)[x.below]? = some q ∧ q ≠ [] ∧ x.more = digB (codeB level q) ∧ x.key = lastK q := fun x hx => by
    obtain ⟨k, hk'⟩ := List.getElem?_of_mem hx
    rw [next_get] at hk'
    obtain ⟨q, hq, rfl⟩ := Option.map_eq_some_iff.1 hk'
    exact ⟨q, by simpa using hq, hpne q (List.mem_of_getElem? hq), rfl, rfl⟩
   have hnk : ∀ x ∈ nextF level 0 (partedN level l), 1 ≤ x.key.length ∧ x.key.length ≤ 12 := fun x hx => by
    obtain ⟨q, hq, hqn, _, ek⟩ := hnx x hx
    obtain ⟨y, hy, ey⟩ := lastK_mem hqn
    rw [ek, ey]
    exact (hpart q (List.mem_of_getElem? hq)).key y hy
   have hnl : (nextF level 0 (partedN level l)).length ≤ 60 := by
    rw [nextF_length]
    have := partF_bound level l [] hne
    unfold partedN; omega
   cases n with
   | zero =>
    simp only [List.getElem?_cons_zero, Option.some.injEq] at h
    subst h
    refine ⟨hpart, fun up hup p hp x hx => ?_⟩
    simp only [Nat.zero_add, List.getElem?_cons_succ] at hup
    cases f with
    | zero => simp [grownF] at hup
    | succ f =>
     have he : up = partedN (level + 1) (nextF level 0 (partedN level l)) := by
      unfold grownF at hup
      split at hup <;> simpa using hup.symm
     rw [he] at hp
     have hx' : x ∈ nextF level 0 (partedN level l) := by
      rcases partF_mem (level + 1) _ [] p hp x hx with h | h
      ·exact h
      ·cases h
     exact hnx x hx'
   | succ n =>
    rw [List.getElem?_cons_succ] at h
    have ih := grown_pages f (level + 1) (nextF level 0 (partedN level l)) (by omega) (next_rise level _ 0 (parted_rise level l hr).2 hpne) hnl hnk (fun e => by omega) (fun _ => ⟨fun e => by
      have e1 := congrArg List.length e
      rw [nextF_length] at e1
      have e2 := (partF_length level l []).1
      unfold partedN at e1
      simp only [List.length_nil] at e1
      omega, fun x hx => by
      obtain ⟨q, _, _, em, _⟩ := hnx x hx
      rw [em, digB_length]⟩) n ps h
    rw [show level + (n + 1) = level + 1 + n by omega]
    refine ⟨ih.1, fun up hup => ?_⟩
    rw [List.getElem?_cons_succ] at hup
    exact ih.2 up hup
structure Stood (l : List ItR) : Prop where
 rise : RiseK l
 len : l.length ≤ 60
 key : ∀ x ∈ l, 1 ≤ x.key.length ∧ x.key.length ≤ 12
 val : ∀ x ∈ l, x.more.length ≤ 12
theorem Stood.pages {l : List ItR} (h : Stood l) {n : Nat} {ps : List (List ItR)} (hn : (grownN l)[n]? = some ps) : ∀ p ∈ ps, PgW n p := fun p hp => by
 have := (grown_pages 7 0 l rfl h.rise h.len h.key (fun _ => h.val) (fun e => absurd rfl e) n ps hn).1 p hp
 simpa using this
theorem Stood.child {l : List ItR} (h : Stood l) {n : Nat} {up : List (List ItR)} (hn : (grownN l)[n + 1]? = some up) : ∃ ps, (grownN l)[n]? = some ps ∧ ∀ p ∈ up, ∀ x ∈ p, pageAt (grownN l) n x.below ∈ ps ∧ pageAt (grownN l) n x.below ≠ [] ∧ x.more = digB (codeB n (pageAt (grownN l) n x.below)) ∧ x.key = lastK (pageAt (grownN l) n x.below) := by
 have hl := (List.getElem?_eq_some_iff.1 hn).1
 obtain ⟨ps, hps⟩ : ∃ ps, (grownN l)[n]? = some ps := ⟨_, List.getElem?_eq_getElem (by omega)⟩
 refine ⟨ps, hps, fun p hp x hx => ?_⟩
 obtain ⟨q, e1, e2, e3, e4⟩ := (grown_pages 7 0 l rfl h.rise h.len h.key (fun _ => h.val) (fun e => absurd rfl e) n ps hps).2 up hn p hp x hx
 have hpg : pageAt (grownN l) n x.below = q := by unfold pageAt; rw [hps]; simp [e1]
 rw [hpg]
 exact ⟨List.mem_of_getElem? e1, e2, by simpa using e3, e4⟩
theorem Stood.sub {l : List ItR} (h : Stood l) {n : Nat} {ps : List (List ItR)} (hn : (grownN l)[n]? = some ps) {p : List ItR} (hp : p ∈ ps) : (cov (grownN l) n p).Sublist l := by
 have e := cov_level 7 0 l n ps hn
 conv => rhs; rw [← e]
 rw [List.flatMap_def]
 exact List.sublist_flatten_of_mem (List.mem_map_of_mem hp)
theorem lastK_append (a : List ItR) {b : List ItR} (hb : b ≠ []) : lastK (a ++ b) = lastK b := by
 unfold lastK
 rw [List.getLast?_append, List.getLast?_eq_some_getLast hb]
 rfl
theorem Stood.last {l : List ItR} (h : Stood l) : ∀ (n : Nat) (ps : List (List ItR)), (grownN l)[n]? = some ps → ∀ p ∈ ps, p ≠ [] → cov (grownN l) n p ≠ [] ∧ lastK (cov (grownN l) n p) = lastK p
 | 0, ps, hn, p, hp, hne => ⟨hne, rfl⟩
 | n + 1, up, hn, p, hp, hne => by
  obtain ⟨ps, hps, hc⟩ := h.child hn
  obtain ⟨a, x, rfl⟩ : ∃ a x, p = a ++ [x] := by
   rcases List.eq_nil_or_concat p with rfl | ⟨a, x, rfl⟩
   ·exact absurd rfl hne
   ·exact ⟨a, x, by simp⟩
  obtain ⟨c1, c2, c3, c4⟩ := hc _ hp x (by simp)
  obtain ⟨i1, i2⟩ := h.last n ps hps _ c1 c2
  have e : cov (grownN l) (n + 1) (a ++ [x]) = a.flatMap (fun x => cov (grownN l) n (pageAt (grownN l) n x.below)) ++ cov (grownN l) n (pageAt (grownN l) n x.below) := by
   show (a ++ [x]).flatMap _ = _
   rw [List.flatMap_append]; simp
  rw [e]
  refine ⟨by simp [i1], ?_⟩
  rw [lastK_append _ i1, i2, ← c4, lastK_append _ (by simp)]
  rfl
theorem rise_last {l : List ItR} (h : RiseK l) {y : ItR} (hy : y ∈ l) : y.key = lastK l ∨ Op.bytesLess y.key (lastK l) = true := by
 obtain ⟨a, x, rfl⟩ : ∃ a x, l = a ++ [x] := by
  rcases List.eq_nil_or_concat l with rfl | ⟨a, x, rfl⟩
  ·cases hy
  ·exact ⟨a, x, by simp⟩
 have e : lastK (a ++ [x]) = x.key := by rw [lastK_append _ (by simp)]; rfl
 rw [e]
 rcases List.mem_append.1 hy with hy | hy
 ·exact Or.inr ((List.pairwise_append.1 h).2.2 y hy x (by simp))
 ·rw [List.mem_singleton.1 hy]; exact Or.inl rfl
end Go.Proofs.Ytekegfbjbainhaa


namespace Go.Proofs.Ytekegfbjbainhaa
open Go.RowKit
theorem placeN_bare (p : List ItR) (key : List UInt8) : placeN (bare p) key = placeN p key := by
 unfold placeN bare
 rw [List.takeWhile_map, List.length_map]
 rfl
def findM (key : List UInt8) (l : List ItR) : Option (List UInt8) := (l.find? (fun x => x.key == key)).map (·.more)
theorem findM_bare (key : List UInt8) (p : List ItR) : findM key (bare p) = findM key p := by
 unfold findM bare
 rw [List.find?_map, Option.map_map]
 rfl
theorem findM_none {key : List UInt8} {l : List ItR} (h : ∀ y ∈ l, y.key ≠ key) : findM key l = none := by
 unfold findM
 rw [List.find?_eq_none.2 (fun x hx => by simpa using h x hx)]
 rfl
theorem findM_right {key : List UInt8} {a b : List ItR} (h : ∀ y ∈ a, y.key ≠ key) : findM key (a ++ b) = findM key b := by
 unfold findM
 rw [List.find?_append, List.find?_eq_none.2 (fun x hx => by simpa using h x hx)]
 rfl
theorem findM_left {key : List UInt8} {a b : List ItR} (h : ∀ y ∈ b, y.key ≠ key) : findM key (a ++ b) = findM key a := by
 unfold findM
 have e : List.find? (fun x => x.key == key) b = none := List.find?_eq_none.2 (fun x hx => by simpa using h x hx)
 rw [List.find?_append, e]
 cases List.find? (fun x => x.key == key) a <;> rfl
def tailP (G : List (List (List ItR))) (key : List UInt8) : Nat → List ItR → List UInt8
 | 0, _ => []
 | n + 1, p => if placeN p key < p.length then pointF G key n (pageAt G n (belowAt p (placeN p key))) else []
theorem tailP_succ (G : List (List (List ItR))) (key : List UInt8) (n : Nat) (p : List ItR) : tailP G key (n + 1) p = if placeN p key < p.length then pointF G key n (pageAt G n (belowAt p (placeN p key))) else [] := rfl
theorem pointF_tail (G : List (List (List ItR))) (key : List UInt8) : ∀ (n : Nat) (p : List ItR), pointF G key n p = frameB n p ++ tailP G key n p
 | 0, p => by simp [pointF, tailP]
 | n + 1, p => rfl
theorem belowAt_get (p : List ItR) {i : Nat} (h : i < p.length) : belowAt p i = p[i].below := by unfold belowAt; simp [h]
theorem Stood.le {l : List ItR} (h : Stood l) {n : Nat} {ps : List (List ItR)} (hn : (grownN l)[n]? = some ps) {q : List ItR} (hq : q ∈ ps) (hne : q ≠ []) {y : ItR} (hy : y ∈ cov (grownN l) n q) : y.key = lastK q ∨ Op.bytesLess y.key (lastK q) = true := by
 have hr : RiseK (cov (grownN l) n q) := List.Pairwise.sublist (h.sub hn hq) h.rise
 have := rise_last hr hy
 rwa [(h.last n ps hn q hq hne).2] at this
theorem Stood.lastIn {l : List ItR} (h : Stood l) {n : Nat} {ps : List (List ItR)} (hn : (grownN l)[n]? = some ps) {q : List ItR} (hq : q ∈ ps) (hne : q ≠ []) : ∃ z ∈ cov (grownN l) n q, z.key = lastK q := by
 obtain ⟨i1, i2⟩ := h.last n ps hn q hq hne
 obtain ⟨z, hz, e⟩ := lastK_mem i1
 exact ⟨z, hz, by rw [← e, i2]⟩
theorem Stood.order {l : List ItR} (h : Stood l) {n : Nat} {up : List (List ItR)} (hn : (grownN l)[n + 1]? = some up) {p : List ItR} (hp : p ∈ up) : ∀ (i j : Nat) (hi : i < p.length) (hj : j < p.length), i < j → ∀ x ∈ cov (grownN l) n (pageAt (grownN l) n p[i].below), ∀ y ∈ cov (grownN l) n (pageAt (grownN l) n p[j].below), Op.bytesLess x.key y.key = true := fun i j hi hj hij => by
 have hr : RiseK (cov (grownN l) (n + 1) p) := List.Pairwise.sublist (h.sub hn hp) h.rise
 have hr2 := (List.pairwise_flatMap.1 hr).2
 exact List.pairwise_iff_getElem.1 hr2 i j hi hj hij
theorem less_asymm {a b : List UInt8} (h : Op.bytesLess a b = true) : Op.bytesLess b a = false := by
 cases e : Op.bytesLess b a with
 | false => rfl
 | true => have := less_trans h e; rw [less_irrefl] at this; cases this
theorem chk_point {l : List ItR} (h : Stood l) (key : List UInt8) : ∀ (n : Nat) (ps : List (List ItR)), (grownN l)[n]? = some ps → ∀ p ∈ ps,
  ∃ lv its, chkF key n (bare p) (tailP (grownN l) key n p) = some ((lv, its), []) ∧ (if lv = 0 then findM key its else none) = findM key (cov (grownN l) n p)
 | 0, ps, hn, p, hp => ⟨0, bare p, rfl, by rw [if_pos rfl, findM_bare]; rfl⟩
 | n + 1, up, hn, p, hp => by
  obtain ⟨ps, hps, hc⟩ := h.child hn
  have hW := h.pages hn p hp
  have hpl := rising_place p key hW.rise
  rw [tailP_succ]
  unfold chkF
  rw [placeN_bare, bare_length]
  by_cases hi : placeN p key < p.length
  ·rw [if_pos hi, if_pos hi, belowAt_get p hi]
   obtain ⟨c1, c2, c3, c4⟩ := hc p hp p[placeN p key] (List.getElem_mem hi)
   have e : ((bare p).getD (placeN p key) it0).more = p[placeN p key].more := by
    unfold bare
    rw [List.getD_eq_getElem?_getD, List.getElem?_map, List.getElem?_eq_getElem hi]
    rfl
   rw [e, c3, pointF_tail, frame_read (h.pages hps _ c1)]
   simp only [if_true]
   obtain ⟨lv, its, i1, i2⟩ := chk_point h key n ps hps _ c1
   refine ⟨lv, its, i1, i2.trans ?_⟩
   have hk := hpl (placeN p key) hi
   unfold lessK at hk
   have hk' : Op.bytesLess p[placeN p key].key key = false := by simpa using hk
   have ep : p = p.take (placeN p key) ++ p[placeN p key] :: p.drop (placeN p key + 1) := by rw [List.getElem_cons_drop, List.take_append_drop]
   have ec : cov (grownN l) (n + 1) p = (p.take (placeN p key)).flatMap (fun x => cov (grownN l) n (pageAt (grownN l) n x.below)) ++ (cov (grownN l) n (pageAt (grownN l) n p[placeN p key].below) ++ (p.drop (placeN p key + 1)).flatMap (fun x => cov (grownN l) n (pageAt (grownN l) n x.below))) := by
    conv => lhs; rw [ep]
    show List.flatMap _ _ = _
    rw [List.flatMap_append, List.flatMap_cons]
   rw [ec, findM_right, findM_left]
   ·intro y hy
    obtain ⟨x, hx, hy⟩ := List.mem_flatMap.1 hy
    obtain ⟨j, hj, rfl⟩ := List.mem_iff_getElem.1 hx
    rw [List.getElem_drop] at hy
    simp only [List.length_drop] at hj
    obtain ⟨z, hz, ez⟩ := h.lastIn hps c1 c2
    have := h.order hn hp (placeN p key) (placeN p key + 1 + j) hi (by omega) (by omega) z hz y hy
    intro eq
    rw [ez, ← c4, eq, hk'] at this
    cases this
   ·intro y hy
    obtain ⟨x, hx, hy⟩ := List.mem_flatMap.1 hy
    obtain ⟨j, hj, rfl⟩ := List.mem_iff_getElem.1 hx
    rw [List.getElem_take] at hy
    simp only [List.length_take] at hj
    obtain ⟨b1, b2, _, b4⟩ := hc p hp p[j] (List.getElem_mem (by omega))
    have hlj := hpl j (by omega)
    unfold lessK at hlj
    have hlj' : Op.bytesLess p[j].key key = true := by rw [hlj]; simp; omega
    intro eq
    rcases h.le hps b1 b2 hy with g | g
    ·rw [← b4, eq] at g; rw [← g, less_irrefl] at hlj'; cases hlj'
    ·rw [← b4, eq] at g; rw [less_asymm g] at hlj'; cases hlj'
  ·rw [if_neg hi, if_neg hi]
   refine ⟨n + 1, bare p, rfl, ?_⟩
   rw [if_neg (by omega), findM_none]
   intro y hy
   obtain ⟨x, hx, hy⟩ := List.mem_flatMap.1 (show y ∈ p.flatMap _ from hy)
   obtain ⟨j, hj, rfl⟩ := List.mem_iff_getElem.1 hx
   obtain ⟨b1, b2, _, b4⟩ := hc p hp p[j] hx
   have hlj := hpl j hj
   unfold lessK at hlj
   have hlj' : Op.bytesLess p[j].key key = true := by rw [hlj]; simp; omega
   intro eq
   rcases h.le hps b1 b2 hy with g | g
   ·rw [← b4, eq] at g; rw [← g, less_irrefl] at hlj'; cases hlj'
   ·rw [← b4, eq] at g; rw [less_asymm g] at hlj'; cases hlj'
theorem root_page {l : List ItR} : ∃ ps, (grownN l)[rootLevel l]? = some ps ∧ rootPage l ∈ ps ∧ cov (grownN l) (rootLevel l) (rootPage l) = l := by
 obtain ⟨p, hp⟩ := last_one 6 0 l rfl
 have hp' : (grownN l)[rootLevel l]? = some [p] := hp
 have er : rootPage l = p := by unfold rootPage; rw [show (grownN l)[(grownN l).length - 1]? = some [p] from hp]; rfl
 refine ⟨[p], hp', by rw [er]; simp, ?_⟩
 have := cov_level 7 0 l _ _ hp
 rw [er]
 simp only [List.flatMap_cons, List.flatMap_nil, List.append_nil] at this
 exact this
theorem check_point {l : List ItR} (h : Stood l) (key : List UInt8) : checkF (rootB l) key (prfB l key key) = some (findM key l) := by
 have hpast : PastR l := ⟨h.rise, fun x hx => ⟨(h.key x hx).2, h.val x hx⟩, h.len⟩
 obtain ⟨ps, h1, h2, h3⟩ := root_page (l := l)
 obtain ⟨lv, its, e1, e2⟩ := chk_point h key _ ps h1 _ h2
 unfold checkF
 rw [← point_prf l hpast key, pointF_tail]
 unfold rootB
 rw [frame_read (h.pages h1 _ h2)]
 show ansF key (chkF key (rootLevel l) (bare (rootPage l)) (tailP (grownN l) key (rootLevel l) (rootPage l))) = _
 rw [e1]
 rw [h3] at e2
 show (if ([] : List UInt8) = [] then some (if lv = 0 then findM key its else none) else none) = _
 rw [if_pos rfl, e2]
end Go.Proofs.Ytekegfbjbainhaa


namespace Go.Proofs.Ytekegfbjbainhaa
open Go.RowKit
theorem keyAt_bare (p : List ItR) (i : Nat) : keyAt (bare p) i = keyAt p i := by
 unfold keyAt bare
 rw [List.getElem?_map, Option.map_map]
 rfl
theorem withB_bare (p : List ItR) (i : Nat) (fr tu : List UInt8) : withB (bare p) i fr tu = withB p i fr tu := by
 unfold withB
 rw [keyAt_bare, keyAt_bare]
def tailR (G : List (List (List ItR))) (fr tu : List UInt8) : Nat → List ItR → List UInt8
 | 0, _ => []
 | n + 1, p => behindF G fr tu n p p.length
theorem rangeF_tail (G : List (List (List ItR))) (fr tu : List UInt8) : ∀ (n : Nat) (p : List ItR), rangeF G fr tu n p = frameB n p ++ tailR G fr tu n p
 | 0, p => by simp [rangeF, tailR]
 | n + 1, p => rfl
def told (G : List (List (List ItR))) (fr tu : List UInt8) : Nat → List ItR → List ItR
 | 0, p => bare p
 | n + 1, p => (List.range p.length).flatMap (fun i => if withB p i fr tu = true then told G fr tu n (pageAt G n (belowAt p i)) else [])
theorem told_succ (G : List (List (List ItR))) (fr tu : List UInt8) (n : Nat) (p : List ItR) : told G fr tu (n + 1) p = (List.range p.length).flatMap (fun i => if withB p i fr tu = true then told G fr tu n (pageAt G n (belowAt p i)) else []) := rfl
theorem read_range {l : List ItR} (h : Stood l) (fr tu : List UInt8) : ∀ (n : Nat) (ps : List (List ItR)), (grownN l)[n]? = some ps → ∀ p ∈ ps, ∀ r, readU fr tu n (bare p) (tailR (grownN l) fr tu n p ++ r) = some (told (grownN l) fr tu n p, r)
 | 0, ps, hn, p, hp, r => rfl
 | n + 1, up, hn, p, hp, r => by
  obtain ⟨ps, hps, hc⟩ := h.child hn
  have key : ∀ (k : Nat), k ≤ p.length → ∀ r, (selE (bare p) fr tu k).foldlM (stepU (readU fr tu n) n) ([], behindF (grownN l) fr tu n p k ++ r) = some ((List.range k).flatMap (fun i => if withB p i fr tu = true then told (grownN l) fr tu n (pageAt (grownN l) n (belowAt p i)) else []), r) := by
   intro k
   induction k with
   | zero => intro _ r; rfl
   | succ k ih =>
    intro hk r
    have hk' : k < p.length := by omega
    cases hw : withB p k fr tu with
    | false =>
     rw [selE_no _ _ _ _ (by rw [withB_bare]; exact hw), behind_no _ _ _ _ _ _ hw, ih (by omega) r, List.range_succ, List.flatMap_append]
     simp [hw]
    | true =>
     rw [selE_yes _ _ _ _ (by rw [withB_bare]; exact hw), behind_yes _ _ _ _ _ _ hw, List.append_assoc, List.foldlM_append, ih (by omega) _, List.range_succ, List.flatMap_append]
     obtain ⟨c1, c2, c3, c4⟩ := hc p hp p[k] (List.getElem_mem hk')
     have e : ((bare p).getD k it0).more = p[k].more := by
      unfold bare
      rw [List.getD_eq_getElem?_getD, List.getElem?_map, List.getElem?_eq_getElem hk']
      rfl
     have hst : ∀ acc : List ItR, stepU (readU fr tu n) n (acc, rangeF (grownN l) fr tu n (pageAt (grownN l) n (belowAt p k)) ++ r) ((bare p).getD k it0) = some (acc ++ told (grownN l) fr tu n (pageAt (grownN l) n (belowAt p k)), r) := fun acc => by
      unfold stepU
      rw [belowAt_get p hk', rangeF_tail, e, c3, List.append_assoc, frame_read (h.pages hps _ c1)]
      simp only [if_true]
      rw [read_range h fr tu n ps hps _ c1 r]
      rfl
     simp only [Option.bind_eq_bind, Option.bind_some, List.foldlM_cons, List.foldlM_nil, hst, List.flatMap_cons, List.flatMap_nil, List.append_nil, hw, if_true]
     rfl
  show (selE (bare p) fr tu (bare p).length).foldlM (stepU (readU fr tu n) n) ([], behindF (grownN l) fr tu n p p.length ++ r) = _
  rw [bare_length, key p.length (Nat.le_refl _) r]
  rfl
theorem keyAt_get (p : List ItR) {i : Nat} (h : i < p.length) : keyAt p i = p[i].key := by unfold keyAt; simp [h]
theorem flat_idx {α β : Type} (p : List α) (g : α → List β) : ∀ (f : Nat → List β), (∀ i (h : i < p.length), f i = g p[i]) → (List.range p.length).flatMap f = p.flatMap g := fun f hf => by
 have : (List.range p.length).map f = p.map g := by
  apply List.ext_getElem
  ·simp
  ·intro i h1 h2
   simp at h1
   simp [hf i h1]
 rw [List.flatMap_def, List.flatMap_def, this]
theorem told_filter {l : List ItR} (h : Stood l) (fr tu : List UInt8) : ∀ (n : Nat) (ps : List (List ItR)), (grownN l)[n]? = some ps → ∀ p ∈ ps, (told (grownN l) fr tu n p).filter (inR fr tu) = (bare (cov (grownN l) n p)).filter (inR fr tu)
 | 0, ps, hn, p, hp => rfl
 | n + 1, up, hn, p, hp => by
  obtain ⟨ps, hps, hc⟩ := h.child hn
  have e2 : bare (cov (grownN l) (n + 1) p) = p.flatMap (fun x => bare (cov (grownN l) n (pageAt (grownN l) n x.below))) := by
   show bare (p.flatMap _) = _
   unfold bare
   rw [List.map_flatMap]
  rw [told_succ, e2, List.filter_flatMap, List.filter_flatMap]
  refine flat_idx p _ _ (fun i hi => ?_)
  obtain ⟨c1, c2, c3, c4⟩ := hc p hp p[i] (List.getElem_mem hi)
  rw [belowAt_get p hi]
  cases hw : withB p i fr tu with
  | true =>
   simp only [if_true]
   exact told_filter h fr tu n ps hps _ c1
  | false =>
   simp only [Bool.false_eq_true, if_false, List.filter_nil]
   symm
   rw [List.filter_eq_nil_iff]
   intro y hy
   obtain ⟨z, hz, rfl⟩ := List.mem_map.1 hy
   show ¬ (inR fr tu ⟨z.key, z.more, 0⟩ = true)
   unfold inR
   unfold withB at hw
   rw [keyAt_get p hi] at hw
   simp only [Bool.and_eq_false_iff, Bool.not_eq_false', Bool.or_eq_false_iff] at hw
   intro hin
   simp only [Bool.and_eq_true, Bool.not_eq_true'] at hin
   rcases hw with hw | ⟨hw0, hw1⟩
   ·rcases h.le hps c1 c2 hz with g | g
    ·rw [← c4] at g; rw [g, hw] at hin; cases hin.1
    ·rw [← c4] at g; rw [less_trans g hw] at hin; cases hin.1
   ·have hi0 : 0 < i := by
     rcases Nat.eq_zero_or_pos i with e | e
     ·subst e; simp at hw0
     ·exact e
    rw [keyAt_get p (by omega)] at hw1
    obtain ⟨b1, b2, _, b4⟩ := hc p hp p[i - 1] (List.getElem_mem (by omega))
    obtain ⟨y, hy, ey⟩ := h.lastIn hps b1 b2
    have := h.order hn hp (i - 1) i (by omega) hi (by omega) y hy z hz
    rw [ey, ← b4] at this
    rw [less_trans this hin.2] at hw1
    cases hw1
theorem check_range {l : List ItR} (h : Stood l) (hz : ∀ x ∈ l, x.below = 0) (fr tu : List UInt8) : rangeC (rootB l) fr tu (prfB l fr tu) = some (l.filter (inR fr tu)) := by
 obtain ⟨ps, h1, h2, h3⟩ := root_page (l := l)
 have hr := read_range h fr tu _ ps h1 _ h2 []
 have ht := told_filter h fr tu _ ps h1 _ h2
 rw [h3] at ht
 have hb : bare l = l := by
  unfold bare
  have : ∀ x ∈ l, (⟨x.key, x.more, 0⟩ : ItR) = x := fun x hx => by
   have := hz x hx
   cases x
   simp only at this
   subst this
   rfl
  exact (List.map_congr_left this).trans (List.map_id _)
 rw [hb] at ht
 unfold rangeC prfB
 rw [rangeF_tail]
 unfold rootB
 rw [frame_read (h.pages h1 _ h2)]
 rw [List.append_nil] at hr
 simp only [hr, if_true, ht]
end Go.Proofs.Ytekegfbjbainhaa


namespace Go.Proofs.Ytekegfbjbainhaa
open Go.RowKit
attribute [local go_sem ↓] Go.wp_at_zero Go.wp_at_succ
theorem findM_at {key : List UInt8} {l : List ItR} {k : Nat} (hk : k < l.length) (hne : ∀ y ∈ l.take k, y.key ≠ key) (he : l[k].key = key) : findM key l = some l[k].more := by
 have e : l = l.take k ++ l[k] :: l.drop (k + 1) := by rw [List.getElem_cons_drop, List.take_append_drop]
 conv => lhs; rw [e]
 rw [findM_right hne]
 unfold findM
 rw [List.find?_cons_of_pos (by simpa using he)]
 rfl
theorem ans_one (b : Bool) (s : SlR) : ∀ v ∈ [Value.bool b, .slice s.a s.n s.cap], v.oneCell' = true := fun v hv => by
 simp only [List.mem_cons, List.not_mem_nil, or_false] at hv
 rcases hv with rfl | rfl <;> rfl
set_option maxRecDepth 100000 in
set_option maxHeartbeats 1600000 in
theorem stood_any (v sk : SlR) (es : List (SlR × SlR)) (l : List ItR) (key : List UInt8) (w : World) (hv : SlV w v.a (entsC es)) (hn : v.n = es.length) (hb : BsL w es l) (hK : BS w sk key) (hl : l.length ≤ 60) :
  Calls Try.prog 12 #[v.val, sk.val] w fun e w' => ∃ x : SlR, e = .returned (.agg #[.bool (findM key l).isSome, x.val]) ∧ BS w' x ((findM key l).getD []) ∧ Below w.heap.size w w' := by
 have HV : Hid (SlV w v.a (entsC es)) := hv
 have HBS : Hid (BsL w es l) := hb
 have HKK : Hid (BS w sk key) := hK
 have hel : es.length = l.length := hb.1
 have hlI : (l.length : Int) ≤ 60 := by omega
 obtain ⟨va, vn, vc⟩ := v
 simp only at hn
 obtain rfl : vn = l.length := by rw [hn, hel]
 have HBA : Hid (Below w.heap.size w (w.alloc (.cells #[.bool false, .slice none 0 0] 40))) := (Below.refl _ _).alloc (Nat.le_refl _) _
 have HRA : Hid (RowV (w.alloc (.cells #[.bool false, .slice none 0 0] 40)) w.heap.size 40 [.bool false, .slice none 0 0]) := RowV.new w _ _
 clear hv hn hb hK
 unfold SlR.val
 go_enter Try.func12, Try.ntmps12
 go_wp2
 go_loopw [5] (fun i wr => ∃ k m : Nat, k ≤ l.length ∧ i = .int .i64 (k : Int) ∧ wr = (w.alloc (.cells #[.bool false, .slice none 0 0] 40)).drewN m ∧ Hid (∀ y ∈ l.take k, y.key ≠ key)) (fun i _ => l.length - (intOf i).toNat)
 case atStart => exact ⟨0, 0, by omega, rfl, rfl, fun y hy => by simp at hy⟩
 case round =>
  obtain ⟨k, m, hk, rfl, rfl, HN⟩ := hrel
  have HBM : Hid (∀ q, Below w.heap.size w ((w.alloc (.cells #[.bool false, .slice none 0 0] 40)).drewN q)) := fun q => HBA.out.trans ((bel_drewN _ q).mono HBA.out.size)
  have HRM : Hid (∀ q, RowV ((w.alloc (.cells #[.bool false, .slice none 0 0] 40)).drewN q) w.heap.size 40 [.bool false, .slice none 0 0]) := fun q => RowV.below HRA.out HRA.out.lt (bel_drewN _ q)
  by_cases hlt : k < l.length
  ·have hltI : (k : Int) < l.length := by omega
   have hkn : k < es.length := by omega
   obtain ⟨b, o, hca, hbb, c0, c1⟩ := entsC_cells HV.out k hkn
   subst hca
   have d0 : ∀ q, ((w.alloc (.cells #[.bool false, .slice none 0 0] 40)).drewN q).cell? ⟨b, o + k * 2, none⟩ = some (.slice es[k].1.a es[k].1.n es[k].1.cap) := fun q => by rw [(HBM.out q).cell (p := ⟨b, o + k * 2, none⟩) hbb]; exact c0
   have d1 : ∀ q, ((w.alloc (.cells #[.bool false, .slice none 0 0] 40)).drewN q).cell? ⟨b, o + k * 2 + 1, none⟩ = some (.slice es[k].2.a es[k].2.n es[k].2.cap) := fun q => by rw [(HBM.out q).cell (p := ⟨b, o + k * 2 + 1, none⟩) hbb]; exact c1
   obtain ⟨p1, p2⟩ := HBS.out.2 k hkn hlt
   have e1 := fun q => bs_run p1 (HBM.out q)
   have e2 := fun q => bs_run HKK.out (HBM.out q)
   have HP2 : Hid (BS w es[k].2 l[k].more) := p2
   have HAT : Hid (l[k].key = key → findM key l = some l[k].more) := fun he => findM_at hlt HN.out he
   have HTK : Hid (l.take (k + 1) = l.take k ++ [l[k]]) := List.take_succ_eq_append_getElem hlt
   clear c0 c1 p1 p2
   generalize es[k].1 = s1 at *
   generalize es[k].2 = s2 at *
   generalize l[k] = x at *
   obtain ⟨xk, xm, xb⟩ := x
   simp only at e1 HP2 HAT
   have dd0 := d0 m
   have dd1 := d1 m
   by_cases hx : xk = key
   ·have HF : Hid (findM key l = some xm) := HAT.out hx
    have hbb1 : (xk == key) = true := by simpa using hx
    clear HAT hx
    go_wp2_with fail
    go_quiet (fail)
    have dq := d1 (m + nq)
    go_wp2_with (first
     | (refine wp_storeR (by rfl) 40 (.tmp 4) (.tmp 26) (by rfl) w.heap.size (by rfl) [.bool true, .slice s2.a s2.n s2.cap] (by rfl) (l := [.bool false, .slice none 0 0]) (HRM.out (m + nq)) rfl Try.sizeAnswer (ans_one true s2) ?_; intro w2 hr2 hf2 hz2))
    have hB2 : Below w.heap.size w w2 := (HBM.out (m + nq)).trans (Below.trans (b := _) (by exact Below.refl _ _) (hf2.below (HBM.out (m + nq)).size (fun k hk => by omega)))
    refine ret_agg (k := 4) (cs := [.bool true, .slice s2.a s2.n s2.cap]) rfl rfl hr2 Try.underlying40 rfl Try.sizeAnswer rfl ⟨s2, by rw [HF.out]; rfl, ?_, hB2⟩
    rw [HF.out]
    exact HP2.out.below hB2
   ·have hbb1 : (xk == key) = false := by simpa using hx
    have HNX : Hid (∀ y ∈ l.take (k + 1), y.key ≠ key) := fun y hy => by
     rw [HTK.out] at hy
     rcases List.mem_append.1 hy with hy | hy
     ·exact HN.out y hy
     ·rw [List.mem_singleton.1 hy]; exact hx
    clear HAT hx
    go_wp2_with fail
    go_quiet (fail)
    go_wp2
    refine ⟨⟨k + 1, m + nq, by omega, by go_num, rfl, HNX⟩, by simp [intOf]; omega⟩
  ·have hltI : ¬ (k : Int) < l.length := by omega
   have HF : Hid (findM key l = none) := findM_none (fun y hy => HN.out y (by rw [List.take_of_length_le (by omega)]; exact hy))
   go_wp2_with (first
    | (refine wp_storeR (by rfl) 40 (.tmp 4) (.tmp 27) (by rfl) w.heap.size (by rfl) [.bool false, .slice none 0 0] (by rfl) (l := [.bool false, .slice none 0 0]) (HRM.out m) rfl Try.sizeAnswer (ans_one false ⟨none, 0, 0⟩) ?_; intro w2 hr2 hf2 hz2))
   have hB2 : Below w.heap.size w w2 := (HBM.out m).trans (hf2.below (HBM.out m).size (fun k hk => by omega))
   refine ret_agg (k := 4) (cs := [.bool false, .slice none 0 0]) rfl rfl hr2 Try.underlying40 rfl Try.sizeAnswer rfl ⟨⟨none, 0, 0⟩, by rw [HF.out]; rfl, ?_, hB2⟩
   rw [HF.out]
   exact ⟨SlB.nil _ _, rfl, fun _ => rfl, fun x hx => by cases hx⟩
set_option maxRecDepth 100000 in
set_option maxHeartbeats 1600000 in
theorem same_answer (b1 b2 : Bool) (v1 v2 : SlR) (x1 x2 : List UInt8) (w : World) (h1 : BS w v1 x1) (h2 : BS w v2 x2) :
  Calls Try.prog 18 #[.agg #[.bool b1, v1.val], .agg #[.bool b2, v2.val]] w fun e w' => e = .returned (.bool ((b1 == b2) && (x1 == x2))) ∧ Below w.heap.size w w' := by
 have hB : Below w.heap.size w ((w.alloc (.cells #[.bool b1, .slice v1.a v1.n v1.cap] 40)).alloc (.cells #[.bool b2, .slice v2.a v2.n v2.cap] 40)) := ((Below.refl _ _).alloc (Nat.le_refl _) _).alloc (by simp) _
 have e1 := bs_run h1 hB
 have e2 := bs_run h2 hB
 have HB : Hid (Below w.heap.size w ((w.alloc (.cells #[.bool b1, .slice v1.a v1.n v1.cap] 40)).alloc (.cells #[.bool b2, .slice v2.a v2.n v2.cap] 40))) := hB
 clear h1 h2 hB
 unfold SlR.val
 by_cases hb : b1 = b2
 ·have hbb : (b1 == b2) = true := by simpa using hb
  clear hb
  go_enter Try.func18, Try.ntmps18
  go_wp2
  go_ret
  refine ⟨?_, HB.out⟩
  rw [hbb]
  simp
 ·have hbb : (b1 == b2) = false := by simpa using hb
  go_enter Try.func18, Try.ntmps18
  go_wp2
  go_ret
  refine ⟨?_, HB.out⟩
  rw [hbb]
  rfl
end Go.Proofs.Ytekegfbjbainhaa
