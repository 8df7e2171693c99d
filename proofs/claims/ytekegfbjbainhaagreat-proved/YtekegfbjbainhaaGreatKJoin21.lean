import Derived.Test.YtekegfbjbainhaaGreatKJoin20
import Derived.Test.YtekegfbjbainhaaGreatKJoin6
import Derived.Deep.RegionHeld3
import Derived.Deep.DrawnRows
/- The proofs of ranges and keys, as plain lists of bytes; the tree of entries with rising keys: plain facts. -/
namespace Go.Proofs.YtekegfbjbainhaaGreat
set_option linter.unusedVariables false
set_option linter.unusedSimpArgs false
open Go.RowKit

/-- A page of the tree, by its level and its place. -/
def pageAt (lvls : List (List (List ItR))) (n j : Nat) : List ItR := ((lvls[n]?.getD [])[j]?).getD []
def belowAt (p : List ItR) (i : Nat) : Nat := (p[i]?.map (·.below)).getD 0
/-- The proof of a range, from a page on; of a key. -/
def rangeF (lvls : List (List (List ItR))) (fr tu : List UInt8) : Nat → List ItR → List UInt8
  | 0, p => frameB 0 p
  | n + 1, p => frameB (n + 1) p ++ (List.range p.length).flatMap (fun i => if withB p i fr tu = true then rangeF lvls fr tu n (pageAt lvls n (belowAt p i)) else [])
def pointF (lvls : List (List (List ItR))) (key : List UInt8) : Nat → List ItR → List UInt8
  | 0, p => frameB 0 p
  | n + 1, p => frameB (n + 1) p ++ (if placeN p key < p.length then pointF lvls key n (pageAt lvls n (belowAt p (placeN p key))) else [])
/-- The pages behind a page's first k entries. -/
def behindF (lvls : List (List (List ItR))) (fr tu : List UInt8) (n : Nat) (p : List ItR) (k : Nat) : List UInt8 := (List.range k).flatMap (fun i => if withB p i fr tu = true then rangeF lvls fr tu n (pageAt lvls n (belowAt p i)) else [])
theorem rangeF_succ (lvls : List (List (List ItR))) (fr tu : List UInt8) (n : Nat) (p : List ItR) : rangeF lvls fr tu (n + 1) p = frameB (n + 1) p ++ behindF lvls fr tu n p p.length := rfl
theorem behind_zero (lvls : List (List (List ItR))) (fr tu : List UInt8) (n : Nat) (p : List ItR) : behindF lvls fr tu n p 0 = [] := rfl
theorem behind_yes (lvls : List (List (List ItR))) (fr tu : List UInt8) (n : Nat) (p : List ItR) (k : Nat) (h : withB p k fr tu = true) : behindF lvls fr tu n p (k + 1) = behindF lvls fr tu n p k ++ rangeF lvls fr tu n (pageAt lvls n (belowAt p k)) := by
  unfold behindF
  rw [List.range_succ, List.flatMap_append]
  simp [h]
theorem behind_no (lvls : List (List (List ItR))) (fr tu : List UInt8) (n : Nat) (p : List ItR) (k : Nat) (h : withB p k fr tu = false) : behindF lvls fr tu n p (k + 1) = behindF lvls fr tu n p k := by
  unfold behindF
  rw [List.range_succ, List.flatMap_append]
  simp [h]
theorem behind_le (lvls : List (List (List ItR))) (fr tu : List UInt8) (n : Nat) (p : List ItR) (k m : Nat) (h : k ≤ m) : (behindF lvls fr tu n p k).length ≤ (behindF lvls fr tu n p m).length := by
  obtain ⟨d, rfl⟩ := Nat.exists_eq_add_of_le h
  unfold behindF
  rw [List.range_add, List.flatMap_append, List.length_append]
  omega

/-- Keys that rise, as a list of entries (the same word as the program's side has). -/
def RiseK (l : List ItR) : Prop := l.Pairwise (fun x y => Op.bytesLess x.key y.key = true)
/-- The levels of a tree: what every one of them has. -/
structure LvlsOk (lvls : List (List (List ItR))) : Prop where
  len : lvls.length ≤ 7
  cnt : ∀ (n : Nat) (ps : List (List ItR)), lvls[n]? = some ps → ps.length ≤ 61
  ok : ∀ (n : Nat) (ps : List (List ItR)), lvls[n]? = some ps → ∀ p ∈ ps, p.length ≤ 60 ∧ (∀ x ∈ p, ItOk x) ∧ RiseK p
  bel : ∀ (n : Nat) (ps up : List (List ItR)), lvls[n]? = some ps → lvls[n + 1]? = some up → ∀ p ∈ up, ∀ x ∈ p, x.below < ps.length ∧ x.key = lastK (ps[x.below]?.getD [])

theorem partF_flatten (level : Nat) : ∀ (r cur : List ItR), (partF level r cur).flatten = cur ++ r
  | [], cur => by simp [partF]
  | x :: r, cur => by
    unfold partF
    split
    · rw [List.flatten_cons, partF_flatten level r []]; simp
    · rw [partF_flatten level r (cur ++ [x])]; simp
theorem next_get (level : Nat) : ∀ (ps : List (List ItR)) (i k : Nat), (nextF level i ps)[k]? = ps[k]?.map (fun p => ⟨lastK p, digB (codeB level p), i + k⟩)
  | [], i, k => by simp [nextF]
  | p :: r, i, 0 => by simp [nextF]
  | p :: r, i, k + 1 => by
    unfold nextF
    rw [List.getElem?_cons_succ, next_get level r (i + 1) k, List.getElem?_cons_succ]
    have : i + 1 + k = i + (k + 1) := by omega
    rw [this]
theorem lastK_mem {p : List ItR} (h : p ≠ []) : ∃ x ∈ p, lastK p = x.key := by
  refine ⟨p.getLast h, List.getLast_mem h, ?_⟩
  unfold lastK
  rw [List.getLast?_eq_some_getLast h]
  rfl
theorem next_rise (level : Nat) : ∀ (ps : List (List ItR)) (i : Nat), ps.Pairwise (fun a b => ∀ x ∈ a, ∀ y ∈ b, Op.bytesLess x.key y.key = true) → (∀ p ∈ ps, p ≠ []) → RiseK (nextF level i ps)
  | [], _, _, _ => List.Pairwise.nil
  | p :: r, i, h, hne => by
    obtain ⟨h1, h2⟩ := List.pairwise_cons.1 h
    refine List.pairwise_cons.2 ⟨?_, next_rise level r (i + 1) h2 (fun q hq => hne q (by simp [hq]))⟩
    intro y hy
    obtain ⟨k, hk⟩ := List.getElem?_of_mem hy
    rw [next_get] at hk
    obtain ⟨q, hq, rfl⟩ := Option.map_eq_some_iff.1 hk
    have hqm := List.mem_of_getElem? hq
    obtain ⟨x, hx, ex⟩ := lastK_mem (hne p (by simp))
    obtain ⟨z, hz, ez⟩ := lastK_mem (hne q (by simp [hqm]))
    show Op.bytesLess (lastK p) (lastK q) = true
    rw [ex, ez]
    exact h1 q hqm x hx z hz
theorem parted_rise (level : Nat) (l : List ItR) (h : RiseK l) : (∀ p ∈ partedN level l, RiseK p) ∧ (partedN level l).Pairwise (fun a b => ∀ x ∈ a, ∀ y ∈ b, Op.bytesLess x.key y.key = true) := by
  have e : (partedN level l).flatten = l := by unfold partedN; rw [partF_flatten]; rfl
  unfold RiseK at h
  rw [← e, List.pairwise_flatten] at h
  exact h

/-- The levels from a level on. -/
theorem grownF_lv : ∀ (f level : Nat) (l : List ItR), RiseK l → (∀ x ∈ l, ItOk x) → l.length ≤ 60 →
    (∀ (n : Nat) (ps : List (List ItR)), (grownF f level l)[n]? = some ps → ps.length ≤ 61 ∧ ∀ p ∈ ps, p.length ≤ 60 ∧ (∀ x ∈ p, ItOk x) ∧ RiseK p) ∧
    (∀ (n : Nat) (ps up : List (List ItR)), (grownF f level l)[n]? = some ps → (grownF f level l)[n + 1]? = some up → ∀ p ∈ up, ∀ x ∈ p, x.below < ps.length ∧ x.key = lastK (ps[x.below]?.getD []))
  | 0, level, l, _, _, _ => by simp [grownF]
  | f + 1, level, l, hr, hok, h60 => by
    have hpl := partF_length level l []
    have hpart : (partedN level l).length ≤ 61 ∧ ∀ p ∈ partedN level l, p.length ≤ 60 ∧ (∀ x ∈ p, ItOk x) ∧ RiseK p := by
      refine ⟨by unfold partedN; omega, fun p hp => ⟨?_, fun x hx => ?_, (parted_rise level l hr).1 p hp⟩⟩
      · have := partF_size level l [] p hp; simp at this; omega
      · rcases partF_mem level l [] p hp x hx with h | h
        · exact hok x h
        · cases h
    unfold grownF
    by_cases h1 : (partedN level l).length = 1
    · rw [if_pos h1]
      refine ⟨fun n ps h => ?_, fun n ps up h h' => ?_⟩
      · cases n with
        | zero => simp at h; subst h; exact hpart
        | succ n => simp at h
      · simp at h'
    · rw [if_neg h1]
      have hne : l ≠ [] := fun e => by subst e; simp [partedN, partF] at h1
      have hpne : ∀ p ∈ partedN level l, p ≠ [] := partF_ne level l [] (Or.inl hne)
      have hb := partF_bound level l [] hne
      have hnl : (nextF level 0 (partedN level l)).length ≤ 60 := by
        have : ∀ (i : Nat) (ps : List (List ItR)), (nextF level i ps).length = ps.length := fun i ps => by
          induction ps generalizing i with
          | nil => rfl
          | cons p r ih => simp [nextF, ih]
        rw [this]; unfold partedN; omega
      have hnok : ∀ x ∈ nextF level 0 (partedN level l), ItOk x ∧ x.below < (partedN level l).length ∧ x.key = lastK ((partedN level l)[x.below]?.getD []) := fun x hx => by
        obtain ⟨k, hk⟩ := List.getElem?_of_mem hx
        rw [next_get] at hk
        obtain ⟨q, hq, rfl⟩ := Option.map_eq_some_iff.1 hk
        have hqm := List.mem_of_getElem? hq
        obtain ⟨z, hz, ez⟩ := lastK_mem (hpne q hqm)
        refine ⟨⟨?_, ?_⟩, ?_, ?_⟩
        · show (lastK q).length ≤ 12
          rw [ez]
          exact ((hpart.2 q hqm).2.1 z hz).1
        · show (digB _).length ≤ 12
          rw [digB_length]; omega
        · show 0 + k < _
          rw [Nat.zero_add]
          exact (List.getElem?_eq_some_iff.1 hq).1
        · show lastK q = lastK ((partedN level l)[0 + k]?.getD [])
          rw [Nat.zero_add, hq]; rfl
      obtain ⟨i1, i2⟩ := grownF_lv f (level + 1) (nextF level 0 (partedN level l)) (next_rise level _ 0 (parted_rise level l hr).2 hpne) (fun x hx => (hnok x hx).1) hnl
      refine ⟨fun n ps h => ?_, fun n ps up h h' => ?_⟩
      · cases n with
        | zero => simp at h; subst h; exact hpart
        | succ n => rw [List.getElem?_cons_succ] at h; exact i1 n ps h
      · cases n with
        | zero =>
          simp only [List.getElem?_cons_zero, Option.some.injEq] at h
          subst h
          rw [List.getElem?_cons_succ] at h'
          cases f with
          | zero => simp [grownF] at h'
          | succ f =>
            have hup : up = partedN (level + 1) (nextF level 0 (partedN level l)) := by
              unfold grownF at h'
              split at h'
              · simpa using h'.symm
              · simpa using h'.symm
            intro p hp x hx
            rw [hup] at hp
            rcases partF_mem (level + 1) _ [] p hp x hx with g | g
            · exact (hnok x g).2
            · cases g
        | succ n =>
          rw [List.getElem?_cons_succ] at h h'
          exact i2 n ps up h h'
theorem grown_lv (l : List ItR) (hr : RiseK l) (hok : ∀ x ∈ l, ItOk x) (h60 : l.length ≤ 60) : LvlsOk (grownN l) := by
  obtain ⟨h1, h2⟩ := grownF_lv 7 0 l hr hok h60
  exact ⟨(grownF_length 7 0 l (by omega)).2, fun n ps h => (h1 n ps h).1, fun n ps h => (h1 n ps h).2, h2⟩

/-- How long a proof can be. -/
theorem frameB_length (level : Nat) (l : List ItR) (h : ∀ x ∈ l, ItOk x) (h60 : l.length ≤ 60) : (frameB level l).length ≤ 1600 := by
  have := prefB_length level l.length l h
  unfold prefB at this
  unfold frameB codeB
  simp only [List.length_cons] at this ⊢
  omega
theorem pageAt_ok {lvls : List (List (List ItR))} (h : LvlsOk lvls) (n j : Nat) : (pageAt lvls n j).length ≤ 60 ∧ (∀ x ∈ pageAt lvls n j, ItOk x) ∧ RiseK (pageAt lvls n j) := by
  unfold pageAt
  cases e : lvls[n]? with
  | none => simp [RiseK]
  | some ps =>
    cases e2 : ps[j]? with
    | none => simp [e2, RiseK]
    | some p => simpa [e2] using h.ok n ps e p (List.mem_of_getElem? e2)
theorem flat_bound {α : Type} (f : Nat → List α) (B : Nat) : ∀ (k : Nat), (∀ i, (f i).length ≤ B) → ((List.range k).flatMap f).length ≤ k * B
  | 0, _ => by simp
  | k + 1, h => by
    have ih := flat_bound f B k h
    have := h k
    have e : (List.flatMap f [k]).length = (f k).length := by simp
    rw [List.range_succ, List.flatMap_append, List.length_append, Nat.add_mul, e]
    omega
theorem rangeF_length {lvls : List (List (List ItR))} (h : LvlsOk lvls) (fr tu : List UInt8) : ∀ (n : Nat) (p : List ItR), p.length ≤ 60 → (∀ x ∈ p, ItOk x) → (rangeF lvls fr tu n p).length ≤ 1600 * 61 ^ n
  | 0, p, h60, hok => by
    have := frameB_length 0 p hok h60
    simpa [rangeF] using this
  | n + 1, p, h60, hok => by
    have h1 := frameB_length (n + 1) p hok h60
    have h2 := flat_bound (fun i => if withB p i fr tu = true then rangeF lvls fr tu n (pageAt lvls n (belowAt p i)) else []) (1600 * 61 ^ n) p.length (fun i => by
      split
      · exact rangeF_length h fr tu n _ (pageAt_ok h n _).1 (pageAt_ok h n _).2.1
      · simp)
    have h3 : p.length * (1600 * 61 ^ n) ≤ 60 * (1600 * 61 ^ n) := Nat.mul_le_mul_right _ h60
    have h4 : 1600 ≤ 1600 * 61 ^ n := Nat.le_mul_of_pos_right _ (Nat.pow_pos (by omega))
    rw [rangeF, List.length_append, Nat.pow_succ]
    omega
theorem range_small {lvls : List (List (List ItR))} (h : LvlsOk lvls) (fr tu : List UInt8) (n : Nat) (hn : n ≤ 6) (p : List ItR) (h60 : p.length ≤ 60) (hok : ∀ x ∈ p, ItOk x) : (rangeF lvls fr tu n p).length ≤ 100000000000000 := by
  have h1 := rangeF_length h fr tu n p h60 hok
  have h2 : 61 ^ n ≤ 61 ^ 6 := Nat.pow_le_pow_right (by omega) hn
  have h3 : 1600 * 61 ^ n ≤ 1600 * 61 ^ 6 := Nat.mul_le_mul_left _ h2
  have h4 : 1600 * 61 ^ 6 ≤ 100000000000000 := by decide
  omega

/-- The proof of a key is that of the range from it to itself. -/
theorem with_self {p : List ItR} (hr : RiseK p) (key : List UInt8) (i : Nat) (hi : i < p.length) (hplace : ∀ i (h : i < p.length), lessK key p[i] = decide (i < placeN p key)) : withB p i key key = decide (i = placeN p key) := by
  unfold withB
  rw [keyAt_lt hi]
  have h1 := hplace i hi
  unfold lessK at h1
  rw [h1]
  cases i with
  | zero => by_cases e : 0 = placeN p key <;> simp [e] <;> omega
  | succ j =>
    have h2 := hplace j (by omega)
    unfold lessK at h2
    rw [show j + 1 - 1 = j by omega, keyAt_lt (by omega : j < p.length), h2]
    by_cases e : j + 1 = placeN p key
    · simp [e]; omega
    · simp [e]; omega
theorem flat_single {α : Type} (f : Nat → List α) (m : Nat) : ∀ (k : Nat), (∀ i, i < k → i ≠ m → f i = []) → (List.range k).flatMap f = if m < k then f m else []
  | 0, _ => by simp
  | k + 1, h => by
    rw [List.range_succ, List.flatMap_append, flat_single f m k (fun i hi hm => h i (by omega) hm)]
    by_cases e : m = k
    · subst e; simp
    · have := h k (by omega) (fun e' => e e'.symm)
      by_cases hlt : m < k
      · rw [if_pos hlt, if_pos (by omega)]; simp [this]
      · rw [if_neg hlt, if_neg (by omega)]; simp [this]
theorem point_range {lvls : List (List (List ItR))} (h : LvlsOk lvls) (key : List UInt8) (hplace : ∀ (p : List ItR), RiseK p → ∀ i (h : i < p.length), lessK key p[i] = decide (i < placeN p key)) : ∀ (n : Nat) (p : List ItR), RiseK p → pointF lvls key n p = rangeF lvls key key n p
  | 0, p, _ => rfl
  | n + 1, p, hr => by
    unfold pointF rangeF
    rw [flat_single _ (placeN p key) p.length]
    · split
      · rename_i hlt
        rw [with_self hr key _ hlt (hplace p hr)]
        simp only [decide_true, if_true]
        rw [point_range h key hplace n _ (pageAt_ok h n _).2.2]
      · rfl
    · intro i hi hm
      rw [with_self hr key i hi (hplace p hr)]
      simp [hm]
end Go.Proofs.YtekegfbjbainhaaGreat

/- The reference's proof of a range, walked. -/
namespace Go.Proofs.YtekegfbjbainhaaGreat
set_option linter.unusedVariables false
set_option linter.unusedSimpArgs false
open Go.RowKit

/-- A page of the reference's tree, where it lies. -/
structure RPage (lvls : List LevR) (n j : Nat) (s : SlR) (ps : List (SlR × List ItR)) (q : SlR × List ItR) : Prop where
  lv : lvls[n]? = some (s, ps)
  pg : ps[j]? = some q
theorem RPage.page {lvls : List LevR} {n j : Nat} {s : SlR} {ps : List (SlR × List ItR)} {q : SlR × List ItR} (h : RPage lvls n j s ps q) : pageAt (lvN lvls) n j = q.2 ∧ (lvN lvls)[n]? = some (ps.map (·.2)) := by
  have e : (lvN lvls)[n]? = some (ps.map (·.2)) := by
    unfold lvN
    rw [List.getElem?_map, h.lv]; rfl
  refine ⟨?_, e⟩
  unfold pageAt
  rw [e]
  simp [h.pg]
theorem RPage.ok {lvls : List LevR} {n j : Nat} {s : SlR} {ps : List (SlR × List ItR)} {q : SlR × List ItR} (h : RPage lvls n j s ps q) (hL : LvlsOk (lvN lvls)) : q.2.length ≤ 60 ∧ (∀ x ∈ q.2, ItOk x) ∧ RiseK q.2 := by
  have := pageAt_ok hL n j
  rw [h.page.1] at this
  exact this
theorem RPage.sl {lvls : List LevR} {n j : Nat} {s : SlR} {ps : List (SlR × List ItR)} {q : SlR × List ItR} (h : RPage lvls n j s ps q) {w : World} {base : Nat} {lv : SlR} (hR : RTree w base lv lvls) : SlI w q.1.a q.2 ∧ q.1.n = q.2.length := by
  have hn := (List.getElem?_eq_some_iff.1 h.lv).1
  have h1 := hR.ok n hn
  rw [(List.getElem?_eq_some_iff.1 h.lv).2] at h1
  exact SlV.ofOwn (s := q.1) (h1.2 q (List.mem_of_getElem? h.pg))
/-- The page that an entry stands for. -/
theorem RPage.down {lvls : List LevR} {n j : Nat} {s : SlR} {ps : List (SlR × List ItR)} {q : SlR × List ItR} (h : RPage lvls (n + 1) j s ps q) (hL : LvlsOk (lvN lvls)) (i : Nat) (hi : i < q.2.length) : ∃ s' ps' q', RPage lvls n (q.2[i].below) s' ps' q' ∧ pageAt (lvN lvls) n (belowAt q.2 i) = q'.2 ∧ ps'.length ≤ 61 := by
  have hn := (List.getElem?_eq_some_iff.1 h.lv).1
  obtain ⟨s', ps', e0⟩ : ∃ s' ps', lvls[n]? = some (s', ps') := ⟨(lvls[n]'(by omega)).1, (lvls[n]'(by omega)).2, by rw [List.getElem?_eq_getElem (by omega)]⟩
  have e1 : (lvN lvls)[n]? = some (ps'.map (·.2)) := by
    unfold lvN
    rw [List.getElem?_map, e0]; rfl
  have hb := (hL.bel n _ _ e1 h.page.2 q.2 (List.mem_of_getElem? (by rw [List.getElem?_map, h.pg]; rfl)) q.2[i] (List.getElem_mem hi)).1
  rw [List.length_map] at hb
  refine ⟨s', ps', ps'[q.2[i].below], ⟨e0, List.getElem?_eq_getElem hb⟩, ?_, by have := hL.cnt n _ e1; simpa using this⟩
  have e2 : belowAt q.2 i = q.2[i].below := by unfold belowAt; rw [List.getElem?_eq_getElem hi]; rfl
  rw [e2]
  exact (RPage.page ⟨e0, List.getElem?_eq_getElem hb⟩).1

/-- What stands while a range is put together. -/
structure RanSt (w : World) (T P : List Value) (W : World) : Prop where
  bel : Below w.heap.size w W
  tr : RowV W w.heap.size 146 T
  pg : RowV W (w.heap.size + 1) 80 P
theorem RanSt.next {w W W' : World} {T P : List Value} (h : RanSt w T P W) (hb : Below W.heap.size W W') : RanSt w T P W' := ⟨h.bel.trans (hb.mono h.bel.size), h.tr.below h.tr.lt hb, h.pg.below h.pg.lt hb⟩
theorem RanSt.drew {w W : World} {T P : List Value} (h : RanSt w T P W) : RanSt w T P W.drew := ⟨h.bel.drew, h.tr, h.pg⟩
theorem RanSt.frame {w W W' : World} {T P : List Value} {v : Value} {l : List UInt8} {base : Nat} (h : RanSt w T P W) (ho : OwnB W base v l) (hb : w.heap.size ≤ base) (hf : Frame (fun k => v.ownBlock = some k) W W') : RanSt w T P W' :=
  ⟨h.bel.trans (hf.below h.bel.size (fun k hk => by have := (ho.lt k hk).1; omega)), h.tr.of_block (hf.block _ h.tr.lt (fun e => owns_ne ho h.tr (by decide) e)), h.pg.of_block (hf.block _ h.pg.lt (fun e => owns_ne ho h.pg (by decide) e))⟩

theorem below_drew1 {B : Nat} {w w' : World} (h : Below B w.drew w') : Below B w w' := ⟨h.os, h.tape, h.output, h.size, h.block⟩
attribute [local go_sem ↓] Go.wp_at_zero Go.wp_at_succ
set_option maxRecDepth 100000 in
set_option maxHeartbeats 2000000 in
theorem refRange_any (lv : SlR) (lvls : List LevR) (base : Nat) (fr tu : List UInt8) (hL : LvlsOk (lvN lvls)) : ∀ (n j : Nat) (s : SlR) (ps : List (SlR × List ItR)) (q : SlR × List ItR) (w : World), n ≤ 6 → RTree w base lv lvls → RPage lvls n j s ps q →
    Calls Tryz.prog 93 #[.agg #[.slice lv.a lv.n lv.cap], .agg #[.int .i64 (n : Int), .slice q.1.a q.1.n q.1.cap], strV fr, strV tu] w fun e w' => ∃ a' n' c', e = .returned (.slice a' n' c') ∧ OwnB w' w.heap.size (.slice a' n' c') (rangeF (lvN lvls) fr tu n q.2) ∧ Below w.heap.size w w'
  | 0, j, s, ps, q, w, hn, hR, hq => by
    obtain ⟨hsl, hsn⟩ := hq.sl hR
    obtain ⟨h60, hok, hri⟩ := hq.ok hL
    obtain ⟨⟨qa, qn, qc⟩, l⟩ := q
    simp only at hsl hsn h60 hok hri ⊢
    subst hsn
    have hS0 : RanSt w [.slice lv.a lv.n lv.cap] [.int .i64 0, .slice qa l.length qc] ((w.alloc (.cells #[.slice lv.a lv.n lv.cap] 146)).alloc (.cells #[.int .i64 0, .slice qa l.length qc] 80)) :=
      ⟨((Below.refl _ _).alloc (Nat.le_refl _) _).alloc (by simp) _, (RowV.new w _ _).alloc _, RowV.new_at _ _ _ _ (by simp)⟩
    have HF : Hid (Calls _ _ _ _ _) := framed_any 0 qa l.length qc l _ rfl (by omega) (by omega) hok (SlV.below_all hsl hS0.bel)
    have hnI : (l.length : Int) ≤ 60 := by omega
    clear hok hri hsl
    rw [show ((0 : Nat) : Int) = 0 from rfl] at HF ⊢
    unfold strV
    go_enter Tryz.func93, Tryz.ntmps93
    go_wp2_with fail
    refine HF.out.mono ?_
    rintro e w1 ⟨a1, n1, c1, rfl, ho1, hb1⟩
    have hS1 := hS0.next hb1
    have c0 : w1.cell? ⟨w.heap.size + 1, 0, none⟩ = some (.int .i64 0) := hS1.pg.cell 0 (by simp)
    have c1' : w1.cell? ⟨w.heap.size + 1, 1, none⟩ = some (.slice qa l.length qc) := hS1.pg.cell 1 (by simp)
    have HO : Hid (OwnB w1 w.heap.size (.slice a1 n1 c1) (frameB 0 l)) := owns_base ho1 (fun k hk => by have := (ho1.lt k hk).1; simp at this; omega)
    have HB : Hid (Below w.heap.size w w1) := hS1.bel
    clear ho1 hb1 hS1 hS0
    go_wp2
    go_loopw [9, 10, 11, 12] (fun b i _ _ wr => b = .slice a1 n1 c1 ∧ i = .int .i64 0 ∧ wr = w1) (fun _ _ _ _ _ => 0)
    case atStart => exact ⟨rfl, rfl, rfl⟩
    case round =>
      obtain ⟨rfl, rfl, rfl⟩ := hrel
      by_cases hz : (0 : Int) < l.length
      · go_wp2
        go_ret
        exact ⟨a1, n1, c1, rfl, HO.out, HB.out⟩
      · go_wp2
        go_ret
        exact ⟨a1, n1, c1, rfl, HO.out, HB.out⟩
  | n + 1, j, s, ps, q, w, hn, hR, hq => by
    obtain ⟨hsl, hsn⟩ := hq.sl hR
    obtain ⟨h60, hok, hri⟩ := hq.ok hL
    have hdown := hq.down hL
    have htot := range_small hL fr tu (n + 1) hn q.2 h60 hok
    obtain ⟨⟨qa, qn, qc⟩, l⟩ := q
    simp only at hsl hsn h60 hok hri hdown htot ⊢
    subst hsn
    rw [rangeF_succ] at htot ⊢
    have e1 : ((n + 1 : Nat) : Int) = (n : Int) + 1 := by omega
    have hS0 : RanSt w [.slice lv.a lv.n lv.cap] [.int .i64 ((n : Int) + 1), .slice qa l.length qc] ((w.alloc (.cells #[.slice lv.a lv.n lv.cap] 146)).alloc (.cells #[.int .i64 ((n : Int) + 1), .slice qa l.length qc] 80)) :=
      ⟨((Below.refl _ _).alloc (Nat.le_refl _) _).alloc (by simp) _, (RowV.new w _ _).alloc _, RowV.new_at _ _ _ _ (by simp)⟩
    have HF : Hid (Calls _ _ _ _ _) := framed_any (n + 1) qa l.length qc l ((w.alloc (.cells #[.slice lv.a lv.n lv.cap] 146)).alloc (.cells #[.int .i64 ((n : Int) + 1), .slice qa l.length qc] 80)) rfl (by omega) (by omega) hok (SlV.below_all hsl hS0.bel)
    have HWI : Hid (∀ (W : World) (i : Nat), Below w.heap.size w W → i < l.length → Calls Tryz.prog 127 #[.agg #[.int .i64 ((n : Int) + 1), .slice qa l.length qc], .int .i64 (i : Int), .string ⟨fr.toArray⟩, .string ⟨tu.toArray⟩] W fun e w' => e = .returned (.bool (withB l i fr tu)) ∧ Below W.heap.size W w') := fun W i hb hi => by
      have := withinR_any (n + 1) qa qc l i hi fr tu W (by omega) (SlV.below_all hsl hb)
      rw [e1] at this
      exact this
    have HBE : Hid (∀ (W : World) (i : Nat) (hi : i < l.length) (s' : SlR) (ps' : List (SlR × List ItR)) (q' : SlR × List ItR), Below w.heap.size w W → RPage lvls n l[i].below s' ps' q' → ps'.length ≤ 61 → Calls Tryz.prog 125 #[.agg #[.slice lv.a lv.n lv.cap], .agg #[.int .i64 ((n : Int) + 1), .slice qa l.length qc], .int .i64 (i : Int)] W fun e w' => e = .returned (.agg #[.int .i64 (n : Int), .slice q'.1.a q'.1.n q'.1.cap]) ∧ Below W.heap.size W w') := fun W i hi s' ps' q' hb hp hc =>
      below_any lv lvls base n s' ps' qa qc l i hi q' W (hR.below hb) hp.lv (by omega) (by omega) (SlV.below_all hsl hb) (by omega) hp.pg
    have HRG : Hid (∀ (W : World) (j' : Nat) (s' : SlR) (ps' : List (SlR × List ItR)) (q' : SlR × List ItR), Below w.heap.size w W → RPage lvls n j' s' ps' q' → Calls Tryz.prog 93 #[.agg #[.slice lv.a lv.n lv.cap], .agg #[.int .i64 (n : Int), .slice q'.1.a q'.1.n q'.1.cap], .string ⟨fr.toArray⟩, .string ⟨tu.toArray⟩] W fun e w' => ∃ a' n' c', e = .returned (.slice a' n' c') ∧ OwnB w' W.heap.size (.slice a' n' c') (rangeF (lvN lvls) fr tu n q'.2) ∧ Below W.heap.size W w') := fun W j' s' ps' q' hb hp =>
      refRange_any lv lvls base fr tu hL n j' s' ps' q' W (by omega) (hR.below hb) hp
    have HDN : Hid (∀ (i : Nat) (hi : i < l.length), ∃ s' ps' q', RPage lvls n l[i].below s' ps' q' ∧ pageAt (lvN lvls) n (belowAt l i) = q'.2 ∧ ps'.length ≤ 61) := hdown
    have HT : Hid ((frameB (n + 1) l ++ behindF (lvN lvls) fr tu n l l.length).length ≤ 100000000000000) := htot
    have hnI : (l.length : Int) ≤ 60 := by omega
    have hnn : (n : Int) ≤ 6 := by omega
    rw [e1] at HF ⊢
    clear hok hri hsl hdown htot e1 hR hq
    unfold strV
    go_enter Tryz.func93, Tryz.ntmps93
    go_wp2_with fail
    refine HF.out.mono ?_
    rintro e w1 ⟨a1, n1, c1, rfl, ho1, hb1⟩
    have HS1 : Hid (RanSt w [.slice lv.a lv.n lv.cap] [.int .i64 ((n : Int) + 1), .slice qa l.length qc] w1) := hS0.next hb1
    have HO1 : Hid (OwnB w1 (w.heap.size + 2) (.slice a1 n1 c1) (frameB (n + 1) l)) := by unfold Hid; simpa using ho1
    clear ho1 hb1 hS0
    go_wp2
    go_loopw [9, 10, 11, 12] (fun b i _ _ wr => ∃ (k : Nat) (a' : Option Addr) (n' c' : Nat), k ≤ l.length ∧ b = .slice a' n' c' ∧ i = .int .i64 k ∧ Hid (RanSt w [.slice lv.a lv.n lv.cap] [.int .i64 ((n : Int) + 1), .slice qa l.length qc] wr) ∧ Hid (OwnB wr (w.heap.size + 2) (.slice a' n' c') (frameB (n + 1) l ++ behindF (lvN lvls) fr tu n l k))) (fun _ i _ _ _ => l.length - (intOf i).toNat)
    case atStart => exact ⟨0, a1, n1, c1, by omega, rfl, by simp, HS1, by unfold Hid; rw [behind_zero, List.append_nil]; exact HO1.out⟩
    case round =>
      obtain ⟨k, a2, n2, c2, hk, rfl, rfl, HS, HO⟩ := hrel
      have hS := HS.out
      have p0 : wr.cell? ⟨w.heap.size + 1, 0, none⟩ = some (.int .i64 ((n : Int) + 1)) := hS.pg.cell 0 (by simp)
      have p1 : wr.cell? ⟨w.heap.size + 1, 1, none⟩ = some (.slice qa l.length qc) := hS.pg.cell 1 (by simp)
      by_cases hlt : k < l.length
      · have hltI : (k : Int) < l.length := by omega
        have HW1 : Hid (Calls _ _ _ _ _) := HWI.out wr k hS.bel hlt
        cases hwb : withB l k fr tu with
        | false =>
          rw [hwb] at HW1
          have HN : Hid (behindF (lvN lvls) fr tu n l (k + 1) = behindF (lvN lvls) fr tu n l k) := behind_no _ _ _ _ _ _ hwb
          clear hS hwb
          go_wp2_with (go_at_call 127; refine HW1.out.mono ?_; rintro e w2 ⟨rfl, hb2⟩)
          refine ⟨⟨k + 1, a2, n2, c2, by omega, rfl, by go_num, HS.out.next hb2, ?_⟩, by simp [intOf]; omega⟩
          unfold Hid; rw [HN.out]; exact owns_below HO.out hb2
        | true =>
          rw [hwb] at HW1
          have HN : Hid (behindF (lvN lvls) fr tu n l (k + 1) = behindF (lvN lvls) fr tu n l k ++ rangeF (lvN lvls) fr tu n (pageAt (lvN lvls) n (belowAt l k))) := behind_yes _ _ _ _ _ _ hwb
          obtain ⟨s', ps', q', hp', hpe, hpc⟩ := HDN.out k hlt
          have HPE : Hid (pageAt (lvN lvls) n (belowAt l k) = q'.2) := hpe
          have HBE1 : Hid (∀ W, Below w.heap.size w W → Calls _ _ _ W _) := fun W hb => HBE.out W k hlt s' ps' q' hb hp' hpc
          have HRG1 : Hid (∀ W, Below w.heap.size w W → Calls _ _ _ W _) := fun W hb => HRG.out W _ s' ps' q' hb hp'
          have HLN : Hid ((frameB (n + 1) l ++ behindF (lvN lvls) fr tu n l k).length + (rangeF (lvN lvls) fr tu n q'.2).length ≤ 140737488355328) := by
            have h1 := behind_le (lvN lvls) fr tu n l (k + 1) l.length (by omega)
            rw [HN.out, hpe, List.length_append] at h1
            have h2 := HT.out
            unfold Hid
            rw [List.length_append] at h2 ⊢
            omega
          clear hS hwb hpe hp'
          go_wp2_with (go_at_call 127; refine HW1.out.mono ?_; rintro e w2 ⟨rfl, hb2⟩; have hS2 := RanSt.next HS.out hb2; have p0 : w2.cell? ⟨w.heap.size + 1, 0, none⟩ = some (.int .i64 ((n : Int) + 1)) := hS2.pg.cell 0 (by simp); have p1 : w2.cell? ⟨w.heap.size + 1, 1, none⟩ = some (.slice qa l.length qc) := hS2.pg.cell 1 (by simp); have t0 : w2.cell? ⟨w.heap.size, 0, none⟩ = some (.slice lv.a lv.n lv.cap) := hS2.tr.cell 0 (by simp))
          go_region_held3 (fun W => W.cell? ⟨w.heap.size, 0, none⟩ = some (.slice lv.a lv.n lv.cap) ∧ W.cell? ⟨w.heap.size + 1, 0, none⟩ = some (.int .i64 ((n : Int) + 1)) ∧ W.cell? ⟨w.heap.size + 1, 1, none⟩ = some (.slice qa l.length qc)) (go_keep)
            (first
              | (go_at_call 125; refine (HBE1.out _ (by exact hS2.bel.drew)).mono ?_; rintro e w3 ⟨rfl, hb3⟩; have hS3 := RanSt.next (RanSt.drew hS2) hb3; have q0 : w3.cell? ⟨w.heap.size, 0, none⟩ = some (.slice lv.a lv.n lv.cap) := hS3.tr.cell 0 (by simp); have q1 : w3.cell? ⟨w.heap.size + 1, 0, none⟩ = some (.int .i64 ((n : Int) + 1)) := hS3.pg.cell 0 (by simp); have q2 : w3.cell? ⟨w.heap.size + 1, 1, none⟩ = some (.slice qa l.length qc) := hS3.pg.cell 1 (by simp))
              | (go_at_call 93; refine (HRG1.out _ (by exact hS3.bel)).mono ?_; rintro e w4 ⟨a4, n4, c4, rfl, ho4, hb4⟩; have hS4 := RanSt.next hS3 hb4; have q0 : w4.cell? ⟨w.heap.size, 0, none⟩ = some (.slice lv.a lv.n lv.cap) := hS4.tr.cell 0 (by simp); have q1 : w4.cell? ⟨w.heap.size + 1, 0, none⟩ = some (.int .i64 ((n : Int) + 1)) := hS4.pg.cell 0 (by simp); have q2 : w4.cell? ⟨w.heap.size + 1, 1, none⟩ = some (.slice qa l.length qc) := hS4.pg.cell 1 (by simp)))
          obtain ⟨hs4, hn4, hnil4⟩ := OwnB.sl ho4
          have HO4 : Hid (OwnB w4 (w.heap.size + 2) (.slice a2 n2 c2) (frameB (n + 1) l ++ behindF (lvN lvls) fr tu n l k)) := owns_below (owns_below (owns_below HO.out hb2) (by exact below_drew1 hb3)) hb4
          have HB4 : Hid (w.heap.size + 2 ≤ w4.heap.size) := by have := hS4.pg.lt; unfold Hid; omega
          have HS4 : Hid (RanSt w [.slice lv.a lv.n lv.cap] [.int .i64 ((n : Int) + 1), .slice qa l.length qc] w4) := hS4
          have HN4 : Hid (n4 = (rangeF (lvN lvls) fr tu n q'.2).length) := hn4
          clear hn4 hS4 hS3 hS2 hb2 hb3 hb4 ho4 HS HO
          go_wp2_with (at_builtin; refine wp_appendB (by rfl) (.tmp 41) (.tmp 42) (by rfl) (w.heap.size + 2) _ (frameB (n + 1) l ++ behindF (lvN lvls) fr tu n l k) (by rfl) HO4.out a4 n4 c4 (rangeF (lvN lvls) fr tu n q'.2) (by rfl) HN4.out hs4 hnil4 HLN.out HB4.out ?_; intro a5 n5 c5 w5 hn5 ho5 hs5 hf5 hat5; have HO5 : Hid (OwnB w5 (w.heap.size + 2) (.slice a5 n5 c5) _) := ho5; have HS5 : Hid (RanSt w _ _ w5) := RanSt.frame HS4.out HO4.out (by omega) hf5; clear hn5 ho5 hs5 hf5 hat5)
          refine ⟨⟨k + 1, a5, n5, c5, by omega, rfl, by go_num, HS5.out, ?_⟩, by simp [intOf]; omega⟩
          unfold Hid
          rw [HN.out, HPE.out, ← List.append_assoc]
          exact HO5.out
      · have hltI : ¬ (k : Int) < l.length := by omega
        obtain rfl : k = l.length := by omega
        clear hS
        go_wp2
        go_ret
        exact ⟨a2, n2, c2, rfl, owns_base HO.out (fun k hk => by have := (HO.out.lt k hk).1; omega), HS.out.bel⟩
end Go.Proofs.YtekegfbjbainhaaGreat
