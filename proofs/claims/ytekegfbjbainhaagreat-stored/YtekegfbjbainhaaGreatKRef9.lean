/- The tree of some entries, as plain lists: its levels; small facts on them. -/
import Derived.Test.YtekegfbjbainhaaGreatKRef8
namespace Go.Proofs.YtekegfbjbainhaaGreat
set_option linter.unusedVariables false
set_option linter.unusedSimpArgs false
open Go.RowKit

def lastK (p : List ItR) : List UInt8 := (p.getLast?.map (·.key)).getD []
/-- The entries of the next level: one for each page. -/
def nextF (level : Nat) : Nat → List (List ItR) → List ItR
  | _, [] => []
  | i, p :: r => ⟨lastK p, digB (codeB level p), i⟩ :: nextF level (i + 1) r
/-- The levels of the tree, from a level on. -/
def grownF : Nat → Nat → List ItR → List (List (List ItR))
  | 0, _, _ => []
  | f + 1, level, l => if (partedN level l).length = 1 then [partedN level l] else partedN level l :: grownF f (level + 1) (nextF level 0 (partedN level l))
def grownN (l : List ItR) : List (List (List ItR)) := grownF 7 0 l

theorem partF_length (level : Nat) : ∀ (r cur : List ItR), 1 ≤ (partF level r cur).length ∧ (partF level r cur).length ≤ r.length + 1
  | [], cur => by simp [partF]
  | x :: r, cur => by
    unfold partF
    split
    · have := partF_length level r []; simp; omega
    · have := partF_length level r (cur ++ [x]); simp; omega
theorem partF_bound (level : Nat) : ∀ (r cur : List ItR), r ≠ [] → (partF level r cur).length ≤ r.length
  | [], cur, h => absurd rfl h
  | x :: r, cur, _ => by
    unfold partF
    split
    · rename_i hc
      have hr : r ≠ [] := by
        intro h; subst h; simp at hc
      have := partF_bound level r [] hr; simp; omega
    · by_cases hr : r = []
      · subst hr; simp [partF]
      · have := partF_bound level r (cur ++ [x]) hr; simp; omega
theorem partF_six (level : Nat) (h6 : ¬ level < 6) : ∀ (r cur : List ItR), partF level r cur = [cur ++ r]
  | [], cur => by simp [partF]
  | x :: r, cur => by
    unfold partF
    rw [if_neg (by simp [endB, h6]), partF_six level h6 r]; simp
theorem partF_ne (level : Nat) : ∀ (r cur : List ItR), (r ≠ [] ∨ cur ≠ []) → ∀ p ∈ partF level r cur, p ≠ []
  | [], cur, h, p, hp => by
    simp [partF] at hp
    subst hp
    rcases h with h | h
    · exact absurd rfl h
    · exact h
  | x :: r, cur, h, p, hp => by
    unfold partF at hp
    split at hp
    · rename_i hc
      have hr : r ≠ [] := by
        intro h; subst h; simp at hc
      rcases List.mem_cons.1 hp with rfl | hp
      · simp
      · exact partF_ne level r [] (Or.inl hr) p hp
    · exact partF_ne level r (cur ++ [x]) (Or.inr (by simp)) p hp
theorem partF_mem (level : Nat) : ∀ (r cur : List ItR), ∀ p ∈ partF level r cur, ∀ x ∈ p, x ∈ r ∨ x ∈ cur
  | [], cur, p, hp, x, hx => by simp [partF] at hp; subst hp; exact Or.inr hx
  | y :: r, cur, p, hp, x, hx => by
    unfold partF at hp
    split at hp
    · rcases List.mem_cons.1 hp with rfl | hp
      · rcases List.mem_append.1 hx with h | h
        · exact Or.inr h
        · simp at h; subst h; exact Or.inl (by simp)
      · rcases partF_mem level r [] p hp x hx with h | h
        · exact Or.inl (by simp [h])
        · cases h
    · rcases partF_mem level r (cur ++ [y]) p hp x hx with h | h
      · exact Or.inl (by simp [h])
      · rcases List.mem_append.1 h with h | h
        · exact Or.inr h
        · simp at h; subst h; exact Or.inl (by simp)
theorem partF_size (level : Nat) : ∀ (r cur : List ItR), ∀ p ∈ partF level r cur, p.length ≤ r.length + cur.length
  | [], cur, p, hp => by simp [partF] at hp; subst hp; simp
  | y :: r, cur, p, hp => by
    unfold partF at hp
    split at hp
    · rcases List.mem_cons.1 hp with rfl | hp
      · simp; omega
      · have := partF_size level r [] p hp; simp at this ⊢; omega
    · have := partF_size level r (cur ++ [y]) p hp; simp at this ⊢; omega
theorem parted_ok {level : Nat} {l : List ItR} (h : ∀ x ∈ l, ItOk x) : ∀ p ∈ partedN level l, ∀ x ∈ p, ItOk x := fun p hp x hx => by
  rcases partF_mem level l [] p hp x hx with h1 | h1
  · exact h x h1
  · cases h1
theorem lastK_le {p : List ItR} (h : ∀ x ∈ p, ItOk x) : (lastK p).length ≤ 12 := by
  unfold lastK
  cases hl : p.getLast? with
  | none => simp
  | some x => simp; exact (h x (List.mem_of_getLast? hl)).1
theorem nextF_ok (level : Nat) : ∀ (i : Nat) (ps : List (List ItR)), (∀ p ∈ ps, ∀ x ∈ p, ItOk x) → ∀ x ∈ nextF level i ps, ItOk x
  | _, [], _, x, hx => by cases hx
  | i, p :: r, h, x, hx => by
    unfold nextF at hx
    rcases List.mem_cons.1 hx with rfl | hx
    · exact ⟨lastK_le (h p (by simp)), by show (digB _).length ≤ 12; rw [digB_length]; omega⟩
    · exact nextF_ok level (i + 1) r (fun q hq => h q (by simp [hq])) x hx
theorem nextF_length (level : Nat) : ∀ (i : Nat) (ps : List (List ItR)), (nextF level i ps).length = ps.length
  | _, [] => rfl
  | i, p :: r => by unfold nextF; rw [List.length_cons, List.length_cons, nextF_length level (i + 1) r]
theorem nextF_snoc (level : Nat) (p : List ItR) : ∀ (i : Nat) (ps : List (List ItR)), nextF level i (ps ++ [p]) = nextF level i ps ++ [⟨lastK p, digB (codeB level p), i + ps.length⟩]
  | i, [] => by simp [nextF]
  | i, q :: r => by
    rw [List.cons_append]
    unfold nextF
    rw [nextF_snoc level p (i + 1) r, List.cons_append, List.length_cons, show i + 1 + r.length = i + (r.length + 1) by omega]
theorem lastK_get (p : List ItR) (h : p ≠ []) : lastK p = (p[p.length - 1]'(by have := List.length_pos_iff.2 h; omega)).key := by
  unfold lastK
  rw [List.getLast?_eq_getElem?, List.getElem?_eq_getElem (by have := List.length_pos_iff.2 h; omega)]
  rfl
end Go.Proofs.YtekegfbjbainhaaGreat
