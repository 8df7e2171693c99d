import Derived.Test.YtekegfbjbainhaaKJoin22
set_option linter.unusedVariables false
set_option linter.unusedSimpArgs false

namespace Go.Proofs.Ytekegfbjbainhaa
open Go.RowKit
attribute [local go_sem ↓] Go.wp_at_zero Go.wp_at_succ
set_option maxRecDepth 100000 in
set_option maxHeartbeats 1000000 in
theorem cloneO_any (s : SlR) (l : List UInt8) (w : World) (h : BS w s l) (hl : l.length ≤ 1000) :
  Calls Try.prog 40 #[s.val] w fun e w' => ∃ s' : SlR, e = .returned (.slice s'.a s'.n s'.cap) ∧ OwnB w' w.heap.size s'.val l ∧ Below w.heap.size w w' := by
 obtain ⟨a, n, cap⟩ := s
 obtain ⟨hs, hn, hnil, _⟩ := h
 simp only at hs hn hnil
 unfold SlR.val
 have he := fun w => run_eql_slice_nil (P := Try.prog) w 35 5 a n cap Try.underlying35
 cases a with
 | none =>
  obtain rfl : l = [] := by
   cases l with
   | nil => rfl
   | cons y r => obtain ⟨b, o, ha, _⟩ := hs 0 (by simp); cases ha
  obtain rfl : n = 0 := by simpa using hn
  obtain rfl := hnil rfl
  clear hs hn hnil hl
  go_enter Try.func40, Try.ntmps40
  go_wp2
  go_ret
  exact ⟨⟨none, 0, 0⟩, rfl, World.ownsRow_nil _ _ _ _, Below.refl _ _⟩
 | some x =>
  have hb1 : OwnB (w.alloc (.cells #[] 5)) w.heap.size (.slice (some ⟨w.heap.size, 0, none⟩) 0 0) [] := OwnB.built w w.heap.size [] (Nat.le_refl _) (by simp [maxLen])
  have hs1 : SlB (w.alloc (.cells #[] 5)) (some x) l := hs.below ((Below.refl _ _).alloc (Nat.le_refl _) _) (Nat.le_refl _)
  have HN : Hid (n = l.length) := hn
  clear hn hs
  go_enter Try.func40, Try.ntmps40
  go_wp2_with (at_builtin; refine wp_appendB (by rfl) (.tmp 5) (.tmp 6) (by rfl) w.heap.size _ [] (by rfl) hb1 (some x) n cap l (by rfl) HN.out hs1 (fun h => by cases h) (by simp; omega) (by simp) ?_; intro a' n' cap' w4 hn' ho' hs' hf' hat'; clear hn')
  go_ret
  refine ⟨⟨a', n', cap'⟩, rfl, ho', ?_⟩
  exact ((Below.refl _ _).alloc (Nat.le_refl _) _).trans (hf'.below (by simp) (fun k hk => by simp [Value.ownBlock] at hk; omega))
end Go.Proofs.Ytekegfbjbainhaa


namespace Go.Proofs.Ytekegfbjbainhaa
open Go.RowKit
attribute [local go_sem ↓] Go.wp_at_zero Go.wp_at_succ
end Go.Proofs.Ytekegfbjbainhaa


namespace Go.Proofs.Ytekegfbjbainhaa
open Go.RowKit
attribute [local go_sem ↓] Go.wp_at_zero Go.wp_at_succ
def flatE (es : List (SlR × SlR)) : List SlR := es.flatMap (fun e => [e.1, e.2])
def flatL (l : List ItR) : List (List UInt8) := l.flatMap (fun x => [x.key, x.more])
def apartS (a b : SlR) : Prop := ∀ k, a.val.ownBlock = some k → b.val.ownBlock ≠ some k
theorem flatE_length (es : List (SlR × SlR)) : (flatE es).length = es.length * 2 := by
 induction es with
 | nil => rfl
 | cons e es ih => simp only [flatE, List.flatMap_cons, List.length_append] at ih ⊢; rw [ih]; simp; omega
theorem flatL_length (l : List ItR) : (flatL l).length = l.length * 2 := by
 induction l with
 | nil => rfl
 | cons e es ih => simp only [flatL, List.flatMap_cons, List.length_append] at ih ⊢; rw [ih]; simp; omega
structure EntsO (w : World) (base : Nat) (v : SlR) (es : List (SlR × SlR)) (l : List ItR) : Prop where
 own : w.ownsRow base 37 2 v.val es.length (entsC es)
 len : es.length = l.length
 ob : ∀ i (h1 : i < (flatE es).length) (h2 : i < (flatL l).length), OwnB w base (flatE es)[i].val (flatL l)[i]
 pw : (flatE es).Pairwise apartS
theorem EntsO.nil (w : World) (base : Nat) : EntsO w base ⟨none, 0, 0⟩ [] [] := ⟨World.ownsRow_nil _ _ _ _, rfl, fun i h => absurd h (Nat.not_lt_zero _), List.Pairwise.nil⟩
theorem EntsO.frame {w w' : World} {S : Nat → Prop} {base : Nat} {v : SlR} {es : List (SlR × SlR)} {l : List ItR} (h : EntsO w base v es l) (hf : Frame S w w') (hS : ∀ k, S k → k < base) : EntsO w' base v es l :=
 ⟨owns_frame h.own hf (fun k hk e => by have := (h.own.lt k hk).1; have := hS k e; omega), h.len, fun i h1 h2 => owns_frame (h.ob i h1 h2) hf (fun k hk e => by have := ((h.ob i h1 h2).lt k hk).1; have := hS k e; omega), h.pw⟩
theorem EntsO.below {w w' : World} {base : Nat} {v : SlR} {es : List (SlR × SlR)} {l : List ItR} (h : EntsO w base v es l) (hf : Below w.heap.size w w') : EntsO w' base v es l := h.frame (Frame.of_below_all (S := fun _ => False) hf) (fun _ e => e.elim)
theorem EntsO.toBase {w : World} {base base' : Nat} {v : SlR} {es : List (SlR × SlR)} {l : List ItR} (h : EntsO w base v es l) (hb : base' ≤ base) : EntsO w base' v es l :=
 ⟨owns_base h.own (fun k hk => Nat.le_trans hb (h.own.lt k hk).1), h.len, fun i h1 h2 => owns_base (h.ob i h1 h2) (fun k hk => Nat.le_trans hb ((h.ob i h1 h2).lt k hk).1), h.pw⟩
theorem owns_apart {w : World} {base base' e e' size size' n n' : Nat} {v v' : Value} {xs xs' : List Value} (h : w.ownsRow base e size v n xs) (h' : w.ownsRow base' e' size' v' n' xs') (hne : e ≠ e') : ∀ k, v.ownBlock = some k → v'.ownBlock ≠ some k := fun k hk hk' => by
 rcases h.2 with ⟨hv, _⟩ | ⟨g, cap, cur, hv, hg, hb, _⟩
 ·rw [hv] at hk; simp [Value.ownBlock] at hk
 ·rcases h'.2 with ⟨hv', _⟩ | ⟨g', cap', cur', hv', hg', hb', _⟩
  ·rw [hv'] at hk'; simp [Value.ownBlock] at hk'
  ·rw [hv] at hk; rw [hv'] at hk'
   simp [Value.ownBlock] at hk hk'
   subst hk; subst hk'
   rw [hb] at hb'
   simp at hb'
   exact hne hb'.2
theorem EntsO.push {w w' : World} {base N : Nat} {v v' : SlR} {es : List (SlR × SlR)} {l : List ItR} {s1 s2 : SlR} {x : ItR} (h : EntsO w base v es l) (h1 : OwnB w base s1.val x.key) (h2 : OwnB w base s2.val x.more) (hlt : ∀ i (g : i < (flatE es).length), ∀ k, (flatE es)[i].val.ownBlock = some k → k < N) (hn1 : ∀ k, s1.val.ownBlock = some k → N ≤ k) (hn2 : ∀ k, s2.val.ownBlock = some k → N ≤ k) (h12 : apartS s1 s2)
  (ho : w'.ownsRow base 37 2 v'.val (es.length + 1) (entsC es ++ entsC [(s1, s2)])) (hf : Frame (fun k => v.val.ownBlock = some k) w w') : EntsO w' base v' (es ++ [(s1, s2)]) (l ++ [x]) := by
 have eE : flatE (es ++ [(s1, s2)]) = flatE es ++ [s1, s2] := by simp [flatE]
 have eL : flatL (l ++ [x]) = flatL l ++ [x.key, x.more] := by simp [flatL]
 have hll : (flatE es).length = (flatL l).length := by rw [flatE_length, flatL_length, h.len]
 refine ⟨by rw [List.length_append, entsC_append]; exact ho, by rw [List.length_append, List.length_append, h.len]; rfl, fun i g1 g2 => ?_, ?_⟩
 ·have key : OwnB w base (flatE (es ++ [(s1, s2)]))[i].val (flatL (l ++ [x]))[i] := by
   simp only [eE, eL] at g1 g2 ⊢
   by_cases hi : i < (flatE es).length
   ·rw [List.getElem_append_left hi, List.getElem_append_left (by rw [← hll]; exact hi)]
    exact h.ob i hi _
   ·rw [List.getElem_append_right (by omega), List.getElem_append_right (by rw [← hll]; omega)]
    simp only [← hll]
    have hd : i - (flatE es).length = 0 ∨ i - (flatE es).length = 1 := by simp at g1; omega
    rcases hd with e | e
    ·simp only [e]; exact h1
    ·simp only [e]; exact h2
  exact owns_frame key hf (fun k hk e => owns_apart key h.own (by decide) k hk e)
 ·rw [eE, List.pairwise_append]
  refine ⟨h.pw, by simp [h12], fun a ha b hb k hk hk' => ?_⟩
  obtain ⟨i, hi, rfl⟩ := List.mem_iff_getElem.1 ha
  have := hlt i hi k hk
  simp only [List.mem_cons, List.not_mem_nil, or_false] at hb
  rcases hb with rfl | rfl
  ·have := hn1 k hk'; omega
  ·have := hn2 k hk'; omega
def rngPP (w : World) (q : Nat × List ItR) (e : Ending) (w' : World) : Prop := ∃ (v : SlR) (es : List (SlR × SlR)), e = .returned (.tuple #[v.val, .int .i64 (q.1 : Int)]) ∧ Below w.heap.size w w' ∧ EntsO w' w.heap.size v es q.2
theorem rangeC_rrd (root fr tu proof : List UInt8) : rangeC root fr tu proof = (rrd root fr tu proof).map (fun es => es.filter (inR fr tu)) := by
 rw [rangeC_fin]
 unfold rrd finC
 cases rngRd root fr tu proof with
 | none => rfl
 | some q =>
  obtain ⟨es, r⟩ := q
  simp only
  by_cases h : r = []
  ·simp [h]
  ·simp [h]
theorem readU_ok (fr tu : List UInt8) : ∀ (lv : Nat) (its : List ItR) (r : List UInt8) (es : List ItR) (r' : List UInt8), PageOk lv its → readU fr tu lv its r = some (es, r') → ∀ x ∈ es, x.key.length ≤ 12 ∧ x.more.length ≤ 12
 | 0, its, r, es, r', hok, h => by
  have h' : some (its, r) = some (es, r') := h
  simp only [Option.some.injEq, Prod.mk.injEq] at h'
  obtain ⟨rfl, rfl⟩ := h'
  exact fun x hx => ⟨(hok.key x hx).2, hok.low rfl x hx⟩
 | lv + 1, its, r, es, r', hok, h => by
  have key : ∀ (sel : List ItR) (s : List ItR × List UInt8), (∀ x ∈ s.1, x.key.length ≤ 12 ∧ x.more.length ≤ 12) → sel.foldlM (stepU (readU fr tu lv) lv) s = some (es, r') → ∀ x ∈ es, x.key.length ≤ 12 ∧ x.more.length ≤ 12 := by
   intro sel
   induction sel with
   | nil => intro s h0 hs; simp only [List.foldlM_nil] at hs; cases hs; exact h0
   | cons y ys ih =>
    intro s h0 hs
    simp only [List.foldlM_cons] at hs
    cases e : stepU (readU fr tu lv) lv s y with
    | none => rw [e] at hs; cases hs
    | some t =>
     rw [e] at hs
     refine ih t ?_ hs
     unfold stepU at e
     split at e
     ·cases e
     ·rename_i l its' r1 hp
      split at e
      ·rename_i hl
       subst hl
       cases e2 : readU fr tu l its' r1 with
       | none => rw [e2] at e; cases e
       | some q =>
        obtain ⟨q1, q2⟩ := q
        rw [e2] at e
        simp only [Option.map_some, Option.some.injEq] at e
        subst e
        intro x hx
        rcases List.mem_append.1 hx with hx | hx
        ·exact h0 x hx
        ·exact readU_ok fr tu l its' r1 q1 q2 (pgO_ok hp) e2 x hx
      ·cases e
  exact key _ _ (fun x hx => by cases hx) h
theorem rrd_lens (root fr tu proof : List UInt8) (es : List ItR) (h : rrd root fr tu proof = some es) : ∀ x ∈ es, x.key.length ≤ 12 ∧ x.more.length ≤ 12 := by
 unfold rrd rngRd at h
 cases hp : pgO (some proof) root with
 | none => rw [hp] at h; cases h
 | some q =>
  obtain ⟨⟨lv, its⟩, r⟩ := q
  rw [hp] at h
  simp only at h
  cases hu : readU fr tu lv its r with
  | none => rw [hu] at h; cases h
  | some q2 =>
   obtain ⟨q1, r1⟩ := q2
   rw [hu] at h
   simp only at h
   split at h
   ·cases h
    exact readU_ok fr tu lv its r es r1 (pgO_ok hp) hu
   ·cases h
end Go.Proofs.Ytekegfbjbainhaa
