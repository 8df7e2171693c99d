import Derived.Test.YtekegfbjbainhaaKPr18
set_option linter.unusedVariables false
set_option linter.unusedSimpArgs false

namespace Go.Proofs.Ytekegfbjbainhaa
open Go.RowKit
def partOf (l : List ItR) (c : Nat × Nat) : List ItR := (l.drop c.1).take c.2
theorem part_snoc (l : List ItR) (s k : Nat) (hs : s ≤ k) (hk : k < l.length) : partOf l (s, k + 1 - s) = partOf l (s, k - s) ++ [l[k]] := by
 unfold partOf
 have hd : (l.drop s)[k - s]? = some l[k] := by
  rw [List.getElem?_drop, show s + (k - s) = k by omega, List.getElem?_eq_getElem hk]
 obtain ⟨h1, h2⟩ := List.getElem?_eq_some_iff.1 hd
 simp only
 rw [show k + 1 - s = (k - s) + 1 by omega, List.take_succ_eq_append_getElem h1, h2]
theorem cuts_inv (level : Nat) (l : List ItR) : ∀ k, k < l.length → (cutAt level l k).1.map (partOf l) ++ partF level (l.drop k) (partOf l ((cutAt level l k).2, k - (cutAt level l k).2)) = partF level l []
 | 0, _ => by simp [cutAt, partOf]
 | k + 1, hk => by
  have ih := cuts_inv level l k (by omega)
  have hle := (cutAt_le level l k).1
  have hk' : k < l.length := by omega
  rw [List.drop_eq_getElem_cons hk', partF, ← part_snoc l _ k hle hk'] at ih
  have hne : (l.drop (k + 1)).isEmpty = false := by
   cases h : l.drop (k + 1) with
   | nil => have := congrArg List.length h; simp at this; omega
   | cons => rfl
  rw [hne] at ih
  unfold cutAt
  rw [List.getElem?_eq_getElem hk']
  simp only [Option.map_some, Option.getD_some]
  by_cases he : endB level l[k].key = true
  ·rw [if_pos (Or.inr he)]
   rw [he] at ih
   simp only [Bool.not_false, Bool.and_self, if_true] at ih
   simp only [List.map_append, List.map_cons, List.map_nil, List.append_assoc]
   rw [← ih]
   simp [partOf]
  ·rw [if_neg (fun h => by rcases h with h | h; omega; exact he h)]
   rw [Bool.eq_false_iff.2 he] at ih
   simpa using ih
theorem cuts_parted (level : Nat) (l : List ItR) (h : l ≠ []) : (cutsN level l).map (partOf l) = partedN level l := by
 obtain ⟨k, hk⟩ : ∃ k, l.length = k + 1 := ⟨l.length - 1, by have := List.length_pos_iff.2 h; omega⟩
 have ih := cuts_inv level l k (by omega)
 have hle := (cutAt_le level l k).1
 have hk' : k < l.length := by omega
 rw [List.drop_eq_getElem_cons hk', partF, ← part_snoc l _ k hle hk', List.drop_eq_nil_of_le (by omega)] at ih
 unfold cutsN
 rw [hk]
 unfold cutAt
 rw [if_pos (Or.inl hk.symm)]
 simp only [List.isEmpty_nil, Bool.not_true, Bool.and_false, Bool.false_eq_true, if_false, partF] at ih
 simp only [List.map_append, List.map_cons, List.map_nil]
 exact ih
theorem cuts_ok (level : Nat) (l : List ItR) : ∀ k, k ≤ l.length → ∀ c ∈ (cutAt level l k).1, c.1 + c.2 ≤ l.length
 | 0, _, c, hc => by simp [cutAt] at hc
 | k + 1, hk, c, hc => by
  have ih := cuts_ok level l k (by omega)
  have hle := (cutAt_le level l k).1
  unfold cutAt at hc
  split at hc
  ·rcases List.mem_append.1 hc with hc | hc
   ·exact ih c hc
   ·simp only [List.mem_singleton] at hc; subst hc; simp only; omega
  ·exact ih c hc
def norm1 (x : ItR) : ItR := ⟨x.key, x.more, 0⟩
def normL (l : List ItR) : List ItR := l.map norm1
theorem normL_id {l : List ItR} (h : ∀ x ∈ l, x.below = 0) : normL l = l := by
 unfold normL
 conv => rhs; rw [← List.map_id l]
 apply List.map_congr_left
 intro x hx
 obtain ⟨k, m, b⟩ := x
 have : b = 0 := h _ hx
 simp [norm1, this]
theorem partF_norm (level : Nat) : ∀ (r cur : List ItR), partF level (normL r) (normL cur) = (partF level r cur).map normL
 | [], cur => by simp [normL, partF]
 | x :: r, cur => by
  have h1 : normL (x :: r) = norm1 x :: normL r := rfl
  have h2 : normL cur ++ [norm1 x] = normL (cur ++ [x]) := by simp [normL]
  have h3 : (normL r).isEmpty = r.isEmpty := by cases r <;> rfl
  have h4 : (norm1 x).key = x.key := rfl
  rw [h1, partF, partF, h2, h3, h4]
  split
  ·rw [List.map_cons, ← partF_norm level r []]; rfl
  ·exact partF_norm level r (cur ++ [x])
theorem parted_norm (level : Nat) (l : List ItR) : partedN level (normL l) = (partedN level l).map normL := partF_norm level l []
theorem lastK_norm (p : List ItR) : lastK (normL p) = lastK p := by
 unfold lastK normL
 rw [List.getLast?_map]
 cases p.getLast? <;> rfl
theorem code_norm (level : Nat) (p : List ItR) : codeB level (normL p) = codeB level p := by
 unfold codeB normL
 rw [List.length_map, List.flatMap_map]
 rfl
def upOf (level : Nat) (p : List ItR) : ItR := ⟨lastK p, digB (codeB level p), 0⟩
theorem up_norm (level : Nat) (p : List ItR) : upOf level (normL p) = upOf level p := by
 unfold upOf; rw [lastK_norm, code_norm]
theorem next_norm (level : Nat) : ∀ (i : Nat) (ps : List (List ItR)), normL (nextF level i ps) = ps.map (upOf level)
 | _, [] => rfl
 | i, p :: r => by
  have := next_norm level (i + 1) r
  unfold nextF
  simp only [normL, List.map_cons] at this ⊢
  rw [this]; rfl
def growP : Nat → Nat → List ItR → Nat × List ItR
 | 0, level, _ => (level, [])
 | f + 1, level, l => if (partedN level l).length = 1 then (level, (partedN level l).headD []) else growP f (level + 1) ((partedN level l).map (upOf level))
theorem growP_eq : ∀ (f level : Nat) (l : List ItR), 7 ≤ level + f → 1 ≤ f → growP f level (normL l) = (level + (grownF f level l).length - 1, normL (((grownF f level l)[(grownF f level l).length - 1]?.getD []).headD []))
 | 0, _, _, _, h => absurd h (by omega)
 | f + 1, level, l, hf, _ => by
  unfold growP grownF
  rw [parted_norm, List.length_map]
  by_cases h1 : (partedN level l).length = 1
  ·rw [if_pos h1, if_pos h1]
   simp only [List.length_singleton]
   refine Prod.ext (by simp only; omega) ?_
   simp only [Nat.sub_self, List.getElem?_cons_zero, Option.getD_some]
   cases partedN level l <;> rfl
  ·rw [if_neg h1, if_neg h1]
   have hf1 : 1 ≤ f := by
    cases f with
    | zero =>
     exfalso
     apply h1
     unfold partedN
     rw [partF_six level (by omega)]; rfl
    | succ => omega
   have e : ((partedN level l).map normL).map (upOf level) = normL (nextF level 0 (partedN level l)) := by
    rw [next_norm, List.map_map]
    apply List.map_congr_left
    intro p _
    exact up_norm level p
   rw [e, growP_eq f (level + 1) _ (by omega) hf1]
   have hl := (grownF_length f (level + 1) (nextF level 0 (partedN level l)) hf1).1
   simp only [List.length_cons]
   refine Prod.ext (by simp only; omega) ?_
   simp only
   congr 2
   have : (grownF f (level + 1) (nextF level 0 (partedN level l))).length + 1 - 1 = ((grownF f (level + 1) (nextF level 0 (partedN level l))).length - 1) + 1 := by omega
   rw [this, List.getElem?_cons_succ]
theorem growP_root {l : List ItR} (h : ∀ x ∈ l, x.below = 0) : digB (codeB (growP 7 0 l).1 (growP 7 0 l).2) = rootB l := by
 have := growP_eq 7 0 l (by omega) (by omega)
 rw [normL_id h] at this
 rw [this]
 simp only [Nat.zero_add, code_norm]
 rfl
end Go.Proofs.Ytekegfbjbainhaa


namespace Go.Proofs.Ytekegfbjbainhaa
open Go.RowKit
def KFoot (es : List MEn) (k : Nat) : Prop := ∃ e ∈ es, ∃ x ∈ e.ns, ndF x k
theorem KnownAt.frameS {w W : World} {S : Nat → Prop} {sb N : Nat} {mp : Option Nat} {es : List MEn} (K : KnownAt w sb mp es N) (hf : Frame S w W) (h1 : ∀ k, KMut sb mp es k → ¬ S k) (h2 : ∀ k, KFoot es k → ¬ S k) : KnownAt W sb mp es N := by
 refine ⟨?_, K.d8, fun e he => owns_frame (K.own e he) hf (fun k hk => h1 k (Or.inr (Or.inr ⟨e, he, hk⟩))), fun e he x hx => (K.nodes e he x hx).frame hf (fun k hk => h2 k ⟨e, he, x, hx, hk⟩), K.apart, K.foot, K.msb, K.cnt, K.kd⟩
 have h := K.map
 cases mp with
 | none => exact h
 | some m =>
  obtain ⟨arr, clock, hh, g1, g2, g3⟩ := h
  exact ⟨arr, clock, by rw [hf.block m (Array.getElem?_eq_some_iff.1 hh).1 (h1 m (Or.inr (Or.inl rfl)))]; exact hh, g1, g2, g3⟩
theorem KFoot.lt {w : World} {sb N : Nat} {mp : Option Nat} {es : List MEn} (K : KnownAt w sb mp es N) : ∀ k, KFoot es k → k < w.heap.size := fun k ⟨e, he, x, hx, hk⟩ => (K.nodes e he x hx).lt k hk
theorem KMut.ne {w : World} {sb N : Nat} {mp : Option Nat} {es : List MEn} {en tr : SlR} (hR : StoRow w sb en mp tr) (K : KnownAt w sb mp es N) {base e size n : Nat} {v : Value} {xs : List Value} (ho : w.ownsRow base e size v n xs) (h1 : e ≠ 89) (h2 : e ≠ 96) : ∀ k, v.ownBlock = some k → ¬ KMut sb mp es k := fun k hk hm => by
 rcases hm with rfl | h | ⟨f, hf, h⟩
 ·exact owns_ne ho hR h1 hk
 ·subst h
  obtain ⟨arr, clock, hh, _⟩ := K.map
  rcases ho.2 with ⟨hv, _⟩ | ⟨g, cap, cur, hv, _, hb, _⟩
  ·rw [hv] at hk; cases hk
  ·rw [hv] at hk
   simp only [Value.ownBlock, Option.some.injEq] at hk
   subst hk
   rw [hh] at hb; cases hb
 ·exact owns_ne2 ho (K.own f hf) h2 k hk h
structure TrSt (w0 : World) (sb : Nat) (en tr : SlR) (mp0 : Option Nat) (es0 : List MEn) (InF : Nat → Prop) (wr : World) (N : Nat) (mp : Option Nat) (es : List MEn) (o : SlR) (nds : List Nd) : Prop where
 row : StoRow wr sb en mp tr
 known : KnownAt wr sb mp es N
 frame : Frame (KMut sb mp0 es0) w0 wr
 muts : ∀ k, KMut sb mp es k → k < w0.heap.size → KMut sb mp0 es0 k
 own : wr.ownsRow w0.heap.size 96 1 o.val nds.length (nds.map (fun x => ptrV x.b))
 onew : ∀ k, o.val.ownBlock = some k → ¬ KMut sb mp es k ∧ ¬ KFoot es k ∧ (∀ nd ∈ nds, ¬ ndF nd k)
 nodes : ∀ nd ∈ nds, NdOk wr nd ∧ (∀ k, ndF nd k → ¬ KMut sb mp es k)
 kfoot : ∀ k, KFoot es k → k < w0.heap.size → KFoot es0 k ∨ InF k
 nfoot : ∀ nd ∈ nds, ∀ k, ndF nd k → k < w0.heap.size → KFoot es0 k ∨ InF k
theorem TrSt.step {w0 wr w' Wa w'' : World} {sb N : Nat} {en tr : SlR} {mp0 mp : Option Nat} {es0 es : List MEn} {InF : Nat → Prop} {o o' : SlR} {nds : List Nd} {nd : Nd} {level : Nat} {xs : List EnP} {its : List ItR} {bl : List Nat} (h : TrSt w0 sb en tr mp0 es0 InF wr N mp es o nds)
  (hn : NodeOut wr sb N en tr mp es level xs its bl nd w') (hin : ∀ k, ((∃ x ∈ xs, ∃ y, x.k.a = some y ∧ y.block = k) ∨ k ∈ bl) → k < w0.heap.size → KFoot es0 k ∨ InF k) (hino : ∀ k, ((∃ x ∈ xs, ∃ y, x.k.a = some y ∧ y.block = k) ∨ k ∈ bl) → o.val.ownBlock ≠ some k)
  (ho : w''.ownsRow w0.heap.size 96 1 o'.val (nds.length + 1) (nds.map (fun x => ptrV x.b) ++ [ptrV nd.b])) (hWa : Below w'.heap.size w' Wa) (hf : Frame (fun k => o.val.ownBlock = some k) Wa w'') (hat : o'.val.ownBlock = o.val.ownBlock ∨ o'.val.ownBlock = some Wa.heap.size) :
  ∃ mp' es', TrSt w0 sb en tr mp0 es0 InF w'' (N + 1) mp' es' o' (nds ++ [nd]) := by
 obtain ⟨mp', es', r1, r2, r3, _, _, _, r4, r5, r6, r7, r8⟩ := hn
 have hzr := h.frame.size
 have hz' := r6.size
 have hown : ∀ k, o.val.ownBlock = some k → w0.heap.size ≤ k ∧ k < wr.heap.size := fun k hk => h.own.lt k hk
 have hnin : ∀ k, o.val.ownBlock = some k → ¬ ndF nd k := fun k hk hnd => by
  obtain ⟨g1, g2, g3⟩ := h.onew k hk
  rcases r8 k hnd (hown k hk).2 with ⟨e0, he0, hx⟩ | hi
  ·exact g2 ⟨e0, he0, nd, hx, hnd⟩
  ·exact hino k hi hk
 have hom : ∀ k, o.val.ownBlock = some k → ¬ KMut sb mp' es' k := fun k hk hm => (h.onew k hk).1 (r5 k hm (hown k hk).2)
 have hkf : ∀ k, KFoot es' k → k < wr.heap.size → KFoot es k ∨ ndF nd k := fun k ⟨e, he, x, hx, hk⟩ _ => by
  rcases r7 e he x hx with rfl | ⟨e0, he0, hx0⟩
  ·exact Or.inr hk
  ·exact Or.inl ⟨e0, he0, x, hx0, hk⟩
 have hof : ∀ k, o.val.ownBlock = some k → ¬ KFoot es' k := fun k hk hkf' => by
  rcases hkf k hkf' (hown k hk).2 with g | g
  ·exact (h.onew k hk).2.1 g
  ·exact hnin k hk g
 have hndnew : ∀ k, ndF nd k → k < w0.heap.size → KFoot es0 k ∨ InF k := fun k hk hlt => by
  rcases r8 k hk (by omega) with ⟨e0, he0, hx⟩ | hi
  ·exact h.kfoot k ⟨e0, he0, nd, hx, hk⟩ hlt
  ·exact hin k hi hlt
 have how : w'.ownsRow w0.heap.size 96 1 o.val nds.length (nds.map (fun x => ptrV x.b)) := owns_frame h.own r6 (fun k hk => (h.onew k hk).1)
 have fT : Frame (fun k => o.val.ownBlock = some k) w' w'' := (Frame.of_below_all hWa).trans hf
 have hzT := fT.size
 refine ⟨mp', es', RowV.of_block r1 (fT.block sb (RowV.lt r1) (fun e => owns_ne how r1 (by decide) e)), r2.frameS fT (fun k hk hk2 => hom k hk2 hk) (fun k hk hk2 => hof k hk2 hk), ?_, fun k hk hlt => h.muts k (r5 k hk (by omega)) hlt, by rw [List.length_append, List.map_append]; exact ho, ?_, ?_, ?_, ?_⟩
 ·refine (h.frame.inside r6 (fun k hlt hk => h.muts k hk hlt)).inside fT (fun k hlt hk => ?_)
  have := (hown k hk).1; omega
 ·intro k hk
  rcases hat with g | g
  ·rw [g] at hk
   refine ⟨hom k hk, hof k hk, fun x hx => ?_⟩
   rcases List.mem_append.1 hx with hx | hx
   ·exact (h.onew k hk).2.2 x hx
   ·simp only [List.mem_singleton] at hx; subst hx; exact hnin k hk
  ·rw [g] at hk
   have hkk := Option.some.inj hk
   have hzW := hWa.size
   refine ⟨fun hm => ?_, fun hm => ?_, fun x hx hm => ?_⟩
   ·have := KMut.lt r2 (RowV.lt r1) k hm; omega
   ·have := KFoot.lt r2 k hm; omega
   ·rcases List.mem_append.1 hx with hx | hx
    ·have := (h.nodes x hx).1.lt k hm; omega
    ·simp only [List.mem_singleton] at hx; subst hx
     have := r3.lt k hm; omega
 ·intro x hx
  rcases List.mem_append.1 hx with hx | hx
  ·obtain ⟨g1, g2⟩ := h.nodes x hx
   refine ⟨(g1.frame r6 g2).frame fT (fun k hk hk2 => (h.onew k hk2).2.2 x hx hk), fun k hk hm => g2 k hk (r5 k hm (g1.lt k hk))⟩
  ·simp only [List.mem_singleton] at hx; subst hx
   exact ⟨r3.frame fT (fun k hk hk2 => hnin k hk2 hk), r4⟩
 ·intro k hk hlt
  rcases hkf k hk (by omega) with g | g
  ·exact h.kfoot k g hlt
  ·exact hndnew k g hlt
 ·intro x hx k hk hlt
  rcases List.mem_append.1 hx with hx | hx
  ·exact h.nfoot x hx k hk hlt
  ·simp only [List.mem_singleton] at hx; subst hx; exact hndnew k hk hlt
theorem TrSt.start {w : World} {sb N : Nat} {en tr : SlR} {mp : Option Nat} {es : List MEn} {InF : Nat → Prop} (hR : StoRow w sb en mp tr) (K : KnownAt w sb mp es N) : TrSt w sb en tr mp es InF w N mp es ⟨none, 0, 0⟩ [] :=
 ⟨hR, K, Frame.refl _ _, fun k hk _ => hk, World.ownsRow_nil _ _ _ _, (fun k hk => by cases hk), (fun x hx => by cases hx), (fun k hk _ => Or.inl hk), (fun x hx => by cases hx)⟩
theorem TrSt.below {w0 wr W : World} {sb N : Nat} {en tr : SlR} {mp0 mp : Option Nat} {es0 es : List MEn} {InF : Nat → Prop} {o : SlR} {nds : List Nd} (h : TrSt w0 sb en tr mp0 es0 InF wr N mp es o nds) (hb : Below wr.heap.size wr W) : TrSt w0 sb en tr mp0 es0 InF W N mp es o nds :=
 ⟨RowV.below h.row (RowV.lt h.row) hb, h.known.below hb, h.frame.trans (Frame.of_below_all hb), h.muts, owns_below h.own hb, h.onew, fun x hx => ⟨(h.nodes x hx).1.below hb, (h.nodes x hx).2⟩, h.kfoot, h.nfoot⟩
end Go.Proofs.Ytekegfbjbainhaa
