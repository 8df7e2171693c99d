import Derived.Test.YtekegfbjbainhaaKPr18
import Derived.Deep.RegionLaw
set_option linter.unusedVariables false
set_option linter.unusedSimpArgs false

namespace Go.Proofs.Ytekegfbjbainhaa
open Go.RowKit
def partOf (l : List ItR) (c : Nat × Nat) : List ItR := (l.drop c.1).take c.2
theorem part_snoc (l : List ItR) (s k : Nat) (hs : s ≤ k) (hk : k < l.length) : partOf l (s, k + 1 - s) = partOf l (s, k - s) ++ [l[k]] := by
 unfold partOf
 have hd : (l.drop s)[k - s]? = some l[k] := by
  rw [List.getElem?_drop, show s + (k - s) = k by omega, List.getElem?_eq_getElem hk]
 obtain ⟨h1, h2⟩ := List.getElem?_eq_some_iff.1 hd
 simp only
 rw [show k + 1 - s = (k - s) + 1 by omega, List.take_succ_eq_append_getElem h1, h2]
theorem cuts_inv (level : Nat) (l : List ItR) : ∀ k, k < l.length → (cutAt level l k).1.map (partOf l) ++ partF level (l.drop k) (partOf l ((cutAt level l k).2, k - (cutAt level l k).2)) = partF level l []
 | 0, _ => by simp [cutAt, partOf]
 | k + 1, hk => by
  have ih := cuts_inv level l k (by omega)
  have hle := (cutAt_le level l k).1
  have hk' : k < l.length := by omega
  rw [List.drop_eq_getElem_cons hk', partF, ← part_snoc l _ k hle hk'] at ih
  have hne : (l.drop (k + 1)).isEmpty = false := by
   cases h : l.drop (k + 1) with
   | nil => have := congrArg List.length h; simp at this; omega
   | cons => rfl
  rw [hne] at ih
  unfold cutAt
  rw [List.getElem?_eq_getElem hk']
  simp only [Option.map_some, Option.getD_some]
  by_cases he : endB level l[k].key = true
  ·rw [if_pos (Or.inr he)]
   rw [he] at ih
   simp only [Bool.not_false, Bool.and_self, if_true] at ih
   simp only [List.map_append, List.map_cons, List.map_nil, List.append_assoc]
   rw [← ih]
   simp [partOf]
  ·rw [if_neg (fun h => by rcases h with h | h; omega; exact he h)]
   rw [Bool.eq_false_iff.2 he] at ih
   simpa using ih
theorem cuts_parted (level : Nat) (l : List ItR) (h : l ≠ []) : (cutsN level l).map (partOf l) = partedN level l := by
 obtain ⟨k, hk⟩ : ∃ k, l.length = k + 1 := ⟨l.length - 1, by have := List.length_pos_iff.2 h; omega⟩
 have ih := cuts_inv level l k (by omega)
 have hle := (cutAt_le level l k).1
 have hk' : k < l.length := by omega
 rw [List.drop_eq_getElem_cons hk', partF, ← part_snoc l _ k hle hk', List.drop_eq_nil_of_le (by omega)] at ih
 unfold cutsN
 rw [hk]
 unfold cutAt
 rw [if_pos (Or.inl hk.symm)]
 simp only [List.isEmpty_nil, Bool.not_true, Bool.and_false, Bool.false_eq_true, if_false, partF] at ih
 simp only [List.map_append, List.map_cons, List.map_nil]
 exact ih
theorem cuts_ok (level : Nat) (l : List ItR) : ∀ k, k ≤ l.length → ∀ c ∈ (cutAt level l k).1, c.1 + c.2 ≤ l.length
 | 0, _, c, hc => by simp [cutAt] at hc
 | k + 1, hk, c, hc => by
  have ih := cuts_ok level l k (by omega)
  have hle := (cutAt_le level l k).1
  unfold cutAt at hc
  split at hc
  ·rcases List.mem_append.1 hc with hc | hc
   ·exact ih c hc
   ·simp only [List.mem_singleton] at hc; subst hc; simp only; omega
  ·exact ih c hc
def norm1 (x : ItR) : ItR := ⟨x.key, x.more, 0⟩
def normL (l : List ItR) : List ItR := l.map norm1
theorem normL_id {l : List ItR} (h : ∀ x ∈ l, x.below = 0) : normL l = l := by
 unfold normL
 conv => rhs; rw [← List.map_id l]
 apply List.map_congr_left
 intro x hx
 obtain ⟨k, m, b⟩ := x
 have : b = 0 := h _ hx
 simp [norm1, this]
theorem partF_norm (level : Nat) : ∀ (r cur : List ItR), partF level (normL r) (normL cur) = (partF level r cur).map normL
 | [], cur => by simp [normL, partF]
 | x :: r, cur => by
  have h1 : normL (x :: r) = norm1 x :: normL r := rfl
  have h2 : normL cur ++ [norm1 x] = normL (cur ++ [x]) := by simp [normL]
  have h3 : (normL r).isEmpty = r.isEmpty := by cases r <;> rfl
  have h4 : (norm1 x).key = x.key := rfl
  rw [h1, partF, partF, h2, h3, h4]
  split
  ·rw [List.map_cons, ← partF_norm level r []]; rfl
  ·exact partF_norm level r (cur ++ [x])
theorem parted_norm (level : Nat) (l : List ItR) : partedN level (normL l) = (partedN level l).map normL := partF_norm level l []
theorem lastK_norm (p : List ItR) : lastK (normL p) = lastK p := by
 unfold lastK normL
 rw [List.getLast?_map]
 cases p.getLast? <;> rfl
theorem code_norm (level : Nat) (p : List ItR) : codeB level (normL p) = codeB level p := by
 unfold codeB normL
 rw [List.length_map, List.flatMap_map]
 rfl
def upOf (level : Nat) (p : List ItR) : ItR := ⟨lastK p, digB (codeB level p), 0⟩
theorem up_norm (level : Nat) (p : List ItR) : upOf level (normL p) = upOf level p := by
 unfold upOf; rw [lastK_norm, code_norm]
theorem next_norm (level : Nat) : ∀ (i : Nat) (ps : List (List ItR)), normL (nextF level i ps) = ps.map (upOf level)
 | _, [] => rfl
 | i, p :: r => by
  have := next_norm level (i + 1) r
  unfold nextF
  simp only [normL, List.map_cons] at this ⊢
  rw [this]; rfl
def growP : Nat → Nat → List ItR → Nat × List ItR
 | 0, level, _ => (level, [])
 | f + 1, level, l => if (partedN level l).length = 1 then (level, (partedN level l).headD []) else growP f (level + 1) ((partedN level l).map (upOf level))
theorem growP_eq : ∀ (f level : Nat) (l : List ItR), 7 ≤ level + f → 1 ≤ f → growP f level (normL l) = (level + (grownF f level l).length - 1, normL (((grownF f level l)[(grownF f level l).length - 1]?.getD []).headD []))
 | 0, _, _, _, h => absurd h (by omega)
 | f + 1, level, l, hf, _ => by
  unfold growP grownF
  rw [parted_norm, List.length_map]
  by_cases h1 : (partedN level l).length = 1
  ·rw [if_pos h1, if_pos h1]
   simp only [List.length_singleton]
   refine Prod.ext (by simp only; omega) ?_
   simp only [Nat.sub_self, List.getElem?_cons_zero, Option.getD_some]
   cases partedN level l <;> rfl
  ·rw [if_neg h1, if_neg h1]
   have hf1 : 1 ≤ f := by
    cases f with
    | zero =>
     exfalso
     apply h1
     unfold partedN
     rw [partF_six level (by omega)]; rfl
    | succ => omega
   have e : ((partedN level l).map normL).map (upOf level) = normL (nextF level 0 (partedN level l)) := by
    rw [next_norm, List.map_map]
    apply List.map_congr_left
    intro p _
    exact up_norm level p
   rw [e, growP_eq f (level + 1) _ (by omega) hf1]
   have hl := (grownF_length f (level + 1) (nextF level 0 (partedN level l)) hf1).1
   simp only [List.length_cons]
   refine Prod.ext (by simp only; omega) ?_
   simp only
   congr 2
   have : (grownF f (level + 1) (nextF level 0 (partedN level l))).length + 1 - 1 = ((grownF f (level + 1) (nextF level 0 (partedN level l))).length - 1) + 1 := by omega
   rw [this, List.getElem?_cons_succ]
theorem growP_root {l : List ItR} (h : ∀ x ∈ l, x.below = 0) : digB (codeB (growP 7 0 l).1 (growP 7 0 l).2) = rootB l := by
 have := growP_eq 7 0 l (by omega) (by omega)
 rw [normL_id h] at this
 rw [this]
 simp only [Nat.zero_add, code_norm]
 rfl
end Go.Proofs.Ytekegfbjbainhaa


namespace Go.Proofs.Ytekegfbjbainhaa
open Go.RowKit
def KFoot (es : List MEn) (k : Nat) : Prop := ∃ e ∈ es, ∃ x ∈ e.ns, ndF x k
theorem KnownAt.frameS {w W : World} {S : Nat → Prop} {sb N : Nat} {mp : Option Nat} {es : List MEn} (K : KnownAt w sb mp es N) (hf : Frame S w W) (h1 : ∀ k, KMut sb mp es k → ¬ S k) (h2 : ∀ k, KFoot es k → ¬ S k) : KnownAt W sb mp es N := by
 refine ⟨?_, K.d8, fun e he => owns_frame (K.own e he) hf (fun k hk => h1 k (Or.inr (Or.inr ⟨e, he, hk⟩))), fun e he x hx => (K.nodes e he x hx).frame hf (fun k hk => h2 k ⟨e, he, x, hx, hk⟩), K.apart, K.foot, K.msb, K.cnt, K.kd⟩
 have h := K.map
 cases mp with
 | none => exact h
 | some m =>
  obtain ⟨arr, clock, hh, g1, g2, g3⟩ := h
  exact ⟨arr, clock, by rw [hf.block m (Array.getElem?_eq_some_iff.1 hh).1 (h1 m (Or.inr (Or.inl rfl)))]; exact hh, g1, g2, g3⟩
theorem KFoot.lt {w : World} {sb N : Nat} {mp : Option Nat} {es : List MEn} (K : KnownAt w sb mp es N) : ∀ k, KFoot es k → k < w.heap.size := fun k ⟨e, he, x, hx, hk⟩ => (K.nodes e he x hx).lt k hk
theorem KMut.ne {w : World} {sb N : Nat} {mp : Option Nat} {es : List MEn} {en tr : SlR} (hR : StoRow w sb en mp tr) (K : KnownAt w sb mp es N) {base e size n : Nat} {v : Value} {xs : List Value} (ho : w.ownsRow base e size v n xs) (h1 : e ≠ 89) (h2 : e ≠ 96) : ∀ k, v.ownBlock = some k → ¬ KMut sb mp es k := fun k hk hm => by
 rcases hm with rfl | h | ⟨f, hf, h⟩
 ·exact owns_ne ho hR h1 hk
 ·subst h
  obtain ⟨arr, clock, hh, _⟩ := K.map
  rcases ho.2 with ⟨hv, _⟩ | ⟨g, cap, cur, hv, _, hb, _⟩
  ·rw [hv] at hk; cases hk
  ·rw [hv] at hk
   simp only [Value.ownBlock, Option.some.injEq] at hk
   subst hk
   rw [hh] at hb; cases hb
 ·exact owns_ne2 ho (K.own f hf) h2 k hk h
structure TrSt (w0 : World) (sb : Nat) (en tr : SlR) (mp0 : Option Nat) (es0 : List MEn) (InF : Nat → Prop) (wr : World) (N : Nat) (mp : Option Nat) (es : List MEn) (o : SlR) (nds : List Nd) : Prop where
 row : StoRow wr sb en mp tr
 known : KnownAt wr sb mp es N
 frame : Frame (KMut sb mp0 es0) w0 wr
 muts : ∀ k, KMut sb mp es k → k < w0.heap.size → KMut sb mp0 es0 k
 own : wr.ownsRow w0.heap.size 96 1 o.val nds.length (nds.map (fun x => ptrV x.b))
 onew : ∀ k, o.val.ownBlock = some k → ¬ KMut sb mp es k ∧ ¬ KFoot es k ∧ (∀ nd ∈ nds, ¬ ndF nd k)
 nodes : ∀ nd ∈ nds, NdOk wr nd ∧ (∀ k, ndF nd k → ¬ KMut sb mp es k)
 kfoot : ∀ k, KFoot es k → k < w0.heap.size → KFoot es0 k ∨ InF k
 nfoot : ∀ nd ∈ nds, ∀ k, ndF nd k → k < w0.heap.size → KFoot es0 k ∨ InF k
theorem TrSt.step {w0 wr w' Wa w'' : World} {sb N : Nat} {en tr : SlR} {mp0 mp : Option Nat} {es0 es : List MEn} {InF : Nat → Prop} {o o' : SlR} {nds : List Nd} {nd : Nd} {level : Nat} {xs : List EnP} {its : List ItR} {bl : List Nat} (h : TrSt w0 sb en tr mp0 es0 InF wr N mp es o nds)
  (hn : NodeOut wr sb N en tr mp es level xs its bl nd w') (hin : ∀ k, ((∃ x ∈ xs, ∃ y, x.k.a = some y ∧ y.block = k) ∨ k ∈ bl) → k < w0.heap.size → KFoot es0 k ∨ InF k) (hino : ∀ k, ((∃ x ∈ xs, ∃ y, x.k.a = some y ∧ y.block = k) ∨ k ∈ bl) → o.val.ownBlock ≠ some k)
  (ho : w''.ownsRow w0.heap.size 96 1 o'.val (nds.length + 1) (nds.map (fun x => ptrV x.b) ++ [ptrV nd.b])) (hWa : Below w'.heap.size w' Wa) (hf : Frame (fun k => o.val.ownBlock = some k) Wa w'') (hat : o'.val.ownBlock = o.val.ownBlock ∨ o'.val.ownBlock = some Wa.heap.size) :
  ∃ mp' es', TrSt w0 sb en tr mp0 es0 InF w'' (N + 1) mp' es' o' (nds ++ [nd]) := by
 obtain ⟨mp', es', r1, r2, r3, _, _, _, r4, r5, r6, r7, r8⟩ := hn
 have hzr := h.frame.size
 have hz' := r6.size
 have hown : ∀ k, o.val.ownBlock = some k → w0.heap.size ≤ k ∧ k < wr.heap.size := fun k hk => h.own.lt k hk
 have hnin : ∀ k, o.val.ownBlock = some k → ¬ ndF nd k := fun k hk hnd => by
  obtain ⟨g1, g2, g3⟩ := h.onew k hk
  rcases r8 k hnd (hown k hk).2 with ⟨e0, he0, hx⟩ | hi
  ·exact g2 ⟨e0, he0, nd, hx, hnd⟩
  ·exact hino k hi hk
 have hom : ∀ k, o.val.ownBlock = some k → ¬ KMut sb mp' es' k := fun k hk hm => (h.onew k hk).1 (r5 k hm (hown k hk).2)
 have hkf : ∀ k, KFoot es' k → k < wr.heap.size → KFoot es k ∨ ndF nd k := fun k ⟨e, he, x, hx, hk⟩ _ => by
  rcases r7 e he x hx with rfl | ⟨e0, he0, hx0⟩
  ·exact Or.inr hk
  ·exact Or.inl ⟨e0, he0, x, hx0, hk⟩
 have hof : ∀ k, o.val.ownBlock = some k → ¬ KFoot es' k := fun k hk hkf' => by
  rcases hkf k hkf' (hown k hk).2 with g | g
  ·exact (h.onew k hk).2.1 g
  ·exact hnin k hk g
 have hndnew : ∀ k, ndF nd k → k < w0.heap.size → KFoot es0 k ∨ InF k := fun k hk hlt => by
  rcases r8 k hk (by omega) with ⟨e0, he0, hx⟩ | hi
  ·exact h.kfoot k ⟨e0, he0, nd, hx, hk⟩ hlt
  ·exact hin k hi hlt
 have how : w'.ownsRow w0.heap.size 96 1 o.val nds.length (nds.map (fun x => ptrV x.b)) := owns_frame h.own r6 (fun k hk => (h.onew k hk).1)
 have fT : Frame (fun k => o.val.ownBlock = some k) w' w'' := (Frame.of_below_all hWa).trans hf
 have hzT := fT.size
 refine ⟨mp', es', RowV.of_block r1 (fT.block sb (RowV.lt r1) (fun e => owns_ne how r1 (by decide) e)), r2.frameS fT (fun k hk hk2 => hom k hk2 hk) (fun k hk hk2 => hof k hk2 hk), ?_, fun k hk hlt => h.muts k (r5 k hk (by omega)) hlt, by rw [List.length_append, List.map_append]; exact ho, ?_, ?_, ?_, ?_⟩
 ·refine (h.frame.inside r6 (fun k hlt hk => h.muts k hk hlt)).inside fT (fun k hlt hk => ?_)
  have := (hown k hk).1; omega
 ·intro k hk
  rcases hat with g | g
  ·rw [g] at hk
   refine ⟨hom k hk, hof k hk, fun x hx => ?_⟩
   rcases List.mem_append.1 hx with hx | hx
   ·exact (h.onew k hk).2.2 x hx
   ·simp only [List.mem_singleton] at hx; subst hx; exact hnin k hk
  ·rw [g] at hk
   have hkk := Option.some.inj hk
   have hzW := hWa.size
   refine ⟨fun hm => ?_, fun hm => ?_, fun x hx hm => ?_⟩
   ·have := KMut.lt r2 (RowV.lt r1) k hm; omega
   ·have := KFoot.lt r2 k hm; omega
   ·rcases List.mem_append.1 hx with hx | hx
    ·have := (h.nodes x hx).1.lt k hm; omega
    ·simp only [List.mem_singleton] at hx; subst hx
     have := r3.lt k hm; omega
 ·intro x hx
  rcases List.mem_append.1 hx with hx | hx
  ·obtain ⟨g1, g2⟩ := h.nodes x hx
   refine ⟨(g1.frame r6 g2).frame fT (fun k hk hk2 => (h.onew k hk2).2.2 x hx hk), fun k hk hm => g2 k hk (r5 k hm (g1.lt k hk))⟩
  ·simp only [List.mem_singleton] at hx; subst hx
   exact ⟨r3.frame fT (fun k hk hk2 => hnin k hk2 hk), r4⟩
 ·intro k hk hlt
  rcases hkf k hk (by omega) with g | g
  ·exact h.kfoot k g hlt
  ·exact hndnew k g hlt
 ·intro x hx k hk hlt
  rcases List.mem_append.1 hx with hx | hx
  ·exact h.nfoot x hx k hk hlt
  ·simp only [List.mem_singleton] at hx; subst hx; exact hndnew k hk hlt
theorem TrSt.start {w : World} {sb N : Nat} {en tr : SlR} {mp : Option Nat} {es : List MEn} {InF : Nat → Prop} (hR : StoRow w sb en mp tr) (K : KnownAt w sb mp es N) : TrSt w sb en tr mp es InF w N mp es ⟨none, 0, 0⟩ [] :=
 ⟨hR, K, Frame.refl _ _, fun k hk _ => hk, World.ownsRow_nil _ _ _ _, (fun k hk => by cases hk), (fun x hx => by cases hx), (fun k hk _ => Or.inl hk), (fun x hx => by cases hx)⟩
theorem TrSt.below {w0 wr W : World} {sb N : Nat} {en tr : SlR} {mp0 mp : Option Nat} {es0 es : List MEn} {InF : Nat → Prop} {o : SlR} {nds : List Nd} (h : TrSt w0 sb en tr mp0 es0 InF wr N mp es o nds) (hb : Below wr.heap.size wr W) : TrSt w0 sb en tr mp0 es0 InF W N mp es o nds :=
 ⟨RowV.below h.row (RowV.lt h.row) hb, h.known.below hb, h.frame.trans (Frame.of_below_all hb), h.muts, owns_below h.own hb, h.onew, fun x hx => ⟨(h.nodes x hx).1.below hb, (h.nodes x hx).2⟩, h.kfoot, h.nfoot⟩
end Go.Proofs.Ytekegfbjbainhaa


namespace Go.Proofs.Ytekegfbjbainhaa
open Go.RowKit
def keyF (xs : List EnP) (k : Nat) : Prop := ∃ x ∈ xs, ∃ y, x.k.a = some y ∧ y.block = k
theorem PageIn.part {w : World} {sb : Nat} {mp : Option Nat} {es : List MEn} {en : SlR} {xs : List EnP} {its : List ItR} (hE : EntAt w en xs its) (h60 : its.length ≤ 60) (hok : ∀ x ∈ its, ItOk x) (hnm : ∀ x ∈ its, x.below = 0) (hf : ∀ k, entF en xs k → ¬ KMut sb mp es k) (c : Nat × Nat) (hc : c.1 + c.2 ≤ its.length) :
  PageIn w sb mp es 0 (cutS en.a en.cap c.1 10) c.2 ((xs.drop c.1).take c.2) (partOf its c) ⟨none, 0, 0⟩ [] := by
 obtain ⟨hen, hnc, hcm, _⟩ := owns_cap (a := en.a) (n' := en.n) (cap := en.cap) hE.own
 have hsl := (SlV.ofOwn (s := en) hE.own).1
 have hl := hE.len
 have hd8 : ∀ x ∈ xs.drop c.1, x.d.length = 8 := fun x hx => hE.d8 x (List.mem_of_mem_drop hx)
 have hlen : ((xs.drop c.1).take c.2).length = c.2 := by rw [List.length_take, List.length_drop]; omega
 refine ⟨?_, hlen.symm, ?_, ?_, ⟨?_, fun h => absurd rfl h, ?_, ?_, by omega⟩, SlV.nil _ _, rfl, fun _ => rfl, by simp, (fun b hb => by cases hb), ?_, (fun b hb => by cases hb)⟩
 ·have h1 := SlV.cut (n := en.n) (cap := en.cap) (i := c.1) (size := 10) hsl (by rw [ensC_length _ hE.d8, hen]) (by omega) (by omega)
  rw [← ensC_drop xs hE.d8 c.1 (by omega)] at h1
  have h2 := h1.take (c.2 * 10)
  rw [← ensC_take (xs.drop c.1) hd8 c.2 (by rw [List.length_drop]; omega)] at h2
  exact h2
 ·rw [hlen]; unfold partOf; rw [List.length_take, List.length_drop]; omega
 ·intro i h1 h2
  have hi : i < c.2 := by rw [hlen] at h1; exact h1
  have e1 : ((xs.drop c.1).take c.2)[i] = xs[c.1 + i]'(by omega) := by rw [List.getElem_take, List.getElem_drop]
  have e2 : (partOf its c)[i] = its[c.1 + i]'(by omega) := by
   have h3 : (partOf its c)[i]? = its[c.1 + i]? := by unfold partOf; rw [List.getElem?_take_of_lt hi, List.getElem?_drop]
   rw [List.getElem?_eq_getElem h2, List.getElem?_eq_getElem (by omega)] at h3
   exact Option.some.inj h3
  rw [e1, e2]
  exact (hE.ok _ (by omega) (by omega)).toL
 ·intro x hx; exact hok x (List.mem_of_mem_drop (List.mem_of_mem_take hx))
 ·intro x hx; exact hnm x (List.mem_of_mem_drop (List.mem_of_mem_take hx))
 ·unfold partOf; rw [List.length_take, List.length_drop]; omega
 ·intro x hx y hy
  exact hf _ (Or.inr ⟨x, List.mem_of_mem_drop (List.mem_of_mem_take hx), Or.inl ⟨y, hy, rfl⟩⟩)
set_option maxRecDepth 100000 in
set_option maxHeartbeats 4000000 in
theorem lowest_any (sb N : Nat) (en tr : SlR) (mp : Option Nat) (es : List MEn) (xs : List EnP) (its : List ItR) (w : World) (hR : StoRow w sb en mp tr) (K : KnownAt w sb mp es N) (hN : N ≤ 900000) (hE : EntAt w en xs its) (h60 : its.length ≤ 60) (hok : ∀ x ∈ its, ItOk x) (hnm : ∀ x ∈ its, x.below = 0) (hf : ∀ k, entF en xs k → ¬ KMut sb mp es k) :
  Calls Try.prog 76 #[.pointer (some ⟨sb, 1, none⟩), en.val] w fun e w' => ∃ (o : SlR) (nds : List Nd) (M : Nat) (mp' : Option Nat) (es' : List MEn), e = .returned o.val ∧ TrSt w sb en tr mp es (keyF xs) w' M mp' es' o nds ∧ M ≤ N + 61 ∧ nds.map (·.its) = partedN 0 its ∧ (∀ nd ∈ nds, nd.level = 0 ∧ nd.bl = []) := by
 obtain ⟨hen, hnc, hcm, had⟩ := owns_cap (a := en.a) (n' := en.n) (cap := en.cap) hE.own
 have hst := TrSt.start (InF := keyF xs) hR K
 by_cases hne : its = []
 ·subst hne
  have hx0 : xs = [] := List.eq_nil_of_length_eq_zero (by have := hE.len; simp at this; omega)
  subst hx0
  have hn0 : en.n = 0 := by simpa using hen
  have hpg : PageIn w sb mp es 0 none 0 [] [] ⟨none, 0, 0⟩ [] := ⟨SlV.nil _ _, rfl, rfl, (fun i h1 => absurd h1 (Nat.not_lt_zero _)), ⟨(fun x hx => by cases hx), fun h => absurd rfl h, (fun x hx => by cases hx), by simp, by omega⟩, SlV.nil _ _, rfl, fun _ => rfl, by simp, (fun b hb => by cases hb), (fun x hx => by cases hx), (fun b hb => by cases hb)⟩
  have HC : Hid (Calls _ _ _ _ _) := node_any sb N en tr mp es 0 none 0 0 [] [] ⟨none, 0, 0⟩ [] w hR K (by omega) hpg
  have HST : Hid (TrSt w sb en tr mp es (keyF []) w N mp es ⟨none, 0, 0⟩ []) := hst
  have hnI : ((en.n : Int) == 0) = true := by simp [hn0]
  clear hE hf hst hpg hen hnc hcm had hn0
  unfold SlR.val at HC ⊢
  go_enter Try.func76, Try.ntmps76
  go_wp2_with (go_at_call 89; refine HC.out.mono ?_; rintro e w1 ⟨nd, rfl, hout⟩)
  go_ret
  have hlv := hout
  obtain ⟨_, _, _, _, _, h1, h2, h3, _⟩ := hlv
  have ho := owns_built w1 w.heap.size 96 1 1 [ptrV nd.b] (by obtain ⟨_, _, _, _, _, _, _, _, _, _, g, _⟩ := hout; exact g.size) rfl (by simp [maxLen])
  obtain ⟨mp', es', hst2⟩ := HST.out.step (o' := ⟨some ⟨w1.heap.size, 0, none⟩, 1, 1⟩) hout (fun k hk => by rcases hk with ⟨x, hx, _⟩ | hk; cases hx; cases hk) (fun k hk => by rcases hk with ⟨x, hx, _⟩ | hk; cases hx; cases hk) ho (Below.refl _ _) ((Frame.refl _ _).alloc _) (Or.inr rfl)
  exact ⟨⟨some ⟨w1.heap.size, 0, none⟩, 1, 1⟩, [nd], N + 1, mp', es', rfl, hst2, by omega, by simp [h2, partedN, partF], fun x hx => by simp only [List.mem_singleton] at hx; subst hx; exact ⟨h1, h3⟩⟩
 ·have hpos := List.length_pos_iff.2 hne
  have hlx := hE.len
  have HPC : Hid (Calls _ _ _ _ _) := partedE_any 0 en.a en.n en.cap xs its w (by rw [hen, hE.len]) hE.len (by omega) (by omega) (by omega) hcm hok (SlV.ofOwn (s := en) hE.own).1 hE.ok
  have HCP : Hid ((cutsN 0 its).map (partOf its) = partedN 0 its) := cuts_parted 0 its hne
  have HCO : Hid (∀ c ∈ cutsN 0 its, c.1 + c.2 ≤ its.length) := fun c hc => cuts_ok 0 its its.length (Nat.le_refl _) c hc
  have HCL : Hid ((cutsN 0 its).length ≤ 60) := by have := (cutAt_le 0 its its.length).2; unfold Hid cutsN; omega
  generalize cutsN 0 its = cs at *
  have hnI : ((en.n : Int) == 0) = false := by simp; omega
  have HNODE : Hid (∀ (wr : World) (M : Nat) (mp1 : Option Nat) (es1 : List MEn) (o : SlR) (nds : List Nd) (c : Nat × Nat), TrSt w sb en tr mp es (keyF xs) wr M mp1 es1 o nds → M ≤ 1000000 → c ∈ cs → Calls Try.prog 89 #[.pointer (some ⟨sb, 1, none⟩), .agg #[.int .i64 0, .slice (cutS en.a en.cap c.1 10) c.2 (en.cap - c.1)], .slice none 0 0] wr fun e w' => ∃ nd, e = .returned (.pointer (some ⟨nd.b, 0, none⟩)) ∧ NodeOut wr sb M en tr mp1 es1 0 ((xs.drop c.1).take c.2) (partOf its c) [] nd w') := fun wr M mp1 es1 o nds c h hM hc => by
   have hEr := hE.frame h.frame hf
   refine node_any sb M en tr mp1 es1 0 _ c.2 _ _ _ ⟨none, 0, 0⟩ [] wr h.row h.known hM (PageIn.part hEr h60 hok hnm (fun k hk hm => hf k hk (h.muts k hm ?_)) c (HCO.out c hc))
   rcases hk with hk | ⟨x, hx, ⟨y, hy, rfl⟩ | ⟨y, hy, rfl⟩⟩
   ·exact (hE.own.lt k hk).2
   ·obtain ⟨i, hi, rfl⟩ := List.getElem_of_mem hx
    exact (hE.ok i hi (by omega)).key.lt y hy
   ·obtain ⟨i, hi, rfl⟩ := List.getElem_of_mem hx
    exact (hE.ok i hi (by omega)).val.lt y hy
  have HKL : Hid (∀ k, keyF xs k → k < w.heap.size) := fun k ⟨x, hx, y, hy, hk⟩ => by
   obtain ⟨i, hi, rfl⟩ := List.getElem_of_mem hx
   rw [← hk]; exact (hE.ok i hi (by omega)).key.lt y hy
  have HST : Hid (TrSt w sb en tr mp es (keyF xs) w N mp es ⟨none, 0, 0⟩ []) := hst
  clear hE hf hst had hcm hnc hen hok hnm h60 hpos hlx
  unfold SlR.val at HPC ⊢
  go_enter Try.func76, Try.ntmps76
  go_wp2_with (go_at_call 90; refine HPC.out.mono ?_; rintro e w1 ⟨p, rfl, hop, hbp⟩)
  have hpn : p.n = cs.length := (owns_cap (a := p.a) (n' := p.n) (cap := p.cap) hop).1
  have HPN : Hid (p.n = cs.length) := hpn
  have hpnI : (p.n : Int) ≤ 60 := by have := HCL.out; omega
  have hp60 : p.n ≤ 60 := by have := HCL.out; omega
  have HOP : Hid (w1.ownsRow w.heap.size 83 1 (.slice p.a p.n p.cap) cs.length (cs.map (cutV en.a en.cap 10))) := hop
  have HST1 : Hid (TrSt w sb en tr mp es (keyF xs) w1 N mp es ⟨none, 0, 0⟩ []) := HST.out.below hbp
  clear hpn hop
  go_loopw [5, 7, 18] (fun nv _ ix wr => ∃ (k M : Nat) (mp1 : Option Nat) (es1 : List MEn) (o : SlR) (nds : List Nd), k ≤ p.n ∧ ix = .int .i64 k ∧ nv = o.val ∧ M ≤ N + k ∧ Hid (TrSt w sb en tr mp es (keyF xs) wr M mp1 es1 o nds) ∧ Hid (nds.map (·.its) = (cs.take k).map (partOf its)) ∧ Hid (∀ nd ∈ nds, nd.level = 0 ∧ nd.bl = []) ∧ Hid (wr.ownsRow w.heap.size 83 1 (.slice p.a p.n p.cap) cs.length (cs.map (cutV en.a en.cap 10)))) (fun _ _ ix _ => p.n - (intOf ix).toNat)
  case atStart => exact ⟨0, N, mp, es, ⟨none, 0, 0⟩, [], by omega, by simp, rfl, by omega, HST1, rfl, (fun nd hnd => by cases hnd), HOP⟩
  case round =>
   obtain ⟨k, M, mp1, es1, o, nds, hk, rfl, rfl, hM, HT, HI, HL, HPA⟩ := hrel
   by_cases hlt : k < p.n
   ·have hltI : (k : Int) < p.n := by omega
    have hkc : k < cs.length := by have := HPN.out; omega
    obtain ⟨b, q, hpa, hb, hcell⟩ := (SlV.ofOwn (s := p) HPA.out).1 k (by simpa using hkc)
    have hc2 : wr.cell? ⟨b, q + k, none⟩ = some (.slice (cutS en.a en.cap cs[k].1 10) cs[k].2 (en.cap - cs[k].1)) := by rw [hcell]; simp [cutV]
    have HC : Hid (Calls _ _ _ _ _) := HNODE.out wr M mp1 es1 o nds cs[k] HT.out (by omega) (List.getElem_mem hkc)
    have HTK : Hid ((cs.take (k + 1)).map (partOf its) = (cs.take k).map (partOf its) ++ [partOf its cs[k]]) := by unfold Hid; rw [List.take_succ_eq_append_getElem hkc, List.map_append]; rfl
    have HIN : Hid (∀ k', ((∃ x ∈ (xs.drop cs[k].1).take cs[k].2, ∃ y, x.k.a = some y ∧ y.block = k') ∨ k' ∈ ([] : List Nat)) → keyF xs k') := fun k' h => by
     rcases h with ⟨x, hx, h⟩ | h
     ·exact ⟨x, List.mem_of_mem_drop (List.mem_of_mem_take hx), h⟩
     ·cases h
    obtain ⟨pa, pn, pc⟩ := p
    simp only at hpa hltI hlt hk hp60 hpnI HPN HPA HOP
    subst hpa
    generalize cs[k] = c at *
    have HNK : Hid (nds.length ≤ k) := by
     have := congrArg List.length HI.out
     simp at this
     unfold Hid; omega
    have HOW : Hid (∀ (w2 : World) (nd : Nd), NodeOut wr sb M en tr mp1 es1 0 ((xs.drop c.1).take c.2) (partOf its c) [] nd w2 → (w2.alloc (.cells #[.pointer (some ⟨nd.b, 0, none⟩)] 96)).ownsRow w.heap.size 96 1 (.slice o.a o.n o.cap) nds.length (nds.map (fun x => ptrV x.b)) ∧ w.heap.size ≤ (w2.alloc (.cells #[.pointer (some ⟨nd.b, 0, none⟩)] 96)).heap.size ∧ w2.ownsRow w.heap.size 83 1 (.slice (some ⟨b, q, none⟩) pn pc) cs.length (cs.map (cutV en.a en.cap 10))) := fun w2 nd hout => by
     obtain ⟨_, _, _, _, _, _, _, _, _, _, r6, _⟩ := hout
     have h1 := owns_frame HT.out.own r6 (fun k hk => (HT.out.onew k hk).1)
     refine ⟨h1.alloc _, ?_, owns_frame HPA.out r6 (KMut.ne HT.out.row HT.out.known HPA.out (by decide) (by decide))⟩
     have := HT.out.frame.size
     have := r6.size
     simp; omega
    have H1 : Hid (∀ nd : Nd, ∀ u ∈ [Value.pointer (some ⟨nd.b, 0, none⟩)], u.oneCell' = true) := fun nd u hu => by simp at hu; subst hu; rfl
    clear hcell
    unfold SlR.val
    go_wp2_with (first
     | (go_at_call 89; refine HC.out.mono ?_; rintro e w2 ⟨nd, rfl, hout⟩; obtain ⟨hox, hwx, hpx⟩ := HOW.out w2 nd hout)
     | (at_builtin; refine wp_appendV (by rfl) (.tmp 22) (.tmp 27) 87 (by rfl) w.heap.size 96 _ 1 8 Try.underlying87 Try.infoNodeP rfl (by decide) (.slice o.a o.n o.cap) nds.length (nds.map (fun x => ptrV x.b)) (by rfl) hox (some ⟨w2.heap.size, 0, none⟩) 1 1 [.pointer (some ⟨nd.b, 0, none⟩)] (by rfl) rfl (SlV.alloc_new w2 _ _) (fun h => by cases h) (H1.out nd) (by have := HNK.out; unfold maxLen; omega) (by have := HNK.out; omega) hwx ?_; intro v3 w3 ho3 hf3 hat3; obtain ⟨a3, c3, hv3, _⟩ := owns_form ho3; subst hv3))
    have hlv := hout
    obtain ⟨_, _, _, _, _, g1, g2, g3, _⟩ := hlv
    obtain ⟨mp2, es2, hst2⟩ := HT.out.step (o' := ⟨a3, nds.length + 1, c3⟩) hout (fun k' hk' _ => Or.inr (HIN.out k' hk')) (fun k' hk' e => by have := HKL.out k' (HIN.out k' hk'); have := (HT.out.own.lt k' e).1; omega) ho3 ((Below.refl _ _).alloc (Nat.le_refl _) _) hf3 hat3
    refine ⟨⟨k + 1, M + 1, mp2, es2, ⟨a3, nds.length + 1, c3⟩, nds ++ [nd], by omega, by go_num, rfl, by omega, hst2, ?_, ?_, ?_⟩, by simp [intOf]; omega⟩
    ·unfold Hid; rw [HTK.out, List.map_append, HI.out]; simp [g2]
    ·intro x hx
     rcases List.mem_append.1 hx with hx | hx
     ·exact HL.out x hx
     ·simp only [List.mem_singleton] at hx; subst hx; exact ⟨g1, g3⟩
    ·exact owns_frame (hpx.alloc _) hf3 (fun k' hk' e => owns_ne2 (hpx.alloc _) hox (by decide) k' hk' e)
   ·obtain rfl : k = p.n := by omega
    have HKE : Hid (cs.take p.n = cs) := by unfold Hid; rw [HPN.out, List.take_length]
    unfold SlR.val
    go_wp2
    go_ret
    exact ⟨o, nds, M, mp1, es1, rfl, HT.out, by omega, by rw [HI.out, HKE.out, HCP.out], HL.out⟩
end Go.Proofs.Ytekegfbjbainhaa


namespace Go.Proofs.Ytekegfbjbainhaa
open Go.RowKit
theorem TrSt.compose {w0 w w' : World} {sb N M : Nat} {en tr : SlR} {mp0 mp mp' : Option Nat} {es0 es es' : List MEn} {InF : Nat → Prop} {o o' : SlR} {nds nds' : List Nd} (h : TrSt w0 sb en tr mp0 es0 InF w N mp es o nds) (g : TrSt w sb en tr mp es (fun k => ∃ nd ∈ nds, ndF nd k) w' M mp' es' o' nds') : TrSt w0 sb en tr mp0 es0 InF w' M mp' es' o' nds' := by
 have hz := h.frame.size
 have key : ∀ k, (KFoot es k ∨ ∃ nd ∈ nds, ndF nd k) → k < w0.heap.size → KFoot es0 k ∨ InF k := fun k hk hlt => by
  rcases hk with hk | ⟨nd, hnd, hk⟩
  ·exact h.kfoot k hk hlt
  ·exact h.nfoot nd hnd k hk hlt
 exact ⟨g.row, g.known, h.frame.inside g.frame (fun k hlt hk => h.muts k hk hlt), fun k hk hlt => h.muts k (g.muts k hk (by omega)) hlt, owns_base g.own (fun k hk => by have := (g.own.lt k hk).1; omega), g.onew, g.nodes, fun k hk hlt => key k (g.kfoot k hk (by omega)) hlt, fun nd hnd k hk hlt => key k (g.nfoot nd hnd k hk (by omega)) hlt⟩
def upE (nd : Nd) : EnP := ⟨nd.la, ⟨none, 0, 0⟩, digB (codeB nd.level nd.its)⟩
def upI (nd : Nd) : ItR := upOf nd.level nd.its
theorem PageIn.up {w : World} {sb : Nat} {mp : Option Nat} {es : List MEn} {level : Nat} {a : Option Addr} {bs : SlR} {nds : List Nd} (hlv : level ≠ 0) (hl6 : level ≤ 6) (h60 : nds.length ≤ 60) (hnd : ∀ nd ∈ nds, NdOk w nd ∧ (∀ k, ndF nd k → ¬ KMut sb mp es k)) (hs : SlE w a (nds.map upE))
  (hb : SlV w bs.a ((nds.map (·.b)).map ptrV)) (hbn : bs.n = nds.length) (hbnil : bs.a = none → bs.cap = 0) : PageIn w sb mp es level a nds.length (nds.map upE) (nds.map upI) bs (nds.map (·.b)) := by
 refine ⟨hs, by simp, by simp, ?_, ⟨?_, ?_, ?_, by simp; omega, hl6⟩, hb, by simp [hbn], hbnil, by simp; omega, ?_, ?_, ?_⟩
 ·intro i h1 h2
  have hi : i < nds.length := by simpa using h1
  simp only [List.getElem_map]
  have h := (hnd nds[i] (List.getElem_mem hi)).1
  exact ⟨h.la, fun e => absurd e hlv, fun _ => rfl, rfl⟩
 ·intro x hx
  obtain ⟨nd, hn, rfl⟩ := List.mem_map.1 hx
  exact ⟨lastK_le (hnd nd hn).1.pg.ok, by show (digB _).length ≤ 12; rw [digB_length]; omega⟩
 ·intro _ x hx
  obtain ⟨nd, hn, rfl⟩ := List.mem_map.1 hx
  rfl
 ·intro x hx
  obtain ⟨nd, hn, rfl⟩ := List.mem_map.1 hx
  rfl
 ·intro b hb
  obtain ⟨nd, hn, rfl⟩ := List.mem_map.1 hb
  exact ⟨_, (hnd nd hn).1.row⟩
 ·intro x hx y hy
  obtain ⟨nd, hn, rfl⟩ := List.mem_map.1 hx
  exact (hnd nd hn).2 _ (Or.inr (Or.inl ⟨y, hy, rfl⟩))
 ·intro b hb
  obtain ⟨nd, hn, rfl⟩ := List.mem_map.1 hb
  exact (hnd nd hn).2 _ (Or.inl rfl)
structure BoxSt (w wr : World) (pb level : Nat) (v : SlR) (xs : List EnP) : Prop where
 bel : Below w.heap.size w wr
 row : RowV wr pb 128 [.int .i64 (level : Int), v.val]
 own : wr.ownsRow w.heap.size 103 10 v.val xs.length (ensC xs)
theorem BoxSt.push {w wr W w3 : World} {pb level : Nat} {v v' : SlR} {xs : List EnP} {x : EnP} (h : BoxSt w wr pb level v xs) (hpb : w.heap.size ≤ pb) (hW : Below wr.heap.size wr W) (ho : w3.ownsRow w.heap.size 103 10 v'.val (xs.length + 1) (ensC xs ++ enC x)) (hf : Frame (fun k => v.val.ownBlock = some k) W w3) : BoxSt w (w3.setCell ⟨pb, 1, none⟩ v'.val) pb level v' (xs ++ [x]) ∧ w3.cell? ⟨pb, 1, none⟩ = some v.val ∧ w3.frozen? ⟨pb, 1, none⟩ = false := by
 have hoW := owns_below h.own hW
 have hrW := h.row.below h.row.lt hW
 have hr3 : RowV w3 pb 128 [.int .i64 (level : Int), v.val] := hrW.of_block (hf.block pb hrW.lt (fun e => owns_ne hoW hrW (by decide) e))
 have hbW : Below w.heap.size w W := h.bel.trans (hW.mono h.bel.size)
 have hb3 : Below w.heap.size w w3 := hbW.trans (hf.below hbW.size (fun k hk => (hoW.lt k hk).1))
 refine ⟨⟨hb3.setCell (p := ⟨pb, 1, none⟩) hpb _, by simpa using hr3.set 1 v'.val, ?_⟩, hr3.cell 1 (by simp), hr3.frozen 1⟩
 have e1 : ensC (xs ++ [x]) = ensC xs ++ enC x := by simp [ensC]
 rw [List.length_append, e1]
 exact owns_frame ho ((Frame.refl (fun k => k = pb) _).setCell (p := ⟨pb, 1, none⟩) rfl _) (fun k hk e => owns_ne ho hr3 (by decide) (by rw [hk, e]))
end Go.Proofs.Ytekegfbjbainhaa
