
import Derived.Test.YtekegfbjbainhaaKJoin7
import Derived.Test.YtekegfbjbainhaaKPr6
set_option linter.unusedVariables false
set_option linter.unusedSimpArgs false
namespace Go.Proofs.Ytekegfbjbainhaa
open Go.RowKit
theorem KnownAt.frame {w W : World} {sb m N : Nat} {es : List MEn} (K : KnownAt w sb (some m) es N) (hf : Frame (fun k => k = m) w W) (hm : MapAt W (some m) es) : KnownAt W sb (some m) es N :=
 ⟨hm, K.d8, fun e he => owns_frame (K.own e he) hf (fun k hk e' => (K.msb e he k hk).2 (by rw [e'])), fun e he x hx => (K.nodes e he x hx).frame hf (fun k hk e' => K.foot e he x hx k hk (Or.inr (Or.inl (by rw [e'])))), K.apart, K.foot, K.msb, K.cnt, K.kd⟩
theorem KMut_snoc {sb k : Nat} {mp : Option Nat} {es : List MEn} {d : List UInt8} : KMut sb mp (es ++ [⟨d, ⟨none, 0, 0⟩, []⟩]) k ↔ KMut sb mp es k := by
 constructor
 ·rintro (h | h | ⟨e, he, h⟩)
  ·exact Or.inl h
  ·exact Or.inr (Or.inl h)
  ·rcases List.mem_append.1 he with he | he
   ·exact Or.inr (Or.inr ⟨e, he, h⟩)
   ·simp only [List.mem_singleton] at he
    subst he
    simp [SlR.val, Value.ownBlock] at h
 ·rintro (h | h | ⟨e, he, h⟩)
  ·exact Or.inl h
  ·exact Or.inr (Or.inl h)
  ·exact Or.inr (Or.inr ⟨e, List.mem_append_left _ he, h⟩)
theorem KnownAt.snoc {w W : World} {sb N m : Nat} {es : List MEn} {d : List UInt8} (K0 : KnownAt w sb (some m) es N) (hfm : Frame (fun k => k = m) w W) (hd : d.length = 8) (hn : d ∉ es.map (·.d)) (hm : MapAt W (some m) (es ++ [⟨d, ⟨none, 0, 0⟩, []⟩])) : KnownAt W sb (some m) (es ++ [⟨d, ⟨none, 0, 0⟩, []⟩]) N := by
 have kown : ∀ e ∈ es, W.ownsRow 0 96 1 e.s.val e.ns.length (e.ns.map (fun x => ptrV x.b)) := fun e he => owns_frame (K0.own e he) hfm (fun k hk e' => (K0.msb e he k hk).2 (by rw [e']))
 have knod : ∀ e ∈ es, ∀ x ∈ e.ns, NdOk W x := fun e he x hx => (K0.nodes e he x hx).frame hfm (fun k hk e' => K0.foot e he x hx k hk (Or.inr (Or.inl (by rw [e']))))
 have hb : (⟨none, 0, 0⟩ : SlR).val.ownBlock = none := rfl
 refine ⟨hm, ?_, ?_, ?_, ?_, ?_, ?_, ?_, ?_⟩
 ·intro e he
  rcases List.mem_append.1 he with he | he
  ·exact K0.d8 e he
  ·simp only [List.mem_singleton] at he; subst he; exact hd
 ·intro e he
  rcases List.mem_append.1 he with he | he
  ·exact kown e he
  ·simp only [List.mem_singleton] at he; subst he; exact World.ownsRow_nil _ _ _ _
 ·intro e he x hx
  rcases List.mem_append.1 he with he | he
  ·exact knod e he x hx
  ·simp only [List.mem_singleton] at he; subst he; cases hx
 ·intro i j e f hij hi hj k hk hf
  have hlast : ∀ (i : Nat) (e : MEn), (es ++ [⟨d, ⟨none, 0, 0⟩, []⟩])[i]? = some e → ∀ k, e.s.val.ownBlock = some k → es[i]? = some e := fun i e hi k hk => by
   by_cases hlt : i < es.length
   ·rw [List.getElem?_append_left hlt] at hi; exact hi
   ·rw [List.getElem?_append_right (by omega)] at hi
    obtain ⟨h1, h2⟩ := List.getElem?_eq_some_iff.1 hi
    simp at h1
    have : i - es.length = 0 := by omega
    simp only [this, List.getElem_cons_zero] at h2
    subst h2
    rw [hb] at hk; cases hk
  exact K0.apart i j e f hij (hlast i e hi k hk) (hlast j f hj k hf) k hk hf
 ·intro e he x hx k hk hmut
  rcases List.mem_append.1 he with he | he
  ·exact K0.foot e he x hx k hk (KMut_snoc.1 hmut)
  ·simp only [List.mem_singleton] at he; subst he; cases hx
 ·intro e he k hk
  rcases List.mem_append.1 he with he | he
  ·exact K0.msb e he k hk
  ·simp only [List.mem_singleton] at he; subst he; rw [hb] at hk; cases hk
 ·intro e he
  rcases List.mem_append.1 he with he | he
  ·exact K0.cnt e he
  ·simp only [List.mem_singleton] at he; subst he; exact Nat.zero_le _
 ·rw [List.map_append, List.nodup_append]
  refine ⟨K0.kd, by simp, ?_⟩
  intro x hx y hy e
  simp only [List.map_cons, List.map_nil, List.mem_singleton] at hy
  subst hy; subst e; exact hn hx
theorem KnownAt.push {Wp w3 W4 : World} {sb m N j : Nat} {es : List MEn} {f : MEn} {nd : Nd} {s' : SlR} (K : KnownAt Wp sb (some m) es N) (hf : es[j]? = some f) (hsb : sb < Wp.heap.size) (hm : m < Wp.heap.size) (hnd : NdOk Wp nd) (hnf : ∀ k, ndF nd k → ¬ KMut sb (some m) es k)
  (ho : w3.ownsRow 0 96 1 s'.val (f.ns.length + 1) (f.ns.map (fun x => ptrV x.b) ++ [ptrV nd.b])) (hf3 : Frame (fun k => f.s.val.ownBlock = some k) Wp w3) (hat : s'.val.ownBlock = f.s.val.ownBlock ∨ s'.val.ownBlock = some Wp.heap.size)
  (hf4 : Frame (fun k => k = m) w3 W4) (hM : MapAt W4 (some m) (es.set j ⟨f.d, s', f.ns ++ [nd]⟩)) :
  KnownAt W4 sb (some m) (es.set j ⟨f.d, s', f.ns ++ [nd]⟩) (N + 1) ∧ NdOk W4 nd ∧ (∀ k, ndF nd k → ¬ KMut sb (some m) (es.set j ⟨f.d, s', f.ns ++ [nd]⟩) k) ∧ (∀ k, KMut sb (some m) (es.set j ⟨f.d, s', f.ns ++ [nd]⟩) k → k < Wp.heap.size → KMut sb (some m) es k) ∧ Frame (KMut sb (some m) es) Wp W4 := by
 have hfm : f ∈ es := List.mem_of_getElem? hf
 have hjl := (List.getElem?_eq_some_iff.1 hf).1
 have hmem : ∀ e ∈ es.set j ⟨f.d, s', f.ns ++ [nd]⟩, (∃ i, i ≠ j ∧ es[i]? = some e) ∨ e = ⟨f.d, s', f.ns ++ [nd]⟩ := fun e he => by
  obtain ⟨i, hi⟩ := List.getElem?_of_mem he
  by_cases hij : j = i
  ·subst hij
   rw [List.getElem?_set_self hjl] at hi
   exact Or.inr (Option.some.inj hi).symm
  ·rw [List.getElem?_set_ne hij] at hi
   exact Or.inl ⟨i, fun e => hij e.symm, hi⟩
 have hfr : Frame (KMut sb (some m) es) Wp W4 := (hf3.mono (fun k _ hk => Or.inr (Or.inr ⟨f, hfm, hk⟩))).trans (hf4.mono (fun k _ hk => Or.inr (Or.inl (by rw [hk]))))
 have hnew : ∀ k, s'.val.ownBlock = some k → f.s.val.ownBlock = some k ∨ k = Wp.heap.size := fun k hk => by
  rcases hat with h | h
  ·exact Or.inl (h ▸ hk)
  ·rw [h] at hk; exact Or.inr (Option.some.inj hk).symm
 have hmut : ∀ k, KMut sb (some m) (es.set j ⟨f.d, s', f.ns ++ [nd]⟩) k → KMut sb (some m) es k ∨ k = Wp.heap.size := fun k hk => by
  rcases hk with h | h | ⟨e, he, h⟩
  ·exact Or.inl (Or.inl h)
  ·exact Or.inl (Or.inr (Or.inl h))
  ·rcases hmem e he with ⟨i, _, hi⟩ | rfl
   ·exact Or.inl (Or.inr (Or.inr ⟨e, List.mem_of_getElem? hi, h⟩))
   ·rcases hnew k h with h' | h'
    ·exact Or.inl (Or.inr (Or.inr ⟨f, hfm, h'⟩))
    ·exact Or.inr h'
 have hnd4 : NdOk W4 nd := hnd.frame hfr hnf
 refine ⟨⟨hM, ?_, ?_, ?_, ?_, ?_, ?_, ?_, ?_⟩, hnd4, ?_, ?_, hfr⟩
 ·intro e he
  rcases hmem e he with ⟨i, _, hi⟩ | rfl
  ·exact K.d8 e (List.mem_of_getElem? hi)
  ·exact K.d8 f hfm
 ·intro e he
  rcases hmem e he with ⟨i, hij, hi⟩ | rfl
  ·have h1 := owns_frame (K.own e (List.mem_of_getElem? hi)) hf3 (fun k hk hk2 => K.apart i j e f hij hi hf k hk hk2)
   exact owns_frame h1 hf4 (fun k hk e' => (K.msb e (List.mem_of_getElem? hi) k hk).2 (by rw [e']))
  ·have h1 := owns_frame ho hf4 (fun k hk e' => by
    rcases hnew k hk with h | h
    ·exact (K.msb f hfm k h).2 (by rw [e'])
    ·omega)
   simpa using h1
 ·intro e he x hx
  rcases hmem e he with ⟨i, hij, hi⟩ | rfl
  ·exact (K.nodes e (List.mem_of_getElem? hi) x hx).frame hfr (K.foot e (List.mem_of_getElem? hi) x hx)
  ·rcases List.mem_append.1 hx with hx | hx
   ·exact (K.nodes f hfm x hx).frame hfr (K.foot f hfm x hx)
   ·simp only [List.mem_singleton] at hx; subst hx; exact hnd4
 ·intro i i2 e e2 hne hi hi2 k hk hk2
  by_cases h1 : j = i
  ·subst h1
   rw [List.getElem?_set_self hjl] at hi
   rw [List.getElem?_set_ne hne] at hi2
   have := (Option.some.inj hi).symm
   subst this
   rcases hnew k hk with h | h
   ·exact K.apart j i2 f e2 hne hf hi2 k h hk2
   ·have := ((K.own e2 (List.mem_of_getElem? hi2)).lt k hk2).2
    omega
  ·rw [List.getElem?_set_ne h1] at hi
   by_cases h2 : j = i2
   ·subst h2
    rw [List.getElem?_set_self hjl] at hi2
    have := (Option.some.inj hi2).symm
    subst this
    rcases hnew k hk2 with h | h
    ·exact K.apart i j e f hne hi hf k hk h
    ·have := ((K.own e (List.mem_of_getElem? hi)).lt k hk).2
     omega
   ·rw [List.getElem?_set_ne h2] at hi2
    exact K.apart i i2 e e2 hne hi hi2 k hk hk2
 ·intro e he x hx k hk hm4
  rcases hmut k hm4 with h | h
  ·rcases hmem e he with ⟨i, hij, hi⟩ | rfl
   ·exact K.foot e (List.mem_of_getElem? hi) x hx k hk h
   ·rcases List.mem_append.1 hx with hx | hx
    ·exact K.foot f hfm x hx k hk h
    ·simp only [List.mem_singleton] at hx; subst hx; exact hnf k hk h
  ·have hlt : k < Wp.heap.size := by
    rcases hmem e he with ⟨i, hij, hi⟩ | rfl
    ·exact (K.nodes e (List.mem_of_getElem? hi) x hx).lt k hk
    ·rcases List.mem_append.1 hx with hx | hx
     ·exact (K.nodes f hfm x hx).lt k hk
     ·simp only [List.mem_singleton] at hx; subst hx; exact hnd.lt k hk
   omega
 ·intro e he k hk
  rcases hmem e he with ⟨i, hij, hi⟩ | rfl
  ·exact K.msb e (List.mem_of_getElem? hi) k hk
  ·rcases hnew k hk with h | h
   ·exact K.msb f hfm k h
   ·exact ⟨by omega, fun e' => by have := Option.some.inj e'; omega⟩
 ·intro e he
  rcases hmem e he with ⟨i, hij, hi⟩ | rfl
  ·have := K.cnt e (List.mem_of_getElem? hi); omega
  ·have := K.cnt f hfm; simp; omega
 ·have : (es.set j ⟨f.d, s', f.ns ++ [nd]⟩).map (·.d) = es.map (·.d) := by
   apply List.ext_getElem?
   intro i
   rw [List.getElem?_map, List.getElem?_map]
   by_cases hij : j = i
   ·subst hij; rw [List.getElem?_set_self hjl, hf]; rfl
   ·rw [List.getElem?_set_ne hij]
  rw [this]; exact K.kd
 ·intro k hk hm4
  rcases hmut k hm4 with h | h
  ·exact hnf k hk h
  ·have := hnd.lt k hk; omega
 ·intro k hm4 hlt
  rcases hmut k hm4 with h | h
  ·exact h
  ·omega
end Go.Proofs.Ytekegfbjbainhaa
