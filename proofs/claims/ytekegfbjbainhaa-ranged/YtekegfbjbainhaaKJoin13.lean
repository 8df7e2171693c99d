import Derived.Test.YtekegfbjbainhaaKJoin2
import Derived.Test.YtekegfbjbainhaaKJoin12
import Derived.Test.YtekegfbjbainhaaKJoin3
import Derived.Test.YtekegfbjbainhaaKPr28
import Derived.Deep.DeepCutAuto
import Derived.Test.YtekegfbjbainhaaKJoin1
import Derived.Deep.RegionHeld3
import Derived.Deep.DrawnRows
import Derived.Stop.BytesEq
import Derived.Deep.RegionWith
import Derived.Deep.MidRow
import Derived.Deep.QuietTactic
import Derived.BigQuiet
import Derived.Test.YtekegfbjbainhaaKJoin4
import Derived.BigRegion
set_option linter.unusedVariables false
set_option linter.unusedSimpArgs false

namespace Go.Proofs.Ytekegfbjbainhaa
open Go.RowKit
end Go.Proofs.Ytekegfbjbainhaa


namespace Go.Proofs.Ytekegfbjbainhaa
open Go.RowKit
end Go.Proofs.Ytekegfbjbainhaa


namespace Go.Proofs.Ytekegfbjbainhaa
open Go.RowKit
structure PastOk (p : List ItR) : Prop where
 rise : Rising p
 ok : ∀ x ∈ p, ItOk x
 norm : ∀ x ∈ p, x.below = 0
 len : p.length ≤ 60
def treeF (T : List (List (List Nd))) (k : Nat) : Prop := ∃ L ∈ T, ∃ nds ∈ L, ∃ x ∈ nds, ndF x k
structure StoT (w : World) (sb : Nat) (mp : Option Nat) (es : List MEn) (T : List (List (List Nd))) (tds : List Nd) (pp : List (List ItR)) : Prop where
 good : ∀ L ∈ T, ∀ nds ∈ L, ∀ x ∈ nds, NdOk w x ∧ ∀ k, ndF x k → ¬ KMut sb mp es k
 tl : T.length = tds.length
 pl : pp.length = tds.length
 rep : ∀ (i : Nat) (L : List (List Nd)) (p : List ItR) (nd : Nd), T[i]? = some L → pp[i]? = some p → tds[i]? = some nd → TreeRep (grownN p) L ∧ (∃ ℓ, L.length = ℓ + 1 ∧ L[ℓ]? = some [nd]) ∧ PastOk p
theorem StoT.lt {w : World} {sb : Nat} {mp : Option Nat} {es : List MEn} {T : List (List (List Nd))} {tds : List Nd} {pp : List (List ItR)} (h : StoT w sb mp es T tds pp) : ∀ k, treeF T k → k < w.heap.size := fun k ⟨L, hL, nds, hn, x, hx, hk⟩ => (h.good L hL nds hn x hx).1.lt k hk
theorem StoT.frame {w W : World} {S : Nat → Prop} {sb : Nat} {mp : Option Nat} {es : List MEn} {T : List (List (List Nd))} {tds : List Nd} {pp : List (List ItR)} (h : StoT w sb mp es T tds pp) (hf : Frame S w W) (hS : ∀ k, treeF T k → ¬ S k) : StoT W sb mp es T tds pp :=
 ⟨fun L hL nds hn x hx => ⟨(h.good L hL nds hn x hx).1.frame hf (fun k hk => hS k ⟨L, hL, nds, hn, x, hx, hk⟩), (h.good L hL nds hn x hx).2⟩, h.tl, h.pl, h.rep⟩
theorem StoT.next {w W : World} {S : Nat → Prop} {sb : Nat} {mp mp' : Option Nat} {es es' : List MEn} {T : List (List (List Nd))} {tds : List Nd} {pp : List (List ItR)} (h : StoT w sb mp es T tds pp) (hf : Frame S w W) (hS : ∀ k, S k → KMut sb mp es k) (hM : ∀ k, KMut sb mp' es' k → k < w.heap.size → KMut sb mp es k) : StoT W sb mp' es' T tds pp :=
 ⟨fun L hL nds hn x hx => ⟨(h.good L hL nds hn x hx).1.frame hf (fun k hk e => (h.good L hL nds hn x hx).2 k hk (hS k e)), fun k hk e => (h.good L hL nds hn x hx).2 k hk (hM k e ((h.good L hL nds hn x hx).1.lt k hk))⟩, h.tl, h.pl, h.rep⟩
theorem StoT.push {w : World} {sb ℓ : Nat} {mp : Option Nat} {es : List MEn} {T : List (List (List Nd))} {tds : List Nd} {pp : List (List ItR)} {L : List (List Nd)} {nd : Nd} {p : List ItR} (h : StoT w sb mp es T tds pp) (hL : ∀ nds ∈ L, ∀ x ∈ nds, NdOk w x ∧ ∀ k, ndF x k → ¬ KMut sb mp es k) (h1 : TreeRep (grownN p) L) (h2 : L.length = ℓ + 1) (h3 : L[ℓ]? = some [nd]) (h4 : PastOk p) :
  StoT w sb mp es (T ++ [L]) (tds ++ [nd]) (pp ++ [p]) := by
 refine ⟨fun M hM nds hn x hx => ?_, by simp [h.tl], by simp [h.pl], fun i M q n e1 e2 e3 => ?_⟩
 ·rcases List.mem_append.1 hM with hM | hM
  ·exact h.good M hM nds hn x hx
  ·simp only [List.mem_singleton] at hM; subst hM; exact hL nds hn x hx
 ·by_cases hi : i < T.length
  ·rw [List.getElem?_append_left hi] at e1
   rw [List.getElem?_append_left (by rw [h.pl, ← h.tl]; exact hi)] at e2
   rw [List.getElem?_append_left (by rw [← h.tl]; exact hi)] at e3
   exact h.rep i M q n e1 e2 e3
  ·have hi' : i = T.length := by
    have := (List.getElem?_eq_some_iff.1 e1).1
    simp at this; omega
   subst hi'
   have e2' := h.tl
   have e3' := h.pl
   rw [List.getElem?_append_right (Nat.le_refl _), Nat.sub_self] at e1
   rw [List.getElem?_append_right (by omega), show T.length - pp.length = 0 by omega] at e2
   rw [List.getElem?_append_right (by omega), show T.length - tds.length = 0 by omega] at e3
   simp at e1 e2 e3
   subst e1 e2 e3
   exact ⟨h1, ⟨ℓ, h2, h3⟩, h4⟩
def comsF : Nat → List (List UInt8) → List Value
 | 0, _ => []
 | n + 1, rl => comsF n rl ++ commitC n (rl.getD n []) (n + 1) (sumF 42 (rl.take (n + 1)))
def comsC (rl : List (List UInt8)) : List Value := comsF rl.length rl
theorem comsF_append : ∀ (n : Nat) (rl r : List (List UInt8)), n ≤ rl.length → comsF n (rl ++ r) = comsF n rl
 | 0, _, _, _ => rfl
 | n + 1, rl, r, h => by
  unfold comsF
  rw [comsF_append n rl r (by omega), List.take_append_of_le_length h]
  have e : (rl ++ r).getD n [] = rl.getD n [] := by
   simp only [List.getD_eq_getElem?_getD]
   rw [List.getElem?_append_left (by omega)]
  rw [e]
theorem comsC_snoc (rl : List (List UInt8)) (r : List UInt8) : comsC (rl ++ [r]) = comsC rl ++ commitC rl.length r (rl.length + 1) (sumF 42 (rl ++ [r])) := by
 unfold comsC
 rw [List.length_append, List.length_singleton, comsF, comsF_append _ _ _ (Nat.le_refl _), List.take_of_length_le (by simp)]
 have e : (rl ++ [r]).getD rl.length [] = r := by simp
 rw [e]
end Go.Proofs.Ytekegfbjbainhaa


namespace Go.Proofs.Ytekegfbjbainhaa
open Go.RowKit
attribute [local go_sem ↓] Go.wp_at_zero Go.wp_at_succ
theorem RowV.cellK {w : World} {b t : Nat} {l : List Value} (h : RowV w b t l) (k : Nat) (v : Value) (hv : l[k]? = some v) : w.cell? ⟨b, k, none⟩ = some v := by
 obtain ⟨hk, rfl⟩ := List.getElem?_eq_some_iff.1 hv
 exact RowV.cell h k hk
end Go.Proofs.Ytekegfbjbainhaa


namespace Go.Proofs.Ytekegfbjbainhaa
open Go.RowKit
end Go.Proofs.Ytekegfbjbainhaa


namespace Go.Proofs.Ytekegfbjbainhaa
open Go.RowKit
end Go.Proofs.Ytekegfbjbainhaa


namespace Go.Proofs.Ytekegfbjbainhaa
open Go.RowKit
end Go.Proofs.Ytekegfbjbainhaa


namespace Go.Proofs.Ytekegfbjbainhaa
open Go.RowKit
theorem BS.drew {w : World} {s : SlR} {l : List UInt8} (h : BS w s l) : BS w.drew s l := ⟨h.sl, h.n, h.nil, h.lt⟩
theorem BS.ofString (w : World) (s : ByteArray) (cap : Nat) (t : TypeId) (fr : Nat × Nat) : BS (w.alloc (.cells (bytesRow s cap) t fr)) ⟨some ⟨w.heap.size, 0, none⟩, s.size, cap⟩ s.data.toList :=
 ⟨SlB.mk (by simp) (bytes_of_string _ _ _ _ _), by simp, fun e => (by cases e), fun x hx => (by cases hx; simp)⟩
end Go.Proofs.Ytekegfbjbainhaa


namespace Go.Proofs.Ytekegfbjbainhaa
open Go.RowKit
def takeB (n : Nat) : Option (List UInt8) → List UInt8
 | some l => if n ≤ l.length then l.take n else []
 | none => []
def takeR (n : Nat) : Option (List UInt8) → Option (List UInt8)
 | some l => if n ≤ l.length then some (l.drop n) else none
 | none => none
def oneV : Option (List UInt8) → Nat
 | some (x :: _) => x.toNat
 | _ => 0
theorem takeB_length (n : Nat) (o : Option (List UInt8)) : (takeB n o).length ≤ n := by
 cases o with
 | none => simp [takeB]
 | some l =>
  show (if n ≤ l.length then l.take n else []).length ≤ n
  split
  ·rw [List.length_take]; omega
  ·simp
theorem oneV_lt (o : Option (List UInt8)) : oneV o < 256 := by
 unfold oneV; split
 ·exact UInt8.toNat_lt _
 ·omega
structure SubS (w : World) (K : Nat → Prop) (s : SlR) (l : List UInt8) : Prop where
 bs : BS w s l
 cap : s.n ≤ s.cap
 k : ∀ x, s.a = some x → K x.block
theorem SubS.nil (w : World) (K : Nat → Prop) : SubS w K ⟨none, 0, 0⟩ [] := ⟨⟨fun i h => absurd h (Nat.not_lt_zero _), rfl, fun _ => rfl, fun x h => (by cases h)⟩, Nat.le_refl _, fun x h => (by cases h)⟩
theorem SubS.frame {w w' : World} {S K : Nat → Prop} {s : SlR} {l : List UInt8} (h : SubS w K s l) (hf : Frame S w w') (hS : ∀ k, K k → ¬ S k) : SubS w' K s l := ⟨h.bs.frame hf (fun x hx => hS _ (h.k x hx)), h.cap, h.k⟩
theorem SubS.below {w w' : World} {K : Nat → Prop} {s : SlR} {l : List UInt8} (h : SubS w K s l) (hf : Below w.heap.size w w') : SubS w' K s l := ⟨h.bs.below hf, h.cap, h.k⟩
theorem SubS.take {w : World} {K : Nat → Prop} {s : SlR} {l : List UInt8} (h : SubS w K s l) (n : Nat) (hn : n ≤ l.length) : SubS w K ⟨s.a, n, s.cap⟩ (l.take n) := by
 have h1 := h.bs.n
 have h2 := h.cap
 refine ⟨⟨fun i hi => ?_, by simp; omega, h.bs.nil, h.bs.lt⟩, by show n ≤ s.cap; omega, h.k⟩
 have hi' : i < l.length := by rw [List.length_take] at hi; omega
 obtain ⟨b, o, ha, hb, hc⟩ := h.bs.sl i hi'
 exact ⟨b, o, ha, hb, by rw [hc]; simp⟩
theorem SubS.drop {w : World} {K : Nat → Prop} {s : SlR} {l : List UInt8} (h : SubS w K s l) (n : Nat) (hn : n ≤ l.length) : SubS w K ⟨cutS s.a s.cap n 1, s.n - n, s.cap - n⟩ (l.drop n) := by
 have h1 := h.bs.n
 have h2 := h.cap
 refine ⟨⟨fun i hi => ?_, by show s.n - n = _; rw [List.length_drop]; omega, fun e => ?_, fun x hx => ?_⟩, by show s.n - n ≤ s.cap - n; omega, fun x hx => ?_⟩
 ·have hlen : (l.drop n).length = l.length - n := List.length_drop
  obtain ⟨b, o, ha, hb, hc⟩ := h.bs.sl (n + i) (by omega)
  have hne : ¬ s.cap = n := by omega
  refine ⟨b, o + n, ?_, hb, ?_⟩
  ·show cutS s.a s.cap n 1 = _
   unfold cutS; rw [if_neg hne, ha]; simp [Addr.add_mid]
  ·rw [Nat.add_assoc, hc]; simp
 ·have := h.bs.nil (cutS_none e)
  show s.cap - n = 0; omega
 ·obtain ⟨y, hy, e⟩ := cutS_block hx
  rw [← e]; exact h.bs.lt y hy
 ·obtain ⟨y, hy, e⟩ := cutS_block hx
  rw [← e]; exact h.k y hy
theorem wrap64_toNat8 (x : UInt8) : wrap64 ((x.toNat : Nat) : Int) = ((x.toNat : Nat) : Int) := by
 have := x.toNat_lt
 have e := IntKind.wrap_i64 ((x.toNat : Nat) : Int)
 unfold wrap64
 omega
end Go.Proofs.Ytekegfbjbainhaa


namespace Go.Proofs.Ytekegfbjbainhaa
open Go.RowKit
def entK (o : Option (List UInt8)) : List UInt8 := takeB (oneV o) (takeR 1 o)
def entO (o : Option (List UInt8)) : Option (List UInt8) := takeR (oneV o) (takeR 1 o)
def entM (lv : Nat) (o : Option (List UInt8)) : List UInt8 := if lv = 0 then takeB (oneV (entO o)) (takeR 1 (entO o)) else takeB 8 (entO o)
def entR (lv : Nat) (o : Option (List UInt8)) : Option (List UInt8) := if lv = 0 then takeR (oneV (entO o)) (takeR 1 (entO o)) else takeR 8 (entO o)
def behindK (its : List ItR) (k : List UInt8) : Bool := match its.getLast? with
 | none => true
 | some x => Op.bytesLess x.key k
def entFine (lv : Nat) (its : List ItR) (o : Option (List UInt8)) : Bool := !(lv == 0 && decide (12 < oneV (entO o))) && decide (1 ≤ oneV o) && decide (oneV o ≤ 12) && behindK its (entK o)
def itemsO (lv : Nat) : Nat → List ItR → Option (List UInt8) → Option (List ItR)
 | 0, its, o => if o = some [] then some its else none
 | _ + 1, _, none => none
 | n + 1, its, some l => if entFine lv its (some l) then itemsO lv n (its ++ [⟨entK (some l), entM lv (some l), 0⟩]) (entR lv (some l)) else none
theorem itemsO_none (lv n : Nat) (its : List ItR) : itemsO lv n its none = none := by cases n <;> simp [itemsO]
def pageF (b : List UInt8) : Option (Nat × List ItR) :=
 if oneV (some b) ≤ 6 ∧ oneV (takeR 1 (some b)) ≤ 60 ∧ (oneV (some b) = 0 ∨ oneV (takeR 1 (some b)) ≠ 0) then (itemsO (oneV (some b)) (oneV (takeR 1 (some b))) [] (takeR 1 (takeR 1 (some b)))).map (fun its => (oneV (some b), its)) else none
theorem rowV_ne {w : World} {b b' t t' : Nat} {l l' : List Value} (h : RowV w b t l) (h' : RowV w b' t' l') (hne : t ≠ t') : b ≠ b' := fun e => by
 subst e
 have e1 := h
 have e2 := h'
 unfold RowV at e1 e2
 rw [e1] at e2
 simp at e2
 exact hne e2.2
end Go.Proofs.Ytekegfbjbainhaa


namespace Go.Proofs.Ytekegfbjbainhaa
open Go.RowKit
attribute [local go_sem ↓] Go.wp_at_zero Go.wp_at_succ
theorem pageF_out {b : List UInt8} {lv n : Nat} (h1 : oneV (some b) = lv) (h2 : oneV (takeR 1 (some b)) = n) (h : ¬ (lv ≤ 6 ∧ n ≤ 60 ∧ (lv = 0 ∨ n ≠ 0))) : pageF b = none := by
 subst h1; subst h2; unfold pageF; rw [if_neg h]
theorem pageF_in {b : List UInt8} {lv n : Nat} (h1 : oneV (some b) = lv) (h2 : oneV (takeR 1 (some b)) = n) (h : lv ≤ 6 ∧ n ≤ 60 ∧ (lv = 0 ∨ n ≠ 0)) : pageF b = (itemsO lv n [] (takeR 1 (takeR 1 (some b)))).map (fun its => (lv, its)) := by
 subst h1; subst h2; unfold pageF; rw [if_pos h]
end Go.Proofs.Ytekegfbjbainhaa


namespace Go.Proofs.Ytekegfbjbainhaa
open Go.RowKit
attribute [local go_sem ↓] Go.wp_at_zero Go.wp_at_succ
def pgN (o : Option (List UInt8)) : Nat := 256 * oneV o + oneV (takeR 1 o)
def pgB (o : Option (List UInt8)) : List UInt8 := takeB (pgN o) (takeR 1 (takeR 1 o))
def pgO (o : Option (List UInt8)) (d : List UInt8) : Option ((Nat × List ItR) × List UInt8) :=
 match takeR (pgN o) (takeR 1 (takeR 1 o)) with
 | none => none
 | some r => match pageF (pgB o) with
  | none => none
  | some p => if digB (pgB o) = d then some (p, r) else none
end Go.Proofs.Ytekegfbjbainhaa


namespace Go.Proofs.Ytekegfbjbainhaa
open Go.RowKit
def frameB (level : Nat) (l : List ItR) : List UInt8 := bt ((codeB level l).length / 256) :: bt ((codeB level l).length % 256) :: codeB level l
def keyAt (l : List ItR) (i : Nat) : List UInt8 := (l[i]?.map (·.key)).getD []
def withB (l : List ItR) (i : Nat) (fr tu : List UInt8) : Bool := !(Op.bytesLess (keyAt l i) fr) && (i == 0 || Op.bytesLess (keyAt l (i - 1)) tu)
theorem keyAt_lt {l : List ItR} {i : Nat} (h : i < l.length) : keyAt l i = l[i].key := by
 unfold keyAt; rw [List.getElem?_eq_getElem h]; rfl
end Go.Proofs.Ytekegfbjbainhaa


namespace Go.Proofs.Ytekegfbjbainhaa
open Go.RowKit
end Go.Proofs.Ytekegfbjbainhaa


namespace Go.Proofs.Ytekegfbjbainhaa
open Go.RowKit
def pageAt (lvls : List (List (List ItR))) (n j : Nat) : List ItR := ((lvls[n]?.getD [])[j]?).getD []
def belowAt (p : List ItR) (i : Nat) : Nat := (p[i]?.map (·.below)).getD 0
def rangeF (lvls : List (List (List ItR))) (fr tu : List UInt8) : Nat → List ItR → List UInt8
 | 0, p => frameB 0 p
 | n + 1, p => frameB (n + 1) p ++ (List.range p.length).flatMap (fun i => if withB p i fr tu = true then rangeF lvls fr tu n (pageAt lvls n (belowAt p i)) else [])
def behindF (lvls : List (List (List ItR))) (fr tu : List UInt8) (n : Nat) (p : List ItR) (k : Nat) : List UInt8 := (List.range k).flatMap (fun i => if withB p i fr tu = true then rangeF lvls fr tu n (pageAt lvls n (belowAt p i)) else [])
theorem rangeF_succ (lvls : List (List (List ItR))) (fr tu : List UInt8) (n : Nat) (p : List ItR) : rangeF lvls fr tu (n + 1) p = frameB (n + 1) p ++ behindF lvls fr tu n p p.length := rfl
theorem behind_yes (lvls : List (List (List ItR))) (fr tu : List UInt8) (n : Nat) (p : List ItR) (k : Nat) (h : withB p k fr tu = true) : behindF lvls fr tu n p (k + 1) = behindF lvls fr tu n p k ++ rangeF lvls fr tu n (pageAt lvls n (belowAt p k)) := by
 unfold behindF
 rw [List.range_succ, List.flatMap_append]
 simp [h]
theorem behind_no (lvls : List (List (List ItR))) (fr tu : List UInt8) (n : Nat) (p : List ItR) (k : Nat) (h : withB p k fr tu = false) : behindF lvls fr tu n p (k + 1) = behindF lvls fr tu n p k := by
 unfold behindF
 rw [List.range_succ, List.flatMap_append]
 simp [h]
def RiseK (l : List ItR) : Prop := l.Pairwise (fun x y => Op.bytesLess x.key y.key = true)
structure LvlsOk (lvls : List (List (List ItR))) : Prop where
 len : lvls.length ≤ 7
 cnt : ∀ (n : Nat) (ps : List (List ItR)), lvls[n]? = some ps → ps.length ≤ 61
 ok : ∀ (n : Nat) (ps : List (List ItR)), lvls[n]? = some ps → ∀ p ∈ ps, p.length ≤ 60 ∧ (∀ x ∈ p, ItOk x) ∧ RiseK p
 bel : ∀ (n : Nat) (ps up : List (List ItR)), lvls[n]? = some ps → lvls[n + 1]? = some up → ∀ p ∈ up, ∀ x ∈ p, x.below < ps.length ∧ x.key = lastK (ps[x.below]?.getD [])
theorem partF_flatten (level : Nat) : ∀ (r cur : List ItR), (partF level r cur).flatten = cur ++ r
 | [], cur => by simp [partF]
 | x :: r, cur => by
  unfold partF
  split
  ·rw [List.flatten_cons, partF_flatten level r []]; simp
  ·rw [partF_flatten level r (cur ++ [x])]; simp
theorem next_get (level : Nat) : ∀ (ps : List (List ItR)) (i k : Nat), (nextF level i ps)[k]? = ps[k]?.map (fun p => ⟨lastK p, digB (codeB level p), i + k⟩)
 | [], i, k => by simp [nextF]
 | p :: r, i, 0 => by simp [nextF]
 | p :: r, i, k + 1 => by
  unfold nextF
  rw [List.getElem?_cons_succ, next_get level r (i + 1) k, List.getElem?_cons_succ]
  have : i + 1 + k = i + (k + 1) := by omega
  rw [this]
theorem lastK_mem {p : List ItR} (h : p ≠ []) : ∃ x ∈ p, lastK p = x.key := by
 refine ⟨p.getLast h, List.getLast_mem h, ?_⟩
 unfold lastK
 rw [List.getLast?_eq_some_getLast h]
 rfl
theorem next_rise (level : Nat) : ∀ (ps : List (List ItR)) (i : Nat), ps.Pairwise (fun a b => ∀ x ∈ a, ∀ y ∈ b, Op.bytesLess x.key y.key = true) → (∀ p ∈ ps, p ≠ []) → RiseK (nextF level i ps)
 | [], _, _, _ => List.Pairwise.nil
 | p :: r, i, h, hne => by
  obtain ⟨h1, h2⟩ := List.pairwise_cons.1 h
  refine List.pairwise_cons.2 ⟨?_, next_rise level r (i + 1) h2 (fun q hq => hne q (by simp [hq]))⟩
  intro y hy
  obtain ⟨k, hk⟩ := List.getElem?_of_mem hy
  rw [next_get] at hk
  obtain ⟨q, hq, rfl⟩ := Option.map_eq_some_iff.1 hk
  have hqm := List.mem_of_getElem? hq
  obtain ⟨x, hx, ex⟩ := lastK_mem (hne p (by simp))
  obtain ⟨z, hz, ez⟩ := lastK_mem (hne q (by simp [hqm]))
  show Op.bytesLess (lastK p) (lastK q) = true
  rw [ex, ez]
  exact h1 q hqm x hx z hz
theorem parted_rise (level : Nat) (l : List ItR) (h : RiseK l) : (∀ p ∈ partedN level l, RiseK p) ∧ (partedN level l).Pairwise (fun a b => ∀ x ∈ a, ∀ y ∈ b, Op.bytesLess x.key y.key = true) := by
 have e : (partedN level l).flatten = l := by unfold partedN; rw [partF_flatten]; rfl
 unfold RiseK at h
 rw [← e, List.pairwise_flatten] at h
 exact h
theorem grownF_lv : ∀ (f level : Nat) (l : List ItR), RiseK l → (∀ x ∈ l, ItOk x) → l.length ≤ 60 →
  (∀ (n : Nat) (ps : List (List ItR)), (grownF f level l)[n]? = some ps → ps.length ≤ 61 ∧ ∀ p ∈ ps, p.length ≤ 60 ∧ (∀ x ∈ p, ItOk x) ∧ RiseK p) ∧
  (∀ (n : Nat) (ps up : List (List ItR)), (grownF f level l)[n]? = some ps → (grownF f level l)[n + 1]? = some up → ∀ p ∈ up, ∀ x ∈ p, x.below < ps.length ∧ x.key = lastK (ps[x.below]?.getD []))
 | 0, level, l, _, _, _ => by simp [grownF]
 | f + 1, level, l, hr, hok, h60 => by
  have hpl := partF_length level l []
  have hpart : (partedN level l).length ≤ 61 ∧ ∀ p ∈ partedN level l, p.length ≤ 60 ∧ (∀ x ∈ p, ItOk x) ∧ RiseK p := by
   refine ⟨by unfold partedN; omega, fun p hp => ⟨?_, fun x hx => ?_, (parted_rise level l hr).1 p hp⟩⟩
   ·have := partF_size level l [] p hp; simp at this; omega
   ·rcases partF_mem level l [] p hp x hx with h | h
    ·exact hok x h
    ·cases h
  unfold grownF
  by_cases h1 : (partedN level l).length = 1
  ·rw [if_pos h1]
   refine ⟨fun n ps h => ?_, fun n ps up h h' => ?_⟩
   ·cases n with
    | zero => simp at h; subst h; exact hpart
    | succ n => simp at h
   ·simp at h'
  ·rw [if_neg h1]
   have hne : l ≠ [] := fun e => by subst e; simp [partedN, partF] at h1
   have hpne : ∀ p ∈ partedN level l, p ≠ [] := partF_ne level l [] (Or.inl hne)
   have hb := partF_bound level l [] hne
   have hnl : (nextF level 0 (partedN level l)).length ≤ 60 := by
    have : ∀ (i : Nat) (ps : List (List ItR)), (nextF level i ps).length = ps.length := fun i ps => by
     induction ps generalizing i with
     | nil => rfl
     | cons p r ih => simp [nextF, ih]
    rw [this]; unfold partedN; omega
   have hnok : ∀ x ∈ nextF level 0 (partedN level l), ItOk x ∧ x.below < (partedN level l).length ∧ x.key = lastK ((partedN level l)[x.below]?.getD []) := fun x hx => by
    obtain ⟨k, hk⟩ := List.getElem?_of_mem hx
    rw [next_get] at hk
    obtain ⟨q, hq, rfl⟩ := Option.map_eq_some_iff.1 hk
    have hqm := List.mem_of_getElem? hq
    obtain ⟨z, hz, ez⟩ := lastK_mem (hpne q hqm)
    refine ⟨⟨?_, ?_⟩, ?_, ?_⟩
    ·show (lastK q).length ≤ 12
     rw [ez]
     exact ((hpart.2 q hqm).2.1 z hz).1
    ·show (digB _).length ≤ 12
     rw [digB_length]; omega
    ·show 0 + k < _
     rw [Nat.zero_add]
     exact (List.getElem?_eq_some_iff.1 hq).1
    ·show lastK q = lastK ((partedN level l)[0 + k]?.getD [])
     rw [Nat.zero_add, hq]; rfl
   obtain ⟨i1, i2⟩ := grownF_lv f (level + 1) (nextF level 0 (partedN level l)) (next_rise level _ 0 (parted_rise level l hr).2 hpne) (fun x hx => (hnok x hx).1) hnl
   refine ⟨fun n ps h => ?_, fun n ps up h h' => ?_⟩
   ·cases n with
    | zero => simp at h; subst h; exact hpart
    | succ n => rw [List.getElem?_cons_succ] at h; exact i1 n ps h
   ·cases n with
    | zero =>
     simp only [List.getElem?_cons_zero, Option.some.injEq] at h
     subst h
     rw [List.getElem?_cons_succ] at h'
     cases f with
     | zero => simp [grownF] at h'
     | succ f =>
      have hup : up = partedN (level + 1) (nextF level 0 (partedN level l)) := by
       unfold grownF at h'
       split at h'
       ·simpa using h'.symm
       ·simpa using h'.symm
      intro p hp x hx
      rw [hup] at hp
      rcases partF_mem (level + 1) _ [] p hp x hx with g | g
      ·exact (hnok x g).2
      ·cases g
    | succ n =>
     rw [List.getElem?_cons_succ] at h h'
     exact i2 n ps up h h'
theorem grown_lv (l : List ItR) (hr : RiseK l) (hok : ∀ x ∈ l, ItOk x) (h60 : l.length ≤ 60) : LvlsOk (grownN l) := by
 obtain ⟨h1, h2⟩ := grownF_lv 7 0 l hr hok h60
 exact ⟨(grownF_length 7 0 l (by omega)).2, fun n ps h => (h1 n ps h).1, fun n ps h => (h1 n ps h).2, h2⟩
theorem frameB_length (level : Nat) (l : List ItR) (h : ∀ x ∈ l, ItOk x) (h60 : l.length ≤ 60) : (frameB level l).length ≤ 1600 := by
 have := prefB_length level l.length l h
 unfold prefB at this
 unfold frameB codeB
 simp only [List.length_cons] at this ⊢
 omega
theorem pageAt_ok {lvls : List (List (List ItR))} (h : LvlsOk lvls) (n j : Nat) : (pageAt lvls n j).length ≤ 60 ∧ (∀ x ∈ pageAt lvls n j, ItOk x) ∧ RiseK (pageAt lvls n j) := by
 unfold pageAt
 cases e : lvls[n]? with
 | none => simp [RiseK]
 | some ps =>
  cases e2 : ps[j]? with
  | none => simp [e2, RiseK]
  | some p => simpa [e2] using h.ok n ps e p (List.mem_of_getElem? e2)
theorem flat_bound {α : Type} (f : Nat → List α) (B : Nat) : ∀ (k : Nat), (∀ i, (f i).length ≤ B) → ((List.range k).flatMap f).length ≤ k * B
 | 0, _ => by simp
 | k + 1, h => by
  have ih := flat_bound f B k h
  have := h k
  have e : (List.flatMap f [k]).length = (f k).length := by simp
  rw [List.range_succ, List.flatMap_append, List.length_append, Nat.add_mul, e]
  omega
theorem rangeF_length {lvls : List (List (List ItR))} (h : LvlsOk lvls) (fr tu : List UInt8) : ∀ (n : Nat) (p : List ItR), p.length ≤ 60 → (∀ x ∈ p, ItOk x) → (rangeF lvls fr tu n p).length ≤ 1600 * 61 ^ n
 | 0, p, h60, hok => by
  have := frameB_length 0 p hok h60
  simpa [rangeF] using this
 | n + 1, p, h60, hok => by
  have h1 := frameB_length (n + 1) p hok h60
  have h2 := flat_bound (fun i => if withB p i fr tu = true then rangeF lvls fr tu n (pageAt lvls n (belowAt p i)) else []) (1600 * 61 ^ n) p.length (fun i => by
   split
   ·exact rangeF_length h fr tu n _ (pageAt_ok h n _).1 (pageAt_ok h n _).2.1
   ·simp)
  have h3 : p.length * (1600 * 61 ^ n) ≤ 60 * (1600 * 61 ^ n) := Nat.mul_le_mul_right _ h60
  have h4 : 1600 ≤ 1600 * 61 ^ n := Nat.le_mul_of_pos_right _ (Nat.pow_pos (by omega))
  rw [rangeF, List.length_append, Nat.pow_succ]
  omega
theorem range_small {lvls : List (List (List ItR))} (h : LvlsOk lvls) (fr tu : List UInt8) (n : Nat) (hn : n ≤ 6) (p : List ItR) (h60 : p.length ≤ 60) (hok : ∀ x ∈ p, ItOk x) : (rangeF lvls fr tu n p).length ≤ 100000000000000 := by
 have h1 := rangeF_length h fr tu n p h60 hok
 have h2 : 61 ^ n ≤ 61 ^ 6 := Nat.pow_le_pow_right (by omega) hn
 have h3 : 1600 * 61 ^ n ≤ 1600 * 61 ^ 6 := Nat.mul_le_mul_left _ h2
 have h4 : 1600 * 61 ^ 6 ≤ 100000000000000 := by decide
 omega
end Go.Proofs.Ytekegfbjbainhaa
