import Derived.Test.YtekegfbjbainhaaKPr28
import Derived.Test.YtekegfbjbainhaaKPr7
import Derived.Test.YtekegfbjbainhaaKJoin3
import Derived.Deep.DeepCutAuto
import Derived.Test.YtekegfbjbainhaaKJoin2
import Derived.Test.YtekegfbjbainhaaKJoin1
import Derived.Deep.RegionHeld3
import Derived.Deep.DrawnRows
import Derived.Stop.BytesEq
import Derived.Deep.RegionWith
import Derived.Deep.MidRow
import Derived.Deep.QuietTactic
import Derived.BigQuiet
import Derived.Test.YtekegfbjbainhaaKJoin6
import Derived.BigRegion
import Derived.Test.YtekegfbjbainhaaKJoin11
import Derived.Deep.CutBlock
set_option linter.unusedVariables false
set_option linter.unusedSimpArgs false

namespace Go.Proofs.Ytekegfbjbainhaa
open Go.RowKit
theorem rising_put {l : List ItR} (h : Rising l) (key value : List UInt8) : Rising (putN l key value) := by
 have hp := rising_place l key h
 have hle := placeN_le l key
 have hbef : ∀ x ∈ l.take (placeN l key), Op.bytesLess x.key key = true := fun x hx => by
  obtain ⟨i, hi, rfl⟩ := List.getElem_of_mem hx
  rw [List.length_take] at hi
  rw [List.getElem_take]
  have := hp i (by omega)
  unfold lessK at this
  rw [this]; simp; omega
 have hnl : ∀ j (hj : j < l.length), placeN l key ≤ j → Op.bytesLess l[j].key key = false := fun j hj hpj => by
  have := hp j hj
  unfold lessK at this
  rw [this]; simp; omega
 have haft : ∀ x ∈ l.drop (if thereB l key then placeN l key + 1 else placeN l key), Op.bytesLess key x.key = true := by
  cases ht : thereB l key with
  | false =>
   intro x hx
   simp only [Bool.false_eq_true, if_false] at hx
   obtain ⟨i, hi, rfl⟩ := List.getElem_of_mem hx
   rw [List.getElem_drop]
   rw [List.length_drop] at hi
   have hj : placeN l key + i < l.length := by omega
   refine less_total _ _ (hnl _ hj (by omega)) (fun e => ?_)
   by_cases h0 : i = 0
   ·subst h0
    have hne : thereB l key = true := by
     unfold thereB
     rw [List.getElem?_eq_getElem (by omega)]
     simpa using e
    rw [ht] at hne; cases hne
   ·have hlt := List.pairwise_iff_getElem.1 h (placeN l key) (placeN l key + i) (by omega) hj (by omega)
    rw [e] at hlt
    rw [hnl _ (by omega) (Nat.le_refl _)] at hlt; cases hlt
  | true =>
   intro x hx
   simp only [if_true] at hx
   obtain ⟨i, hi, rfl⟩ := List.getElem_of_mem hx
   rw [List.getElem_drop]
   rw [List.length_drop] at hi
   have hk : (l[placeN l key]'(thereB_lt ht)).key = key := by
    have hlt := thereB_lt ht
    unfold thereB at ht
    rw [List.getElem?_eq_getElem hlt] at ht
    simpa using ht
   have hlt := List.pairwise_iff_getElem.1 h (placeN l key) (placeN l key + 1 + i) (thereB_lt ht) (by omega) (by omega)
   rw [hk] at hlt; exact hlt
 unfold putN Rising
 rw [List.pairwise_append, List.pairwise_append]
 refine ⟨⟨h.sublist (List.take_sublist _ _), by simp, ?_⟩, h.sublist (List.drop_sublist _ _), ?_⟩
 ·intro a ha b hb
  simp only [List.mem_singleton] at hb; subst hb
  exact hbef a ha
 ·intro a ha b hb
  rcases List.mem_append.1 ha with ha | ha
  ·exact less_trans (hbef a ha) (haft b hb)
  ·simp only [List.mem_singleton] at ha; subst ha
   exact haft b hb
theorem rising_del {l : List ItR} (h : Rising l) (key : List UInt8) : Rising (delN l key) := by
 unfold delN Rising
 have hs : (l.take (placeN l key) ++ l.drop (placeN l key + 1)).Sublist l := by
  have h1 : (l.take (placeN l key) ++ l.drop (placeN l key + 1)).Sublist (l.take (placeN l key) ++ l.drop (placeN l key)) := List.Sublist.append (List.Sublist.refl _) (by rw [← List.drop_drop]; exact List.drop_sublist _ _)
  rwa [List.take_append_drop] at h1
 exact List.Pairwise.sublist hs h
theorem mem_put {l : List ItR} {key value : List UInt8} {x : ItR} (h : x ∈ putN l key value) : x ∈ l ∨ x = ⟨key, value, 0⟩ := by
 unfold putN at h
 simp only [List.mem_append, List.mem_singleton] at h
 rcases h with (h | h) | h
 ·exact Or.inl (List.mem_of_mem_take h)
 ·exact Or.inr h
 ·exact Or.inl (List.mem_of_mem_drop h)
theorem mem_del {l : List ItR} {key : List UInt8} {x : ItR} (h : x ∈ delN l key) : x ∈ l := by
 unfold delN at h
 rcases List.mem_append.1 h with h | h
 ·exact List.mem_of_mem_take h
 ·exact List.mem_of_mem_drop h
theorem len_put {l : List ItR} (key value : List UInt8) (h : l.length ≤ 60) (hf : thereB l key = false → l.length < 60) : (putN l key value).length ≤ 60 := by
 have hle := placeN_le l key
 unfold putN
 cases ht : thereB l key with
 | false => have := hf ht; simp [ht]; omega
 | true => have := thereB_lt ht; simp [ht]; omega
theorem len_del {l : List ItR} (key : List UInt8) (h : l.length ≤ 60) : (delN l key).length ≤ 60 := by
 unfold delN; simp; omega
def keyOk (key : List UInt8) : Bool := decide (1 ≤ key.length) && decide (key.length ≤ 12)
def putE (l : List ItR) (key value : List UInt8) : Nat := if (keyOk key && decide (value.length ≤ 12)) = false then 1 else if thereB l key = false ∧ l.length = 60 then 2 else 0
def putL (l : List ItR) (key value : List UInt8) : List ItR := if putE l key value = 0 then putN l key value else l
def delE (l : List ItR) (key : List UInt8) : Nat := if keyOk key = false then 1 else if thereB l key = false then 3 else 0
def delL (l : List ItR) (key : List UInt8) : List ItR := if delE l key = 0 then delN l key else l
theorem sto_put (sb N : Nat) (en tr : SlR) (mp : Option Nat) (es : List MEn) (xs : List EnP) (its : List ItR) (tds : List Nd) (sk sv : SlR) (key value : List UInt8) (w : World) (h : StoAt w sb N en tr mp es xs its tds) (hK : BS w sk key) (hV : BS w sv value) (hkm : key.length ≤ maxLen) (hvm : value.length ≤ maxLen) :
  Calls Try.prog 32 #[.pointer (some ⟨sb, 0, none⟩), sk.val, sv.val] w fun e w' => e = .returned (.int .i64 (putE its key value : Int)) ∧ ∃ en' xs', StoAt w' sb N en' tr mp es xs' (putL its key value) tds ∧ Frame (fun k => k = sb) w w' ∧ (∀ k, stoF sb en' tr mp es xs' tds k → k < w.heap.size → stoF sb en tr mp es xs tds k) := by
 have hxl := h.ent.len
 by_cases ha : (keyOk key && decide (value.length ≤ 12)) = false
 ·have he : putE its key value = 1 := by unfold putE; rw [if_pos ha]
  have hl : putL its key value = its := by unfold putL; rw [he]; rfl
  rw [he, hl]
  refine (put_arg (.pointer (some ⟨sb, 0, none⟩)) sk.a sv.a sk.n sk.cap sv.n sv.cap w (by rw [hK.n]; exact hkm) (by rw [hV.n]; exact hvm) (by rw [hK.n, hV.n]; exact ha)).mono ?_
  rintro e w' ⟨rfl, rfl⟩
  exact ⟨rfl, en, xs, h, Frame.refl _ _, fun k hk _ => hk⟩
 ·have ha' : keyOk key = true ∧ value.length ≤ 12 := by
   have := (Bool.not_eq_false _).mp ha
   simpa using this
  have hk : 1 ≤ key.length ∧ key.length ≤ 12 := by have := ha'.1; unfold keyOk at this; simpa using this
  by_cases hf : thereB its key = false ∧ its.length = 60
  ·have he : putE its key value = 2 := by unfold putE; rw [if_neg ha, if_pos hf]
   have hl : putL its key value = its := by unfold putL; rw [he]; rfl
   rw [he, hl]
   refine (put_full sb en tr mp xs its sk sv key w h.row h.ent h.rise (by omega) hK hk.1 hk.2 (by rw [hV.n]; exact ha'.2) hf.1).mono ?_
   rintro e w' ⟨rfl, hb⟩
   exact ⟨rfl, en, xs, h.below hb, Frame.of_below_all hb, fun k hk _ => hk⟩
  ·have he : putE its key value = 0 := by unfold putE; rw [if_neg ha, if_neg hf]
   have hl : putL its key value = putN its key value := by unfold putL; rw [he]; rfl
   rw [he, hl]
   have hfl : thereB its key = false → its.length < 60 := fun ht => by
    have := h.len
    by_cases h6 : its.length = 60
    ·exact absurd ⟨ht, h6⟩ hf
    ·omega
   refine (put_ok sb en tr mp xs its sk sv key value w h.row (fun k hk e => h.entf k hk (Or.inl e)) h.ent h.rise (by have := h.len; omega) hK hV hk.1 hk.2 ha'.2 (fun ht => by have := hfl ht; omega)).mono ?_
   rintro e w' ⟨rfl, en', xs', g1, g2, g3, g4⟩
   have hsb := RowV.lt h.row
   refine ⟨rfl, en', xs', ⟨g1, h.known.frameSb g3 (StoAt.mp_ne h.row h.known), g2, fun k hk hm => ?_, owns_frame h.own g3 (fun k hk e => h.trf k hk (Or.inl e)), h.trf, fun nd hn => ⟨(h.nds nd hn).1.frame g3 (fun k hk e => (h.nds nd hn).2 k hk (Or.inl e)), (h.nds nd hn).2⟩, rising_put h.rise key value, ?_, ?_, len_put key value h.len hfl⟩, g3, ?_⟩
   ·have hlt := KMut.lt h.known hsb k hm
    exact h.entf k (g4 k hk hlt) hm
   ·intro x hx
    rcases mem_put hx with hx | rfl
    ·exact h.ok x hx
    ·exact ⟨hk.2, ha'.2⟩
   ·intro x hx
    rcases mem_put hx with hx | rfl
    ·exact h.norm x hx
    ·rfl
   ·intro k hk hlt
    rcases hk with hk | hk | hk
    ·exact Or.inl hk
    ·exact Or.inr (Or.inl (g4 k hk hlt))
    ·exact Or.inr (Or.inr hk)
theorem sto_del (sb N : Nat) (en tr : SlR) (mp : Option Nat) (es : List MEn) (xs : List EnP) (its : List ItR) (tds : List Nd) (sk : SlR) (key : List UInt8) (w : World) (h : StoAt w sb N en tr mp es xs its tds) (hK : BS w sk key) (hkm : key.length ≤ maxLen) :
  Calls Try.prog 33 #[.pointer (some ⟨sb, 0, none⟩), sk.val] w fun e w' => e = .returned (.int .i64 (delE its key : Int)) ∧ ∃ en' xs', StoAt w' sb N en' tr mp es xs' (delL its key) tds ∧ Frame (fun k => k = sb) w w' ∧ (∀ k, stoF sb en' tr mp es xs' tds k → k < w.heap.size → stoF sb en tr mp es xs tds k) := by
 have hxl := h.ent.len
 by_cases ha : keyOk key = false
 ·have he : delE its key = 1 := by unfold delE; rw [if_pos ha]
  have hl : delL its key = its := by unfold delL; rw [he]; rfl
  rw [he, hl]
  refine (del_arg (.pointer (some ⟨sb, 0, none⟩)) sk.a sk.n sk.cap w (by rw [hK.n]; exact hkm) (by rw [hK.n]; exact ha)).mono ?_
  rintro e w' ⟨rfl, rfl⟩
  exact ⟨rfl, en, xs, h, Frame.refl _ _, fun k hk _ => hk⟩
 ·have ha' : keyOk key = true := (Bool.not_eq_false _).mp ha
  have hk : 1 ≤ key.length ∧ key.length ≤ 12 := by unfold keyOk at ha'; simpa using ha'
  by_cases hf : thereB its key = false
  ·have he : delE its key = 3 := by unfold delE; rw [if_neg ha, if_pos hf]
   have hl : delL its key = its := by unfold delL; rw [he]; rfl
   rw [he, hl]
   refine (del_none sb en tr mp xs its sk key w h.row h.ent h.rise (by have := h.len; omega) hK hk.1 hk.2 hf).mono ?_
   rintro e w' ⟨rfl, hb⟩
   exact ⟨rfl, en, xs, h.below hb, Frame.of_below_all hb, fun k hk _ => hk⟩
  ·have ht : thereB its key = true := (Bool.not_eq_false _).mp hf
   have he : delE its key = 0 := by unfold delE; rw [if_neg ha, if_neg hf]
   have hl : delL its key = delN its key := by unfold delL; rw [he]; rfl
   rw [he, hl]
   have hpos := thereB_lt ht
   obtain ⟨ea, n, cap⟩ := en
   obtain ⟨hen, _, _, had⟩ := owns_cap (a := ea) (n' := n) (cap := cap) h.ent.own
   obtain ⟨g, rfl, _⟩ : ∃ g, ea = some ⟨g, 0, none⟩ ∧ True := by
    rcases had with ⟨_, h1, _⟩ | ⟨g, h1, _⟩
    ·omega
    ·exact ⟨g, h1, trivial⟩
   refine (del_some sb g n cap tr mp xs its sk key w h.row (fun k hk e => h.entf k hk (Or.inl e)) h.ent h.rise (by have := h.len; omega) hK hk.1 hk.2 ht).mono ?_
   rintro e w' ⟨rfl, en', xs', g1, g2, g3, g4⟩
   have hsb := RowV.lt h.row
   refine ⟨rfl, en', xs', ⟨g1, h.known.frameSb g3 (StoAt.mp_ne h.row h.known), g2, fun k hk hm => ?_, owns_frame h.own g3 (fun k hk e => h.trf k hk (Or.inl e)), h.trf, fun nd hn => ⟨(h.nds nd hn).1.frame g3 (fun k hk e => (h.nds nd hn).2 k hk (Or.inl e)), (h.nds nd hn).2⟩, rising_del h.rise key, ?_, ?_, len_del key h.len⟩, g3, ?_⟩
   ·have hlt := KMut.lt h.known hsb k hm
    exact h.entf k (g4 k hk hlt) hm
   ·intro x hx; exact h.ok x (mem_del hx)
   ·intro x hx; exact h.norm x (mem_del hx)
   ·intro k hk hlt
    rcases hk with hk | hk | hk
    ·exact Or.inl hk
    ·exact Or.inr (Or.inl (g4 k hk hlt))
    ·exact Or.inr (Or.inr hk)
end Go.Proofs.Ytekegfbjbainhaa


namespace Go.Proofs.Ytekegfbjbainhaa
open Go.RowKit
end Go.Proofs.Ytekegfbjbainhaa


namespace Go.Proofs.Ytekegfbjbainhaa
open Go.RowKit
end Go.Proofs.Ytekegfbjbainhaa


namespace Go.Proofs.Ytekegfbjbainhaa
open Go.RowKit
structure PastOk (p : List ItR) : Prop where
 rise : Rising p
 ok : ∀ x ∈ p, ItOk x
 norm : ∀ x ∈ p, x.below = 0
 len : p.length ≤ 60
def treeF (T : List (List (List Nd))) (k : Nat) : Prop := ∃ L ∈ T, ∃ nds ∈ L, ∃ x ∈ nds, ndF x k
structure StoT (w : World) (sb : Nat) (mp : Option Nat) (es : List MEn) (T : List (List (List Nd))) (tds : List Nd) (pp : List (List ItR)) : Prop where
 good : ∀ L ∈ T, ∀ nds ∈ L, ∀ x ∈ nds, NdOk w x ∧ ∀ k, ndF x k → ¬ KMut sb mp es k
 tl : T.length = tds.length
 pl : pp.length = tds.length
 rep : ∀ (i : Nat) (L : List (List Nd)) (p : List ItR) (nd : Nd), T[i]? = some L → pp[i]? = some p → tds[i]? = some nd → TreeRep (grownN p) L ∧ (∃ ℓ, L.length = ℓ + 1 ∧ L[ℓ]? = some [nd]) ∧ PastOk p
theorem StoT.lt {w : World} {sb : Nat} {mp : Option Nat} {es : List MEn} {T : List (List (List Nd))} {tds : List Nd} {pp : List (List ItR)} (h : StoT w sb mp es T tds pp) : ∀ k, treeF T k → k < w.heap.size := fun k ⟨L, hL, nds, hn, x, hx, hk⟩ => (h.good L hL nds hn x hx).1.lt k hk
theorem StoT.frame {w W : World} {S : Nat → Prop} {sb : Nat} {mp : Option Nat} {es : List MEn} {T : List (List (List Nd))} {tds : List Nd} {pp : List (List ItR)} (h : StoT w sb mp es T tds pp) (hf : Frame S w W) (hS : ∀ k, treeF T k → ¬ S k) : StoT W sb mp es T tds pp :=
 ⟨fun L hL nds hn x hx => ⟨(h.good L hL nds hn x hx).1.frame hf (fun k hk => hS k ⟨L, hL, nds, hn, x, hx, hk⟩), (h.good L hL nds hn x hx).2⟩, h.tl, h.pl, h.rep⟩
theorem StoT.next {w W : World} {S : Nat → Prop} {sb : Nat} {mp mp' : Option Nat} {es es' : List MEn} {T : List (List (List Nd))} {tds : List Nd} {pp : List (List ItR)} (h : StoT w sb mp es T tds pp) (hf : Frame S w W) (hS : ∀ k, S k → KMut sb mp es k) (hM : ∀ k, KMut sb mp' es' k → k < w.heap.size → KMut sb mp es k) : StoT W sb mp' es' T tds pp :=
 ⟨fun L hL nds hn x hx => ⟨(h.good L hL nds hn x hx).1.frame hf (fun k hk e => (h.good L hL nds hn x hx).2 k hk (hS k e)), fun k hk e => (h.good L hL nds hn x hx).2 k hk (hM k e ((h.good L hL nds hn x hx).1.lt k hk))⟩, h.tl, h.pl, h.rep⟩
theorem StoT.push {w : World} {sb ℓ : Nat} {mp : Option Nat} {es : List MEn} {T : List (List (List Nd))} {tds : List Nd} {pp : List (List ItR)} {L : List (List Nd)} {nd : Nd} {p : List ItR} (h : StoT w sb mp es T tds pp) (hL : ∀ nds ∈ L, ∀ x ∈ nds, NdOk w x ∧ ∀ k, ndF x k → ¬ KMut sb mp es k) (h1 : TreeRep (grownN p) L) (h2 : L.length = ℓ + 1) (h3 : L[ℓ]? = some [nd]) (h4 : PastOk p) :
  StoT w sb mp es (T ++ [L]) (tds ++ [nd]) (pp ++ [p]) := by
 refine ⟨fun M hM nds hn x hx => ?_, by simp [h.tl], by simp [h.pl], fun i M q n e1 e2 e3 => ?_⟩
 ·rcases List.mem_append.1 hM with hM | hM
  ·exact h.good M hM nds hn x hx
  ·simp only [List.mem_singleton] at hM; subst hM; exact hL nds hn x hx
 ·by_cases hi : i < T.length
  ·rw [List.getElem?_append_left hi] at e1
   rw [List.getElem?_append_left (by rw [h.pl, ← h.tl]; exact hi)] at e2
   rw [List.getElem?_append_left (by rw [← h.tl]; exact hi)] at e3
   exact h.rep i M q n e1 e2 e3
  ·have hi' : i = T.length := by
    have := (List.getElem?_eq_some_iff.1 e1).1
    simp at this; omega
   subst hi'
   have e2' := h.tl
   have e3' := h.pl
   rw [List.getElem?_append_right (Nat.le_refl _), Nat.sub_self] at e1
   rw [List.getElem?_append_right (by omega), show T.length - pp.length = 0 by omega] at e2
   rw [List.getElem?_append_right (by omega), show T.length - tds.length = 0 by omega] at e3
   simp at e1 e2 e3
   subst e1 e2 e3
   exact ⟨h1, ⟨ℓ, h2, h3⟩, h4⟩
def comsF : Nat → List (List UInt8) → List Value
 | 0, _ => []
 | n + 1, rl => comsF n rl ++ commitC n (rl.getD n []) (n + 1) (sumF 42 (rl.take (n + 1)))
def comsC (rl : List (List UInt8)) : List Value := comsF rl.length rl
theorem comsF_append : ∀ (n : Nat) (rl r : List (List UInt8)), n ≤ rl.length → comsF n (rl ++ r) = comsF n rl
 | 0, _, _, _ => rfl
 | n + 1, rl, r, h => by
  unfold comsF
  rw [comsF_append n rl r (by omega), List.take_append_of_le_length h]
  have e : (rl ++ r).getD n [] = rl.getD n [] := by
   simp only [List.getD_eq_getElem?_getD]
   rw [List.getElem?_append_left (by omega)]
  rw [e]
theorem comsC_snoc (rl : List (List UInt8)) (r : List UInt8) : comsC (rl ++ [r]) = comsC rl ++ commitC rl.length r (rl.length + 1) (sumF 42 (rl ++ [r])) := by
 unfold comsC
 rw [List.length_append, List.length_singleton, comsF, comsF_append _ _ _ (Nat.le_refl _), List.take_of_length_le (by simp)]
 have e : (rl ++ [r]).getD rl.length [] = r := by simp
 rw [e]
end Go.Proofs.Ytekegfbjbainhaa


namespace Go.Proofs.Ytekegfbjbainhaa
open Go.RowKit
attribute [local go_sem ↓] Go.wp_at_zero Go.wp_at_succ
theorem RowV.cellK {w : World} {b t : Nat} {l : List Value} (h : RowV w b t l) (k : Nat) (v : Value) (hv : l[k]? = some v) : w.cell? ⟨b, k, none⟩ = some v := by
 obtain ⟨hk, rfl⟩ := List.getElem?_eq_some_iff.1 hv
 exact RowV.cell h k hk
end Go.Proofs.Ytekegfbjbainhaa


namespace Go.Proofs.Ytekegfbjbainhaa
open Go.RowKit
end Go.Proofs.Ytekegfbjbainhaa


namespace Go.Proofs.Ytekegfbjbainhaa
open Go.RowKit
end Go.Proofs.Ytekegfbjbainhaa


namespace Go.Proofs.Ytekegfbjbainhaa
open Go.RowKit
end Go.Proofs.Ytekegfbjbainhaa


namespace Go.Proofs.Ytekegfbjbainhaa
open Go.RowKit
theorem BS.drew {w : World} {s : SlR} {l : List UInt8} (h : BS w s l) : BS w.drew s l := ⟨h.sl, h.n, h.nil, h.lt⟩
theorem BS.ofString (w : World) (s : ByteArray) (cap : Nat) (t : TypeId) (fr : Nat × Nat) : BS (w.alloc (.cells (bytesRow s cap) t fr)) ⟨some ⟨w.heap.size, 0, none⟩, s.size, cap⟩ s.data.toList :=
 ⟨SlB.mk (by simp) (bytes_of_string _ _ _ _ _), by simp, fun e => (by cases e), fun x hx => (by cases hx; simp)⟩
end Go.Proofs.Ytekegfbjbainhaa


namespace Go.Proofs.Ytekegfbjbainhaa
open Go.RowKit
end Go.Proofs.Ytekegfbjbainhaa


namespace Go.Proofs.Ytekegfbjbainhaa
open Go.RowKit
end Go.Proofs.Ytekegfbjbainhaa


namespace Go.Proofs.Ytekegfbjbainhaa
open Go.RowKit
attribute [local go_sem ↓] Go.wp_at_zero Go.wp_at_succ
end Go.Proofs.Ytekegfbjbainhaa


namespace Go.Proofs.Ytekegfbjbainhaa
open Go.RowKit
attribute [local go_sem ↓] Go.wp_at_zero Go.wp_at_succ
end Go.Proofs.Ytekegfbjbainhaa


namespace Go.Proofs.Ytekegfbjbainhaa
open Go.RowKit
end Go.Proofs.Ytekegfbjbainhaa


namespace Go.Proofs.Ytekegfbjbainhaa
open Go.RowKit
end Go.Proofs.Ytekegfbjbainhaa


namespace Go.Proofs.Ytekegfbjbainhaa
open Go.RowKit
end Go.Proofs.Ytekegfbjbainhaa


namespace Go.Proofs.Ytekegfbjbainhaa
open Go.RowKit
end Go.Proofs.Ytekegfbjbainhaa


namespace Go.Proofs.Ytekegfbjbainhaa
open Go.RowKit
end Go.Proofs.Ytekegfbjbainhaa


namespace Go.Proofs.Ytekegfbjbainhaa
open Go.RowKit
attribute [local go_sem ↓] Go.wp_at_zero Go.wp_at_succ
end Go.Proofs.Ytekegfbjbainhaa


namespace Go.Proofs.Ytekegfbjbainhaa
open Go.RowKit
attribute [local go_sem ↓] Go.wp_at_zero Go.wp_at_succ
end Go.Proofs.Ytekegfbjbainhaa


namespace Go.Proofs.Ytekegfbjbainhaa
open Go.RowKit
end Go.Proofs.Ytekegfbjbainhaa


namespace Go.Proofs.Ytekegfbjbainhaa
open Go.RowKit
end Go.Proofs.Ytekegfbjbainhaa


namespace Go.Proofs.Ytekegfbjbainhaa
open Go.RowKit
end Go.Proofs.Ytekegfbjbainhaa


namespace Go.Proofs.Ytekegfbjbainhaa
open Go.RowKit
end Go.Proofs.Ytekegfbjbainhaa


namespace Go.Proofs.Ytekegfbjbainhaa
open Go.RowKit
end Go.Proofs.Ytekegfbjbainhaa


namespace Go.Proofs.Ytekegfbjbainhaa
open Go.RowKit
end Go.Proofs.Ytekegfbjbainhaa


namespace Go.Proofs.Ytekegfbjbainhaa
open Go.RowKit
end Go.Proofs.Ytekegfbjbainhaa


namespace Go.Proofs.Ytekegfbjbainhaa
open Go.RowKit
attribute [local go_sem ↓] Go.wp_at_zero Go.wp_at_succ
def blkOf (s : SlR) (k : Nat) : Prop := ∃ x, s.a = some x ∧ x.block = k
end Go.Proofs.Ytekegfbjbainhaa


namespace Go.Proofs.Ytekegfbjbainhaa
open Go.RowKit
end Go.Proofs.Ytekegfbjbainhaa


namespace Go.Proofs.Ytekegfbjbainhaa
open Go.RowKit
end Go.Proofs.Ytekegfbjbainhaa


namespace Go.Proofs.Ytekegfbjbainhaa
open Go.RowKit
def Met (A B : List (List UInt8)) : Prop := ∃ x ∈ A, ∃ y ∈ B, x ≠ y ∧ digB x = digB y
theorem Met.mono {A B A' B' : List (List UInt8)} (h : Met A B) (h1 : ∀ x ∈ A, x ∈ A') (h2 : ∀ x ∈ B, x ∈ B') : Met A' B' := by
 obtain ⟨x, hx, y, hy, h⟩ := h
 exact ⟨x, h1 x hx, y, h2 y hy, h⟩
end Go.Proofs.Ytekegfbjbainhaa
