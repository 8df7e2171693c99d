import Derived.Test.YtekegfbjbainhaaKJoin24
import Derived.Laws.CopyRow
import Derived.Laws.MakeOwn
import Derived.Deep.WholeRow
import Derived.Deep.DeepCutAuto
import Derived.Deep.CutBlock
import Derived.Deep.RegionHeld3
set_option linter.unusedVariables false
set_option linter.unusedSimpArgs false

namespace Go.Proofs.Ytekegfbjbainhaa
open Go.RowKit
theorem mem_rest {l : List ItR} (hr : Rising l) (key : List UInt8) (y : ItR) : y ∈ (if thereB l key then delN l key else l) ↔ y ∈ l ∧ y.key ≠ key := by
 rw [← htA_end hr]
 unfold htA
 rw [List.take_length, List.mem_filter]
 simp
theorem mem_putN {l : List ItR} (hr : Rising l) (key value : List UInt8) (y : ItR) : y ∈ putN l key value ↔ y = ⟨key, value, 0⟩ ∨ (y ∈ l ∧ y.key ≠ key) := by
 rw [← mem_rest hr key y]
 unfold putN
 cases ht : thereB l key with
 | true =>
  simp only [if_true]
  unfold delN
  simp only [List.mem_append, List.mem_singleton]
  constructor
  ·rintro ((h | h) | h)
   ·exact Or.inr (Or.inl h)
   ·exact Or.inl h
   ·exact Or.inr (Or.inr h)
  ·rintro (h | h | h)
   ·exact Or.inl (Or.inr h)
   ·exact Or.inl (Or.inl h)
   ·exact Or.inr h
 | false =>
  simp only [Bool.false_eq_true, if_false]
  have e : y ∈ l ↔ y ∈ l.take (placeN l key) ∨ y ∈ l.drop (placeN l key) := by
   conv => lhs; rw [← List.take_append_drop (placeN l key) l]
   exact List.mem_append
  rw [e]
  simp only [List.mem_append, List.mem_singleton]
  constructor
  ·rintro ((h | h) | h)
   ·exact Or.inr (Or.inl h)
   ·exact Or.inl h
   ·exact Or.inr (Or.inr h)
  ·rintro (h | h | h)
   ·exact Or.inl (Or.inr h)
   ·exact Or.inl (Or.inl h)
   ·exact Or.inr h
theorem there_iff {l : List ItR} (hr : Rising l) (key : List UInt8) : thereB l key = true ↔ ∃ x ∈ l, x.key = key := by
 constructor
 ·intro h
  have hp := thereB_lt h
  have he := place_eq hp rfl
  rw [h] at he
  exact ⟨_, List.getElem_mem hp, by simpa using he.symm⟩
 ·rintro ⟨x, hx, rfl⟩
  obtain ⟨i, hi, rfl⟩ := List.mem_iff_getElem.1 hx
  by_cases hp : i = placeN l l[i].key
  ·rw [place_eq hi hp]; simp
  ·exact absurd rfl (place_ne hr hi hp)
theorem mem_delL {l : List ItR} (hr : Rising l) {key : List UInt8} (hk : keyOk key = true) (y : ItR) : y ∈ delL l key ↔ y ∈ l ∧ y.key ≠ key := by
 rw [← mem_rest hr key y]
 unfold delL delE
 rw [hk]
 cases thereB l key <;> simp
theorem mem_putL {l : List ItR} (hr : Rising l) {key value : List UInt8} (hk : keyOk key = true) (hv : value.length ≤ 12) (hf : thereB l key = true ∨ l.length < 60) (y : ItR) : y ∈ putL l key value ↔ y = ⟨key, value, 0⟩ ∨ (y ∈ l ∧ y.key ≠ key) := by
 rw [← mem_putN hr key value y]
 have hp : putE l key value = 0 := by
  rw [putE_ok l hk hv, if_neg]
  rintro ⟨e1, e2⟩
  rcases hf with h | h
  ·rw [h] at e1; cases e1
  ·omega
 unfold putL
 rw [if_pos hp]
theorem rising_ext : ∀ {a b : List ItR}, Rising a → Rising b → (∀ x, x ∈ a ↔ x ∈ b) → a = b
 | [], [], _, _, _ => rfl
 | [], y :: b, _, _, h => by have := (h y).2 (by simp); cases this
 | x :: a, [], _, _, h => by have := (h x).1 (by simp); cases this
 | x :: a, y :: b, ha, hb, h => by
  obtain ⟨a1, a2⟩ := List.pairwise_cons.1 ha
  obtain ⟨b1, b2⟩ := List.pairwise_cons.1 hb
  have exy : x = y := by
   rcases List.mem_cons.1 ((h x).1 (by simp)) with e | e
   ·exact e
   ·rcases List.mem_cons.1 ((h y).2 (by simp)) with e' | e'
    ·exact e'.symm
    ·have g1 := b1 x e
     have g2 := a1 y e'
     rw [less_asymm g1] at g2; cases g2
  subst exy
  rw [rising_ext a2 b2 (fun z => ?_)]
  constructor
  ·intro hz
   rcases List.mem_cons.1 ((h z).1 (by simp [hz])) with e | e
   ·subst e; have := a1 z hz; rw [less_irrefl] at this; cases this
   ·exact e
  ·intro hz
   rcases List.mem_cons.1 ((h z).2 (by simp [hz])) with e | e
   ·subst e; have := b1 z hz; rw [less_irrefl] at this; cases this
   ·exact e
theorem rising_key {l : List ItR} (hr : Rising l) {x y : ItR} (hx : x ∈ l) (hy : y ∈ l) (e : x.key = y.key) : x = y := by
 obtain ⟨i, hi, rfl⟩ := List.mem_iff_getElem.1 hx
 obtain ⟨j, hj, rfl⟩ := List.mem_iff_getElem.1 hy
 rcases Nat.lt_trichotomy i j with h | h | h
 ·have := List.pairwise_iff_getElem.1 hr i j hi hj h
  rw [e, less_irrefl] at this; cases this
 ·subst h; rfl
 ·have := List.pairwise_iff_getElem.1 hr j i hj hi h
  rw [e, less_irrefl] at this; cases this
theorem rising_putL {l : List ItR} (hr : Rising l) (key value : List UInt8) : Rising (putL l key value) := by
 unfold putL; split
 ·exact rising_put hr key value
 ·exact hr
theorem rising_delL {l : List ItR} (hr : Rising l) (key : List UInt8) : Rising (delL l key) := by
 unfold delL; split
 ·exact rising_del hr key
 ·exact hr
structure PutSo (l left now : List ItR) : Prop where
 rise : Rising now
 mem : ∀ x, x ∈ now ↔ x ∈ l ∧ x ∉ left
theorem PutSo.done {l now : List ItR} (hl : Rising l) (h : PutSo l [] now) : now = l := rising_ext h.rise hl (fun x => by rw [h.mem]; simp)
theorem findM_gone {l : List ItR} (hr : Rising l) {key : List UInt8} (hk : keyOk key = true) : findM key (delL l key) = none := findM_none (fun y hy => ((mem_delL hr hk y).1 hy).2)
end Go.Proofs.Ytekegfbjbainhaa


namespace Go.Proofs.Ytekegfbjbainhaa
open Go.RowKit
def leftN (left : List ItR) (k : Nat) (z : ItR) : List ItR := (left.set k z).dropLast
theorem leftN_mem {left : List ItR} (hd : left.Nodup) {k : Nat} (hk : k < left.length) (y : ItR) : y ∈ leftN left k (left[left.length - 1]'(by omega)) ↔ y ∈ left ∧ y ≠ left[k] := by
 have key : ∀ (i j : Nat) (hi : i < left.length) (hj : j < left.length), left[i] = left[j] → i = j := fun i j hi hj e => by
  rcases Nat.lt_trichotomy i j with h | h | h
  ·exact absurd e (List.pairwise_iff_getElem.1 hd i j hi hj h)
  ·exact h
  ·exact absurd e.symm (List.pairwise_iff_getElem.1 hd j i hj hi h)
 unfold leftN
 constructor
 ·intro hy
  obtain ⟨i, hi, rfl⟩ := List.mem_iff_getElem.1 hy
  simp only [List.length_dropLast, List.length_set] at hi
  rw [List.getElem_dropLast, List.getElem_set]
  split
  ·rename_i e
   refine ⟨List.getElem_mem _, fun e2 => ?_⟩
   have := key _ _ (by omega) hk e2
   omega
  ·rename_i e
   refine ⟨List.getElem_mem _, fun e2 => e (key _ _ (by omega) hk e2).symm⟩
 ·rintro ⟨hy, hne⟩
  obtain ⟨i, hi, rfl⟩ := List.mem_iff_getElem.1 hy
  have hik : i ≠ k := fun e => hne (by subst e; rfl)
  by_cases hl : i = left.length - 1
  ·subst hl
   refine List.mem_iff_getElem.2 ⟨k, by simp; omega, ?_⟩
   rw [List.getElem_dropLast, List.getElem_set]
   simp
  ·refine List.mem_iff_getElem.2 ⟨i, by simp; omega, ?_⟩
   rw [List.getElem_dropLast, List.getElem_set, if_neg (fun e => hik e.symm)]
theorem leftN_nodup {left : List ItR} (hd : left.Nodup) {k : Nat} (hk : k < left.length) : (leftN left k (left[left.length - 1]'(by omega))).Nodup := by
 have key : ∀ (i j : Nat) (hi : i < left.length) (hj : j < left.length), left[i] = left[j] → i = j := fun i j hi hj e => by
  rcases Nat.lt_trichotomy i j with h | h | h
  ·exact absurd e (List.pairwise_iff_getElem.1 hd i j hi hj h)
  ·exact h
  ·exact absurd e.symm (List.pairwise_iff_getElem.1 hd j i hj hi h)
 unfold leftN List.Nodup
 rw [List.pairwise_iff_getElem]
 intro i j hi hj hij
 simp only [List.length_dropLast, List.length_set] at hi hj
 rw [List.getElem_dropLast, List.getElem_dropLast, List.getElem_set, List.getElem_set]
 split
 ·rename_i e1
  split
  ·rename_i e2; omega
  ·intro e; have := key _ _ (by omega) (by omega) e; omega
 ·rename_i e1
  split
  ·intro e; have := key _ _ (by omega) (by omega) e; omega
  ·intro e; have := key _ _ (by omega) (by omega) e; omega
theorem PutSo.step {l left now : List ItR} (hl : Rising l) (h60 : l.length ≤ 60) (h : PutSo l left now) (hsub : ∀ x ∈ left, x ∈ l) (hd : left.Nodup) {k : Nat} (hk : k < left.length) (hz : left[k].below = 0) (hko : keyOk left[k].key = true) (hvo : left[k].more.length ≤ 12) {v0 : List UInt8} (h0 : v0.length ≤ 12) (hn : now.length < 60) :
  PutSo l (leftN left k (left[left.length - 1]'(by omega))) (putL (putL now left[k].key v0) left[k].key left[k].more) := by
 have hr1 := rising_putL h.rise left[k].key v0
 refine ⟨rising_putL hr1 _ _, fun y => ?_⟩
 have hth : thereB (putL now left[k].key v0) left[k].key = true := (there_iff hr1 _).2 ⟨⟨left[k].key, v0, 0⟩, (mem_putL h.rise hko h0 (Or.inr hn) _).2 (Or.inl rfl), rfl⟩
 have hx : (⟨left[k].key, left[k].more, 0⟩ : ItR) = left[k] := by rw [← hz]
 rw [mem_putL hr1 hko hvo (Or.inl hth), mem_putL h.rise hko h0 (Or.inr hn), leftN_mem hd hk, h.mem, hx]
 have hkl := hsub _ (List.getElem_mem hk)
 constructor
 ·rintro (rfl | ⟨rfl | ⟨⟨h1, h2⟩, h3⟩, h4⟩)
  ·exact ⟨hkl, fun e => e.2 rfl⟩
  ·exact absurd rfl h4
  ·exact ⟨h1, fun e => h2 e.1⟩
 ·rintro ⟨h1, h2⟩
  by_cases e : y = left[k]
  ·exact Or.inl e
  ·have hne : y.key ≠ left[k].key := fun e' => e (rising_key hl h1 hkl e')
   exact Or.inr ⟨Or.inr ⟨⟨h1, fun e' => h2 ⟨e', e⟩⟩, hne⟩, hne⟩
theorem put_del {now : List ItR} (hr : Rising now) {key value : List UInt8} (hk : keyOk key = true) (hv : value.length ≤ 12) (hn : now.length < 60) (hnot : ∀ x ∈ now, x.key ≠ key) : delL (putL now key value) key = now := by
 refine rising_ext (rising_delL (rising_putL hr key value) key) hr (fun y => ?_)
 rw [mem_delL (rising_putL hr key value) hk, mem_putL hr hk hv (Or.inr hn)]
 constructor
 ·rintro ⟨rfl | h, h2⟩
  ·exact absurd rfl h2
  ·exact h.1
 ·intro h
  exact ⟨Or.inr ⟨h, hnot y h⟩, hnot y h⟩
theorem PutSo.len {l left now : List ItR} (hl : Rising l) (h : PutSo l left now) {x : ItR} (hx : x ∈ l) (hxl : x ∈ left) : now.length < l.length := by
 have hnd : ∀ {m : List ItR}, Rising m → m.Nodup := fun {m} hm => List.Pairwise.imp (fun {a b} hab e => by subst e; rw [less_irrefl] at hab; cases hab) hm
 have hsub : ∀ y ∈ x :: now, y ∈ l := fun y hy => by
  rcases List.mem_cons.1 hy with rfl | hy
  ·exact hx
  ·exact ((h.mem y).1 hy).1
 have hnd2 : (x :: now).Nodup := List.nodup_cons.2 ⟨fun e => ((h.mem x).1 e).2 hxl, hnd h.rise⟩
 have h3 := List.Nodup.length_le_of_subset hnd2 hsub
 rw [List.length_cons] at h3
 omega
end Go.Proofs.Ytekegfbjbainhaa


namespace Go.Proofs.Ytekegfbjbainhaa
open Go.RowKit
theorem run_copy_rows {P : Program} (sz : Nat) (w : World) (dT sT ty elem : TypeId) (g o dLen dCap : Nat) (a : Addr) (sLen sCap : Nat) (cur : Array Value) (t : TypeId) (cs : List Value)
  (hu : P.underlying dT = some (.slice elem)) (hs : (P.info? elem).map (·.size) = some sz) (hg : w.heap[g]? = some (.cells cur t (0, 0))) (hn : cs.length = Nat.min sLen dLen * sz)
  (hsrc : ∀ j v, cs[j]? = some v → w.cell? (a.add j) = some v) (hfit : o + cs.length ≤ cur.size) (h1 : ∀ v ∈ cs, v.oneCell' = true) :
  (Builtin.copy_ #[dT, sT] ty #[.slice (some ⟨g, o, none⟩) dLen dCap, .slice (some a) sLen sCap]).run P w = .ok (goInt (Nat.min sLen dLen)) (w.setRow g (cur.toList.take o ++ cs ++ cur.toList.drop (o + cs.length)).toArray) := by
 have hl := run_loadCells_list (P := P) w a cs hsrc
 have hst := run_storeCells_at P g o t cs 0 cur w hg (by simpa using hfit) h1
 cases hq : P.info? elem with
 | none => simp [hq] at hs
 | some i =>
  have hi : i.size = sz := by simpa [hq] using hs
  simp [Builtin.copy_, run_underlying hu, Builtin.lenOf, Builtin.firstCells, sizeOf, typeInfo, hq, hi, ← hn, hl, hst]
theorem entsC_set : ∀ (es : List (SlR × SlR)) (k : Nat) (z : SlR × SlR), k < es.length → ((entsC es).set (k * 2) z.1.val).set (k * 2 + 1) z.2.val = entsC (es.set k z)
 | [], k, z, h => absurd h (Nat.not_lt_zero _)
 | e :: es, 0, z, _ => by simp [entsC, entC]
 | e :: es, k + 1, z, h => by
  have ih := entsC_set es k z (by simpa using h)
  rw [show (k + 1) * 2 = k * 2 + 1 + 1 by omega]
  simp only [entsC, entC, List.flatMap_cons, List.cons_append, List.nil_append, List.set_cons_succ] at ih ⊢
  rw [ih]
theorem entsC_get : ∀ (es : List (SlR × SlR)) (k : Nat) (h : k < es.length), (entsC es)[k * 2]? = some es[k].1.val ∧ (entsC es)[k * 2 + 1]? = some es[k].2.val
 | [], k, h => absurd h (Nat.not_lt_zero _)
 | e :: es, 0, _ => by simp [entsC, entC]
 | e :: es, k + 1, h => by
  have ih := entsC_get es k (by simpa using h)
  rw [show (k + 1) * 2 = k * 2 + 1 + 1 by omega]
  simpa [entsC, entC] using ih
theorem BsL.set {w : World} {es : List (SlR × SlR)} {l : List ItR} (h : BsL w es l) (k j : Nat) (hj : j < es.length) (hj' : j < l.length) : BsL w (es.set k es[j]) (l.set k l[j]) := by
 refine ⟨by simp [h.1], fun i h1 h2 => ?_⟩
 simp only [List.length_set] at h1 h2
 rw [List.getElem_set, List.getElem_set]
 split
 ·exact h.2 j hj hj'
 ·exact h.2 i h1 h2
theorem leftN_take {ls : List ItR} {m k : Nat} (hm : m ≤ ls.length) (z : ItR) : leftN (ls.take m) k z = (ls.set k z).take (m - 1) := by
 unfold leftN
 rw [List.dropLast_eq_take, ← List.take_set, List.take_take, List.length_take, List.length_set]
 congr 1
 omega
theorem HouD.M.toF {d : HouD} {k : Nat} (h : d.M k) : d.F k := by
 rcases h with h | h | h | h
 ·exact Or.inr (Or.inr (Or.inl h))
 ·exact Or.inl (Or.inl (Or.inl h))
 ·exact Or.inr (Or.inr (Or.inr (Or.inl h)))
 ·exact Or.inr (Or.inr (Or.inr (Or.inr h)))
structure GSt (w : World) (hb lb : Nat) (es : List (SlR × SlR)) (its : List ItR) (d : HouD) (wr : World) : Prop where
 hou : Hou w d wr
 hb : d.hb = hb
 its : d.its = its
 tds : d.tds = []
 row : RowV wr lb 37 (entsC es)
 ge : w.heap.size ≤ lb
 not : ¬ d.F lb
theorem GSt.below {w wr W : World} {hb lb : Nat} {es : List (SlR × SlR)} {its : List ItR} {d : HouD} (h : GSt w hb lb es its d wr) (b : Below wr.heap.size wr W) : GSt w hb lb es its d W := ⟨h.hou.below b, h.hb, h.its, h.tds, h.row.below h.row.lt b, h.ge, h.not⟩
theorem GSt.turn {w wr W : World} {hb lb : Nat} {es : List (SlR × SlR)} {its l : List ItR} {d d' : HouD} (h : GSt w hb lb es its d wr) (h1 : Hou w d' W) (h2 : d'.hb = d.hb) (h3 : d'.its = l) (h4 : d'.tds = d.tds) (hf : Frame d.M wr W) {F : Nat → Prop} (hM : ∀ k, d'.F k → k < wr.heap.size → d.F k ∨ F k) (hF : ¬ F lb) : GSt w hb lb es l d' W :=
 ⟨h1, h2.trans h.hb, h3, h4.trans h.tds, h.row.of_block (hf.block _ h.row.lt (fun e => h.not (e.toF))), h.ge, fun e => (hM _ e h.row.lt).elim h.not hF⟩
theorem Hou.old {w wr : World} {d : HouD} (h : Hou w d wr) {s : SlR} {l : List UInt8} (hs : BS w s l) : BS wr s l ∧ ∀ k, blkOf s k → ¬ d.M k :=
 ⟨hs.below h.bel, fun k ⟨x, hx, e⟩ hm => by have := h.ge k hm; have := hs.lt x hx; omega⟩
theorem GSt.put {w wr : World} {hb lb : Nat} {es : List (SlR × SlR)} {its : List ItR} {d : HouD} (h : GSt w hb lb es its d wr) (sk sv : SlR) (key value : List UInt8) (hK : BS wr sk key) (hV : BS wr sv value) (hko : keyOk key = true) (hvo : value.length ≤ 12) (hM : ∀ k, blkOf sk k ∨ blkOf sv k → ¬ d.M k ∧ k ≠ lb) :
  Calls Try.prog 11 #[.pointer (some ⟨hb, 0, none⟩), .slice sk.a sk.n sk.cap, .slice sv.a sv.n sv.cap] wr fun e w' => e = .returned (.bool true) ∧ ∃ d', GSt w hb lb es (putL its key value) d' w' ∧ Frame d.M wr w' := by
 have hp := hou_put h.hou sk sv key value hK hV hko hvo (fun k hk => (hM k hk).1)
 rw [h.hb, h.its] at hp
 refine hp.mono ?_
 rintro e w' ⟨rfl, d', h1, h2, h3, h4, _, h6, h7⟩
 exact ⟨rfl, d', h.turn h1 (h2.trans h.hb.symm) h3 h4 h6 h7 (fun e => (hM _ e).2 rfl), h6⟩
theorem GSt.take {w wr : World} {hb lb : Nat} {es : List (SlR × SlR)} {its : List ItR} {d : HouD} (h : GSt w hb lb es its d wr) (sk : SlR) (key : List UInt8) (hK : BS wr sk key) (hko : keyOk key = true) :
  Calls Try.prog 13 #[.pointer (some ⟨hb, 0, none⟩), .slice sk.a sk.n sk.cap] wr fun e w' => e = .returned (.bool true) ∧ ∃ d', GSt w hb lb es (delL its key) d' w' ∧ Frame d.M wr w' := by
 have hp := hou_take h.hou sk key hK hko
 rw [h.hb, h.its] at hp
 refine hp.mono ?_
 rintro e w' ⟨rfl, d', h1, h2, h3, h4, _, h6, h7⟩
 exact ⟨rfl, d', h.turn h1 (h2.trans h.hb.symm) h3 h4 h6 h7 id, h6⟩
theorem GSt.move {w wr : World} {hb lb : Nat} {es : List (SlR × SlR)} {its : List ItR} {d : HouD} (h : GSt w hb lb es its d wr) (k j : Nat) (hk : k < es.length) (hj : j < es.length) : GSt w hb lb (es.set k es[j]) its d ((wr.setCell ⟨lb, k * 2, none⟩ es[j].1.val).setCell ⟨lb, k * 2 + 1, none⟩ es[j].2.val) := by
 have hf : Frame (fun q => q = lb) wr ((wr.setCell ⟨lb, k * 2, none⟩ es[j].1.val).setCell ⟨lb, k * 2 + 1, none⟩ es[j].2.val) := Frame.setCell (S := fun q => q = lb) (Frame.setCell (S := fun q => q = lb) (Frame.refl _ _) (p := ⟨lb, k * 2, none⟩) rfl _) (p := ⟨lb, k * 2 + 1, none⟩) rfl _
 have hHA : HouAt ((wr.setCell ⟨lb, k * 2, none⟩ es[j].1.val).setCell ⟨lb, k * 2 + 1, none⟩ es[j].2.val) d := h.hou.at_.frame hf (fun q hq e => h.not (e ▸ hq))
 refine ⟨⟨hHA, h.hou.ge, h.hou.bel.trans (hf.below h.hou.bel.size (fun q hq => by rw [hq]; exact h.ge)), h.hou.rts, h.hou.keys⟩, h.hb, h.its, h.tds, ?_, h.ge, h.not⟩
 have hr := (h.row.set (k * 2) es[j].1.val).set (k * 2 + 1) es[j].2.val
 rw [entsC_set es k es[j] hk] at hr
 exact hr
theorem hou_new (w : World) : Hou w (newH (w.heap.size + 1) w.heap.size) ((w.alloc (.cells #[.slice none 0 0, .map none, .slice none 0 0] 89)).alloc (.cells #[.pointer (some ⟨w.heap.size, 0, none⟩), .slice none 0 0, .slice none 0 0, .slice none 0 0] 32)) := by
 have hB2 : Below w.heap.size w ((w.alloc (.cells #[.slice none 0 0, .map none, .slice none 0 0] 89)).alloc (.cells #[.pointer (some ⟨w.heap.size, 0, none⟩), .slice none 0 0, .slice none 0 0, .slice none 0 0] 32)) := ((Below.refl _ _).alloc (Nat.le_refl _) _).alloc (by simp) _
 have hH2 : HouAt ((w.alloc (.cells #[.slice none 0 0, .map none, .slice none 0 0] 89)).alloc (.cells #[.pointer (some ⟨w.heap.size, 0, none⟩), .slice none 0 0, .slice none 0 0, .slice none 0 0] 32)) (newH (w.heap.size + 1) w.heap.size) := house_new (by
   have h := RowV.new (w.alloc (.cells #[.slice none 0 0, .map none, .slice none 0 0] 89)) 32 [.pointer (some ⟨w.heap.size, 0, none⟩), .slice none 0 0, .slice none 0 0, .slice none 0 0]
   simpa using h) (RowV.alloc (RowV.new w 89 [.slice none 0 0, .map none, .slice none 0 0]) _) (by omega)
 refine ⟨hH2, fun k hk => ?_, hB2, rfl, fun p hp x hx => ?_⟩
 ·rcases hk with rfl | (rfl | hk | ⟨e, he, _⟩) | hk | hk
  ·show w.heap.size ≤ w.heap.size + 1; omega
  ·exact Nat.le_refl _
  ·cases hk
  ·cases he
  ·cases hk
  ·cases hk
 ·have : p = [] := by simpa [newH] using hp
  rw [this] at hx; cases hx
theorem Try.infoEnt2 : (Try.prog.info? 37).map (fun i => (i.zero, i.size, i.bytes)) = some (some (.agg #[.slice none 0 0, .slice none 0 0]), 2, 48) := by kernel_rfl
theorem Try.sizeEnt2 : (Try.prog.info? 37).map (·.size) = some 2 := by kernel_rfl
theorem left_make (n : Nat) (hn : n ≤ 60) : ∃ Z : Array Value, Z.size = n * 2 ∧ ∀ u : World, (Instr.makeSlice 27 (.int .i64 (n : Int)) (.int .i64 (n : Int))).run Try.prog u = .ok (.slice (some ⟨u.heap.size, 0, none⟩) n n) (u.alloc (.cells Z 37)) := by
 have hi := Try.infoEnt2
 cases hq : Try.prog.info? 37 with
 | none => rw [hq] at hi; cases hi
 | some i =>
  rw [hq] at hi
  simp only [Option.map_some, Option.some.injEq, Prod.mk.injEq] at hi
  obtain ⟨h1, h2, h3⟩ := hi
  refine ⟨madeCells (Value.agg #[.slice none 0 0, .slice none 0 0]).cells (n * 2), by rw [size_madeCells], fun u => ?_⟩
  ·have h := run_make (P := Try.prog) u 27 37 i _ Try.underlying27 hq h1 .i64 .i64 (n : Int) (n : Int) (by omega) (Int.le_refl _) (by rw [h3]; omega) (by omega)
   rw [h2, Int.toNat_natCast] at h
   exact h
theorem left_copy (w : World) (la : Option Addr) (lc : Nat) (es : List (SlR × SlR)) (Z : Array Value) (hZ : Z.size = es.length * 2) (h : SlV w la (entsC es)) :
  (Builtin.copy_ #[27, 27] 3 #[.slice (some ⟨w.heap.size, 0, none⟩) es.length es.length, .slice la es.length lc]).run Try.prog (w.alloc (.cells Z 37)) = .ok (goInt es.length) (w.alloc (.cells (entsC es).toArray 37)) := by
 have hl := entsC_length es
 cases la with
 | none =>
  have he : es = [] := by
   cases es with
   | nil => rfl
   | cons e r => obtain ⟨b, o, e', _⟩ := h 0 (by rw [hl]; simp); cases e'
  subst he
  have hz : Z = #[] := Array.eq_empty_of_size_eq_zero (by simpa using hZ)
  subst hz
  have hs := Try.sizeEnt2
  cases hq : Try.prog.info? 37 with
  | none => simp [hq] at hs
  | some i => simp [Builtin.copy_, run_underlying Try.underlying27, Builtin.lenOf, Builtin.firstCells, sizeOf, typeInfo, hq, storeCells, entsC]
 | some ad =>
  have hmin : Nat.min es.length es.length = es.length := Nat.min_self _
  have hg : (w.alloc (.cells Z 37)).heap[w.heap.size]? = some (.cells Z 37 (0, 0)) := by
   show (w.heap.push _)[w.heap.size]? = _
   simp
  have hr := run_copy_rows (P := Try.prog) 2 (w.alloc (.cells Z 37)) 27 27 3 37 w.heap.size 0 es.length es.length ad es.length lc Z 37 (entsC es) Try.underlying27 Try.sizeEnt2 hg (by rw [hmin]; exact hl) (fun j v hv => by
   obtain ⟨hj, hv⟩ := List.getElem?_eq_some_iff.1 hv
   obtain ⟨b', o', ha, hb', hc⟩ := h j hj
   cases ha
   rw [addr_add, World.cell?_alloc_lt _ _ _ (by exact hb'), hc, hv]) (by omega) (entsC_one es)
  rw [hmin, World.setRow_alloc_new] at hr
  rw [List.take_zero, List.nil_append, Nat.zero_add, List.drop_of_length_le (by rw [hl, Array.length_toList, hZ]; omega), List.append_nil] at hr
  exact hr
end Go.Proofs.Ytekegfbjbainhaa


namespace Go.Proofs.Ytekegfbjbainhaa
open Go.RowKit
attribute [local go_sem ↓] Go.wp_at_zero Go.wp_at_succ
theorem hou_cells {w wr : World} {d : HouD} (h : Hou w d wr) {e : Nat} (he : e < d.pp.length) : ∃ (g g' : Nat) (x0 x1 x2 x3 x4 x5 x6 x7 : UInt8), wr.cell? ⟨d.hb, 0, none⟩ = some (.pointer (some ⟨d.sb, 0, none⟩)) ∧ wr.cell? ⟨d.hb, 2, none⟩ = some (.slice (some ⟨g', 0, none⟩) d.pp.length d.pa.cap) ∧ wr.cell? ⟨d.hb, 3, none⟩ = some (.slice (some ⟨g, 0, none⟩) d.pp.length d.dn.cap) ∧
  wr.cell? ⟨g', e, none⟩ = some (d.pd[e]'(by have := h.at_.pl; omega)).1.val ∧ rootB d.pp[e] = [x0, x1, x2, x3, x4, x5, x6, x7] ∧ g < wr.heap.size ∧ g' < wr.heap.size ∧ wr.cell? ⟨g, e * 18 + 1, none⟩ = some (.int .u8 (x0.toNat : Int)) ∧ wr.cell? ⟨g, e * 18 + 1 + 1, none⟩ = some (.int .u8 (x1.toNat : Int)) ∧ wr.cell? ⟨g, e * 18 + 1 + 2, none⟩ = some (.int .u8 (x2.toNat : Int)) ∧ wr.cell? ⟨g, e * 18 + 1 + 3, none⟩ = some (.int .u8 (x3.toNat : Int)) ∧ wr.cell? ⟨g, e * 18 + 1 + 4, none⟩ = some (.int .u8 (x4.toNat : Int)) ∧ wr.cell? ⟨g, e * 18 + 1 + 5, none⟩ = some (.int .u8 (x5.toNat : Int)) ∧ wr.cell? ⟨g, e * 18 + 1 + 6, none⟩ = some (.int .u8 (x6.toNat : Int)) ∧ wr.cell? ⟨g, e * 18 + 1 + 7, none⟩ = some (.int .u8 (x7.toNat : Int)) := by
 obtain ⟨l1, l2⟩ := h.lens
 have hpl := h.at_.pl
 have hdn : d.dn.n = d.tds.length := (SlV.ofOwn (s := d.dn) h.at_.don).2
 have hpn : d.pa.n = d.pd.length := (SlV.ofOwn (s := d.pa) h.at_.pst).2
 have hd := (SlV.ofOwn (s := d.dn) h.at_.don).1
 have hp := (SlV.ofOwn (s := d.pa) h.at_.pst).1
 have hr : ∀ r ∈ d.tds.map rootOf, r.length = 8 := fun r hr => by
  obtain ⟨nd, _, rfl⟩ := List.mem_map.1 hr
  exact rootOf_length nd
 have hkr : e < (d.tds.map rootOf).length := by simpa using (by omega : e < d.tds.length)
 obtain ⟨x0, x1, x2, x3, x4, x5, x6, x7, hx⟩ := list8 (rootB d.pp[e]) (rootB_length _)
 obtain ⟨g, hga, hg⟩ : ∃ g, d.dn.a = some ⟨g, 0, none⟩ ∧ g < wr.heap.size := by
  rcases (owns_cap (a := d.dn.a) (n' := d.dn.n) (cap := d.dn.cap) h.at_.don).2.2.2 with ⟨_, hz, _⟩ | ⟨g, hg, _, hlt⟩
  ·omega
  ·exact ⟨g, hg, hlt⟩
 obtain ⟨g', hga', hg'⟩ : ∃ g, d.pa.a = some ⟨g, 0, none⟩ ∧ g < wr.heap.size := by
  rcases (owns_cap (a := d.pa.a) (n' := d.pa.n) (cap := d.pa.cap) h.at_.pst).2.2.2 with ⟨_, hz, _⟩ | ⟨g, hg, _, hlt⟩
  ·omega
  ·exact ⟨g, hg, hlt⟩
 have hcell : ∀ j, j < 8 → wr.cell? ⟨g, e * 18 + 1 + j, none⟩ = ([x0, x1, x2, x3, x4, x5, x6, x7].map u8c)[j]? := fun j hj => by
  have hv := coms_root (d.tds.map rootOf) hr e j hkr hj
  rw [h.root he hkr, hx] at hv
  have hlt : e * 18 + 1 + j < (comsC (d.tds.map rootOf)).length := by
   unfold comsC
   rw [comsF_length _ _ (Nat.le_refl _) hr]
   simp at hkr ⊢
   omega
  obtain ⟨b, o, e', _, hcl⟩ := hd (e * 18 + 1 + j) hlt
  rw [hga] at e'
  cases e'
  rw [← hv, List.getElem?_eq_getElem hlt, ← hcl]
  congr 2
  omega
 refine ⟨g, g', x0, x1, x2, x3, x4, x5, x6, x7, RowV.cell? h.at_.row 0, ?_, ?_, ?_, hx, hg, hg', hcell 0 (by omega), hcell 1 (by omega), hcell 2 (by omega), hcell 3 (by omega), hcell 4 (by omega), hcell 5 (by omega), hcell 6 (by omega), hcell 7 (by omega)⟩
 ·have : wr.cell? ⟨d.hb, 2, none⟩ = some d.pa.val := RowV.cell? h.at_.row 2
  rw [this]; unfold SlR.val; rw [hga', hpn, hpl]
 ·have : wr.cell? ⟨d.hb, 3, none⟩ = some d.dn.val := RowV.cell? h.at_.row 3
  rw [this]; unfold SlR.val; rw [hga, hdn, l1]
 ·obtain ⟨b, o, e', _, hcl⟩ := hp e (by simp; omega)
  rw [hga'] at e'
  cases e'
  simpa using hcl
end Go.Proofs.Ytekegfbjbainhaa
