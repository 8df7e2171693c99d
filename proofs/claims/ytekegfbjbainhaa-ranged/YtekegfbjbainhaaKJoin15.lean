import Derived.Test.YtekegfbjbainhaaKJoin13
import Derived.Deep.RegionHeld3
import Derived.Deep.DrawnRows
import Derived.Test.YtekegfbjbainhaaKJoin14
set_option linter.unusedVariables false
set_option linter.unusedSimpArgs false

namespace Go.Proofs.Ytekegfbjbainhaa
open Go.RowKit
attribute [local go_sem ↓] Go.wp_at_zero Go.wp_at_succ
end Go.Proofs.Ytekegfbjbainhaa


namespace Go.Proofs.Ytekegfbjbainhaa
open Go.RowKit
end Go.Proofs.Ytekegfbjbainhaa


namespace Go.Proofs.Ytekegfbjbainhaa
open Go.RowKit
def prfB (p : List ItR) (fr tu : List UInt8) : List UInt8 := rangeF (grownN p) fr tu (rootLevel p) (rootPage p)
def epochBad (n : Nat) (e : Int) : Bool := decide (e < 0) || decide ((n : Int) ≤ e)
def prvE (n : Nat) (e : Int) (key : List UInt8) : Nat := if epochBad n e = true then 4 else if keyOk key = false then 1 else 0
def rngOk (fr tu : List UInt8) : Bool := keyOk fr && keyOk tu && Op.bytesLess fr tu
def rngE (n : Nat) (e : Int) (fr tu : List UInt8) : Nat := if epochBad n e = true then 4 else if rngOk fr tu = false then 1 else 0
def pastAt (pp : List (List ItR)) (e : Int) : List ItR := pp.getD e.toNat []
def prvB (pp : List (List ItR)) (e : Int) (key : List UInt8) : List UInt8 := if prvE pp.length e key = 0 then prfB (pastAt pp e) key key else []
def rngB (pp : List (List ItR)) (e : Int) (fr tu : List UInt8) : List UInt8 := if rngE pp.length e fr tu = 0 then prfB (pastAt pp e) fr tu else []
def PastR (p : List ItR) : Prop := RiseK p ∧ (∀ x ∈ p, ItOk x) ∧ p.length ≤ 60
theorem epoch_in {n : Nat} {e : Int} (h : epochBad n e = false) : ∃ k : Nat, e = k ∧ k < n := by
 unfold epochBad at h
 simp at h
 exact ⟨e.toNat, by omega, by omega⟩
end Go.Proofs.Ytekegfbjbainhaa


namespace Go.Proofs.Ytekegfbjbainhaa
open Go.RowKit
theorem appendPages_any (lvls : List (List (List ItR))) (L : List (List Nd)) (hT : TreeRep lvls L) (hL : LvlsOk lvls) (sf st : SlR) (fr tu : List UInt8) : ∀ (n j : Nat) (nds : List Nd) (x : Nd) (v : SlR) (l : List UInt8) (base : Nat) (w : World), L[n]? = some nds → nds[j]? = some x → TrAt w base L → BLow w base sf fr → BLow w base st tu → base ≤ w.heap.size → OwnB w base v.val l → l.length + (rangeF lvls fr tu n (pageAt lvls n j)).length ≤ 140737488355328 →
  Calls Try.prog 60 #[v.val, .pointer (some ⟨x.b, 0, none⟩), sf.val, st.val] w fun e w' => ∃ v' : SlR, e = .returned v'.val ∧ OwnB w' base v'.val (l ++ rangeF lvls fr tu n (pageAt lvls n j)) ∧ Frame (fun k => v.val.ownBlock = some k) w w' ∧ (∀ k, v'.val.ownBlock = some k → k < w.heap.size → v.val.ownBlock = some k)
 | 0, j, nds, x, v, l, base, w, h1, h2, hA, hF, hS, hb, ho, hlen => by
  obtain ⟨e1, e2, _⟩ := hT.node h1 h2
  obtain ⟨h60, hok, _⟩ := pageAt_ok hL 0 j
  have hbl := hT.low' h1 h2
  have h6 : (codeB 0 (pageAt lvls 0 j)).length ≤ 6000 := by
   have := frameB_length 0 _ hok h60
   simp only [frameB, List.length_cons] at this
   omega
  have hfl : (rangeF lvls fr tu 0 (pageAt lvls 0 j)).length = 2 + (codeB 0 (pageAt lvls 0 j)).length := by
   simp only [rangeF, frameB, List.length_cons]; omega
  have h := pages_step L sf st fr tu x v l (codeB 0 (pageAt lvls 0 j)) [] [] base w hA ⟨nds, List.mem_of_getElem? h1, List.mem_of_getElem? h2⟩ hF hS hb ho (by rw [e1, e2, code_norm]) h6 (by rw [hbl]; rfl) (by simp) (fun W _ i _ h => absurd h (Nat.not_lt_zero _)) rfl (by simp; omega) (fun t _ ht => absurd ht (Nat.not_lt_zero _))
  rw [List.flatten_nil, List.append_nil] at h
  exact h
 | n + 1, j, nds, x, v, l, base, w, h1, h2, hA, hF, hS, hb, ho, hlen => by
  obtain ⟨e1, e2, _⟩ := hT.node h1 h2
  obtain ⟨h60, hok, _⟩ := pageAt_ok hL (n + 1) j
  obtain ⟨hbl, hdn⟩ := hT.down hL h1 h2
  have h6 : (codeB (n + 1) (pageAt lvls (n + 1) j)).length ≤ 6000 := by
   have := frameB_length (n + 1) _ hok h60
   simp only [frameB, List.length_cons] at this
   omega
  have hbeh : behindF lvls fr tu n (pageAt lvls (n + 1) j) (pageAt lvls (n + 1) j).length = ((selI (pageAt lvls (n + 1) j) fr tu (pageAt lvls (n + 1) j).length).map (fun i => rangeF lvls fr tu n (pageAt lvls n (belowAt (pageAt lvls (n + 1) j) i)))).flatten := by
   rw [behind_places]; rfl
  have hfl : (rangeF lvls fr tu (n + 1) (pageAt lvls (n + 1) j)).length = 2 + (codeB (n + 1) (pageAt lvls (n + 1) j)).length + (behindF lvls fr tu n (pageAt lvls (n + 1) j) (pageAt lvls (n + 1) j).length).length := by
   rw [rangeF_succ]
   simp only [frameB, List.length_append, List.length_cons]; omega
  have h := pages_step L sf st fr tu x v l (codeB (n + 1) (pageAt lvls (n + 1) j)) (pageAt lvls (n + 1) j) ((selI (pageAt lvls (n + 1) j) fr tu (pageAt lvls (n + 1) j).length).map (fun i => rangeF lvls fr tu n (pageAt lvls n (belowAt (pageAt lvls (n + 1) j) i)))) base w hA ⟨nds, List.mem_of_getElem? h1, List.mem_of_getElem? h2⟩ hF hS hb ho (by rw [e1, e2, code_norm]) h6 hbl.symm (by omega)
   (fun W hW i hi1 hi2 => by
    obtain ⟨nds', y, g1, g2, g3, g4⟩ := hdn i hi2
    have hy := hW.ok nds' (List.mem_of_getElem? g1) y (List.mem_of_getElem? g2)
    rw [List.getElem?_eq_getElem hi1] at g3
    have g3' := Option.some.inj g3
    rw [g3']
    refine ⟨y.la, hy.row.cellP 0 _ (by simp [ndC]), hy.row.lt, ?_⟩
    have := hy.la
    rw [g4] at this
    exact this)
   (by rw [sel_places]; simp) (by rw [← hbeh]; omega)
   (fun t ht ht2 v2 l2 W hA2 hF2 hS2 hb2 ho2 hl2 => by
    have hti : t < (selI (pageAt lvls (n + 1) j) fr tu (pageAt lvls (n + 1) j).length).length := by simpa using ht2
    have hit := selI_lt (List.getElem_mem hti)
    obtain ⟨nds', y, g1, g2, g3, g4⟩ := hdn _ hit
    have es : (selF (pageAt lvls (n + 1) j) fr tu x.bl (pageAt lvls (n + 1) j).length)[t] = y.b := by
     have e : (selF (pageAt lvls (n + 1) j) fr tu x.bl (pageAt lvls (n + 1) j).length)[t]? = some y.b := by
      rw [sel_places, List.getElem?_map, List.getElem?_eq_getElem hti]
      simp only [Option.map_some, List.getD_eq_getElem?_getD]
      rw [g3]; rfl
     exact (List.getElem?_eq_some_iff.1 e).2
    rw [es]
    simp only [List.getElem_map] at hl2 ⊢
    exact appendPages_any lvls L hT hL sf st fr tu n _ nds' y v2 l2 base W g1 g2 hA2 hF2 hS2 hb2 ho2 hl2)
  rw [← hbeh] at h
  rw [rangeF_succ, ← List.append_assoc]
  exact h
theorem TreeRep.root {p : List ItR} {L : List (List Nd)} (h : TreeRep (grownN p) L) {ℓ : Nat} (hl : L.length = ℓ + 1) (fr tu : List UInt8) : prfB p fr tu = rangeF (grownN p) fr tu ℓ (pageAt (grownN p) ℓ 0) := by
 have e : (grownN p).length = ℓ + 1 := by
  have := congrArg List.length h.its
  simp only [List.length_map] at this
  omega
 have e2 : rootPage p = pageAt (grownN p) ℓ 0 := by
  unfold rootPage pageAt
  rw [e, show ℓ + 1 - 1 = ℓ by omega]
  cases ((grownN p)[ℓ]?.getD []) <;> rfl
 unfold prfB
 rw [e2, show rootLevel p = ℓ by unfold rootLevel; omega]
set_option maxRecDepth 100000 in
set_option maxHeartbeats 400000 in
theorem ofRange_any (p : List ItR) (hP : PastR p) (L : List (List Nd)) (hT : TreeRep (grownN p) L) (ℓ : Nat) (nd : Nd) (hl : L.length = ℓ + 1) (hr : L[ℓ]? = some [nd]) (sf st : SlR) (fr tu : List UInt8) (w : World) (hA : ∀ nds ∈ L, ∀ x ∈ nds, NdOk w x) (hF : BS w sf fr) (hS : BS w st tu) :
  Calls Try.prog 42 #[.pointer (some ⟨nd.b, 0, none⟩), sf.val, st.val] w fun e w' => ∃ v' : SlR, e = .returned v'.val ∧ OwnB w' w.heap.size v'.val (prfB p fr tu) ∧ Below w.heap.size w w' := by
 have hL := grown_lv p hP.1 hP.2.1 hP.2.2
 have hℓ : ℓ ≤ 6 := by
  have := congrArg List.length hT.its
  simp only [List.length_map] at this
  have := hL.len
  omega
 have HC : Hid (Calls _ _ _ _ _) := appendPages_any (grownN p) L hT hL sf st fr tu ℓ 0 [nd] nd ⟨none, 0, 0⟩ [] w.heap.size w hr rfl ⟨hA, fun nds hn x hx => (hA nds hn x hx).lt⟩ ⟨hF, hF.lt⟩ ⟨hS, hS.lt⟩ (Nat.le_refl _) (World.ownsRow_nil _ _ _ _) (by
  have := range_small hL fr tu ℓ hℓ _ (pageAt_ok hL ℓ 0).1 (pageAt_ok hL ℓ 0).2.1
  simp; omega)
 rw [List.nil_append, ← hT.root hl] at HC
 unfold SlR.val at HC ⊢
 clear hA hF hS hL
 go_enter Try.func42, Try.ntmps42
 go_wp2_with (go_at_call 60; refine HC.out.mono ?_; rintro e w1 ⟨v1, rfl, ho1, hf1, hv1⟩)
 go_ret
 exact ⟨v1, rfl, ho1, hf1.below (Nat.le_refl _) (fun k hk => by cases hk)⟩
set_option maxRecDepth 100000 in
set_option maxHeartbeats 400000 in
theorem ofKey_any (p : List ItR) (hP : PastR p) (L : List (List Nd)) (hT : TreeRep (grownN p) L) (ℓ : Nat) (nd : Nd) (hl : L.length = ℓ + 1) (hr : L[ℓ]? = some [nd]) (sk : SlR) (key : List UInt8) (w : World) (hA : ∀ nds ∈ L, ∀ x ∈ nds, NdOk w x) (hK : BS w sk key) :
  Calls Try.prog 37 #[.pointer (some ⟨nd.b, 0, none⟩), sk.val] w fun e w' => ∃ v' : SlR, e = .returned v'.val ∧ OwnB w' w.heap.size v'.val (prfB p key key) ∧ Below w.heap.size w w' := by
 have HC : Hid (Calls _ _ _ _ _) := ofRange_any p hP L hT ℓ nd hl hr sk sk key key w hA hK hK
 unfold SlR.val at HC ⊢
 clear hA hK
 go_enter Try.func37, Try.ntmps37
 go_wp2_with (go_at_call 42; refine HC.out.mono ?_; rintro e w1 ⟨v1, rfl, ho1, hb1⟩)
 go_ret
 exact ⟨v1, rfl, ho1, hb1⟩
end Go.Proofs.Ytekegfbjbainhaa


namespace Go.Proofs.Ytekegfbjbainhaa
open Go.RowKit
def it0 : ItR := ⟨[], [], 0⟩
def selE (p : List ItR) (fr tu : List UInt8) (k : Nat) : List ItR := (List.range k).flatMap (fun i => if withB p i fr tu = true then [p.getD i it0] else [])
theorem selE_yes (p : List ItR) (fr tu : List UInt8) (k : Nat) (h : withB p k fr tu = true) : selE p fr tu (k + 1) = selE p fr tu k ++ [p.getD k it0] := by
 unfold selE
 rw [List.range_succ, List.flatMap_append]
 simp [h]
theorem selE_no (p : List ItR) (fr tu : List UInt8) (k : Nat) (h : withB p k fr tu = false) : selE p fr tu (k + 1) = selE p fr tu k := by
 unfold selE
 rw [List.range_succ, List.flatMap_append]
 simp [h]
def stepU (rec : List ItR → List UInt8 → Option (List ItR × List UInt8)) (lv : Nat) (s : List ItR × List UInt8) (x : ItR) : Option (List ItR × List UInt8) :=
 match pgO (some s.2) x.more with
 | none => none
 | some ((l, its), r) => if l = lv then (rec its r).map (fun e => (s.1 ++ e.1, e.2)) else none
def readU (fr tu : List UInt8) : Nat → List ItR → List UInt8 → Option (List ItR × List UInt8)
 | 0, its, r => some (its, r)
 | lv + 1, its, r => (selE its fr tu its.length).foldlM (stepU (readU fr tu lv) lv) ([], r)
def inR (fr tu : List UInt8) (x : ItR) : Bool := !(Op.bytesLess x.key fr) && Op.bytesLess x.key tu
def rangeC (root fr tu proof : List UInt8) : Option (List ItR) :=
 match pgO (some proof) root with
 | none => none
 | some ((lv, its), r) => match readU fr tu lv its r with
  | none => none
  | some (es, r') => if r' = [] then some (es.filter (inR fr tu)) else none
structure PageOk (lv : Nat) (its : List ItR) : Prop where
 le6 : lv ≤ 6
 len : its.length ≤ 60
 rise : RiseK its
 key : ∀ x ∈ its, 1 ≤ x.key.length ∧ x.key.length ≤ 12
 low : lv = 0 → ∀ x ∈ its, x.more.length ≤ 12
 high : lv ≠ 0 → ∀ x ∈ its, x.more.length = 8
theorem takeB_some {n : Nat} {o : Option (List UInt8)} {r : List UInt8} (h : takeR n o = some r) : (takeB n o).length = n := by
 cases o with
 | none => cases h
 | some l =>
  have h' : (if n ≤ l.length then some (l.drop n) else none) = some r := h
  show (if n ≤ l.length then l.take n else []).length = n
  split at h'
  ·rename_i hn; rw [if_pos hn, List.length_take]; omega
  ·cases h'
theorem rise_push {its : List ItR} {x : ItR} (h : RiseK its) (hb : behindK its x.key = true) : RiseK (its ++ [x]) := by
 unfold RiseK at *
 rw [List.pairwise_append]
 refine ⟨h, List.pairwise_singleton _ _, fun a ha b hb' => ?_⟩
 simp only [List.mem_singleton] at hb'
 subst hb'
 obtain ⟨l, y, rfl⟩ : ∃ l y, its = l ++ [y] := by
  rcases List.eq_nil_or_concat its with rfl | ⟨l, y, rfl⟩
  ·cases ha
  ·exact ⟨l, y, by simp⟩
 have hy : Op.bytesLess y.key b.key = true := by simpa [behindK] using hb
 rcases List.mem_append.1 ha with hl | hl
 ·have := (List.pairwise_append.1 h).2.2 a hl y (by simp)
  exact less_trans this hy
 ·simp only [List.mem_singleton] at hl; subst hl; exact hy
theorem itemsO_ok (lv : Nat) : ∀ (n : Nat) (its : List ItR) (o : Option (List UInt8)) (res : List ItR), itemsO lv n its o = some res → RiseK its → (∀ x ∈ its, (1 ≤ x.key.length ∧ x.key.length ≤ 12) ∧ (lv = 0 → x.more.length ≤ 12) ∧ (lv ≠ 0 → x.more.length = 8)) →
  RiseK res ∧ res.length = its.length + n ∧ ∀ x ∈ res, (1 ≤ x.key.length ∧ x.key.length ≤ 12) ∧ (lv = 0 → x.more.length ≤ 12) ∧ (lv ≠ 0 → x.more.length = 8)
 | 0, its, o, res, h, h1, h2 => by
  unfold itemsO at h
  split at h
  ·cases h; exact ⟨h1, by simp, h2⟩
  ·cases h
 | n + 1, its, none, res, h, h1, h2 => by rw [itemsO_none] at h; cases h
 | n + 1, its, some l, res, h, h1, h2 => by
  unfold itemsO at h
  split at h
  case isFalse => cases h
  case isTrue hf =>
   have hr : ∃ r, entR lv (some l) = some r := by
    cases e : entR lv (some l) with
    | none => rw [e, itemsO_none] at h; cases h
    | some r => exact ⟨r, rfl⟩
   obtain ⟨r, hr⟩ := hr
   have ho : ∃ r2, entO (some l) = some r2 := by
    cases e : entO (some l) with
    | none => unfold entR at hr; rw [e] at hr; split at hr <;> cases hr
    | some r => exact ⟨r, rfl⟩
   obtain ⟨r2, ho⟩ := ho
   have hk : (entK (some l)).length = oneV (some l) := by unfold entK; unfold entO at ho; exact takeB_some ho
   unfold entFine at hf
   simp only [Bool.and_eq_true, decide_eq_true_eq, Bool.not_eq_true', Bool.and_eq_false_iff] at hf
   obtain ⟨⟨⟨hf0, hf1⟩, hf2⟩, hf3⟩ := hf
   have := itemsO_ok lv n _ _ res h (rise_push h1 hf3) (fun x hx => by
    rcases List.mem_append.1 hx with hx | hx
    ·exact h2 x hx
    ·simp only [List.mem_singleton] at hx; subst hx
     refine ⟨by show 1 ≤ (entK (some l)).length ∧ (entK (some l)).length ≤ 12; omega, fun e => ?_, fun e => ?_⟩
     ·subst e
      show (entM 0 (some l)).length ≤ 12
      have e1 : entM 0 (some l) = takeB (oneV (entO (some l))) (takeR 1 (entO (some l))) := by unfold entM; rw [if_pos rfl]
      rw [e1]
      have := takeB_length (oneV (entO (some l))) (takeR 1 (entO (some l)))
      rcases hf0 with hf0 | hf0
      ·simp at hf0
      ·have : ¬ 12 < oneV (entO (some l)) := by simpa using hf0
       omega
     ·show (entM lv (some l)).length = 8
      have e1 : entM lv (some l) = takeB 8 (entO (some l)) := by unfold entM; rw [if_neg e]
      rw [e1]
      unfold entR at hr; rw [if_neg e] at hr
      exact takeB_some hr)
   refine ⟨this.1, by rw [this.2.1]; simp; omega, this.2.2⟩
theorem pageF_ok {b : List UInt8} {lv : Nat} {its : List ItR} (h : pageF b = some (lv, its)) : PageOk lv its := by
 unfold pageF at h
 split at h
 case isFalse => cases h
 case isTrue hc =>
  cases e : itemsO (oneV (some b)) (oneV (takeR 1 (some b))) [] (takeR 1 (takeR 1 (some b))) with
  | none => rw [e] at h; cases h
  | some l =>
   rw [e] at h
   simp only [Option.map_some, Option.some.injEq, Prod.mk.injEq] at h
   obtain ⟨rfl, rfl⟩ := h
   obtain ⟨h1, h2, h3⟩ := itemsO_ok _ _ [] _ l e List.Pairwise.nil (fun x hx => by cases hx)
   exact ⟨hc.1, by rw [h2]; simp; omega, h1, fun x hx => (h3 x hx).1, fun e x hx => (h3 x hx).2.1 e, fun e x hx => (h3 x hx).2.2 e⟩
theorem pgO_ok {o : Option (List UInt8)} {d : List UInt8} {lv : Nat} {its : List ItR} {r : List UInt8} (h : pgO o d = some ((lv, its), r)) : PageOk lv its := by
 unfold pgO at h
 split at h
 ·cases h
 ·split at h
  ·cases h
  ·rename_i p hp
   split at h
   ·simp only [Option.some.injEq, Prod.mk.injEq] at h
    rw [h.1] at hp
    exact pageF_ok hp
   ·cases h
end Go.Proofs.Ytekegfbjbainhaa


namespace Go.Proofs.Ytekegfbjbainhaa
open Go.RowKit
def bare (p : List ItR) : List ItR := p.map (fun x => ⟨x.key, x.more, 0⟩)
theorem bare_append (p q : List ItR) : bare (p ++ q) = bare p ++ bare q := by simp [bare]
theorem bare_length (p : List ItR) : (bare p).length = p.length := by simp [bare]
structure PgW (lv : Nat) (p : List ItR) : Prop where
 le6 : lv ≤ 6
 len : p.length ≤ 60
 ne : lv = 0 ∨ p ≠ []
 rise : RiseK p
 key : ∀ x ∈ p, 1 ≤ x.key.length ∧ x.key.length ≤ 12
 low : lv = 0 → ∀ x ∈ p, x.more.length ≤ 12
 high : lv ≠ 0 → ∀ x ∈ p, x.more.length = 8
theorem bt_toNat {n : Nat} (h : n < 256) : (bt n).toNat = n := by
 unfold bt
 rw [UInt8.toNat_ofNat']
 omega
theorem oneV_cons (x : UInt8) (l : List UInt8) : oneV (some (x :: l)) = x.toNat := rfl
theorem takeR_one (x : UInt8) (l : List UInt8) : takeR 1 (some (x :: l)) = some l := by simp [takeR]
theorem takeR_app (a l : List UInt8) {n : Nat} (h : n = a.length) : takeR n (some (a ++ l)) = some l := by subst h; simp [takeR]
theorem takeB_app (a l : List UInt8) {n : Nat} (h : n = a.length) : takeB n (some (a ++ l)) = a := by subst h; simp [takeB]
theorem ent_read (lv : Nat) (x : ItR) (l : List UInt8) (hk : x.key.length ≤ 12) (h0 : lv = 0 → x.more.length ≤ 12) (h8 : lv ≠ 0 → x.more.length = 8) :
  oneV (some (itB lv x ++ l)) = x.key.length ∧ entK (some (itB lv x ++ l)) = x.key ∧ entM lv (some (itB lv x ++ l)) = x.more ∧ entR lv (some (itB lv x ++ l)) = some l ∧ (lv = 0 → oneV (entO (some (itB lv x ++ l))) = x.more.length) := by
 have e : itB lv x ++ l = bt x.key.length :: (x.key ++ (((if lv = 0 then [bt x.more.length] else []) ++ x.more) ++ l)) := by
  unfold itB; simp
 have h1 : oneV (some (itB lv x ++ l)) = x.key.length := by rw [e, oneV_cons, bt_toNat (by omega)]
 have h2 : takeR 1 (some (itB lv x ++ l)) = some (x.key ++ (((if lv = 0 then [bt x.more.length] else []) ++ x.more) ++ l)) := by rw [e, takeR_one]
 have h3 : entO (some (itB lv x ++ l)) = some (((if lv = 0 then [bt x.more.length] else []) ++ x.more) ++ l) := by
  unfold entO; rw [h1, h2, takeR_app _ _ rfl]
 refine ⟨h1, by unfold entK; rw [h1, h2, takeB_app _ _ rfl], ?_, ?_, ?_⟩
 ·unfold entM
  rw [h3]
  by_cases hz : lv = 0
  ·have := h0 hz
   simp only [hz, if_true, List.cons_append, List.nil_append]
   rw [oneV_cons, takeR_one, bt_toNat (by omega), takeB_app _ _ rfl]
  ·simp only [hz, if_false, List.nil_append]
   rw [takeB_app _ _ (h8 hz).symm]
 ·unfold entR
  rw [h3]
  by_cases hz : lv = 0
  ·have := h0 hz
   simp only [hz, if_true, List.cons_append, List.nil_append]
   rw [oneV_cons, takeR_one, bt_toNat (by omega), takeR_app _ _ rfl]
  ·simp only [hz, if_false, List.nil_append]
   rw [takeR_app _ _ (h8 hz).symm]
 ·intro hz
  have := h0 hz
  rw [h3]
  simp only [hz, if_true, List.cons_append, List.nil_append]
  rw [oneV_cons, bt_toNat (by omega)]
theorem behind_bare {acc q : List ItR} {x : ItR} (h : RiseK (acc ++ x :: q)) : behindK (bare acc) x.key = true := by
 unfold behindK
 cases hl : (bare acc).getLast? with
 | none => rfl
 | some y =>
  have hm := List.mem_of_getLast? hl
  obtain ⟨z, hz, rfl⟩ := List.mem_map.1 hm
  exact (List.pairwise_append.1 h).2.2 z hz x (by simp)
theorem items_read (lv : Nat) : ∀ (q acc : List ItR), RiseK (acc ++ q) → (∀ x ∈ q, 1 ≤ x.key.length ∧ x.key.length ≤ 12) → (lv = 0 → ∀ x ∈ q, x.more.length ≤ 12) → (lv ≠ 0 → ∀ x ∈ q, x.more.length = 8) →
  itemsO lv q.length (bare acc) (some (q.flatMap (itB lv))) = some (bare (acc ++ q))
 | [], acc, _, _, _, _ => by simp [itemsO]
 | x :: q, acc, hr, hk, h0, h8 => by
  obtain ⟨e1, e2, e3, e4, e5⟩ := ent_read lv x (q.flatMap (itB lv)) (hk x (by simp)).2 (fun e => h0 e x (by simp)) (fun e => h8 e x (by simp))
  rw [List.flatMap_cons, List.length_cons]
  unfold itemsO
  have hf : entFine lv (bare acc) (some (itB lv x ++ q.flatMap (itB lv))) = true := by
   unfold entFine
   rw [e1, e2, behind_bare hr]
   have h1 := hk x (by simp)
   by_cases hz : lv = 0
   ·have := h0 hz x (by simp)
    rw [e5 hz]
    simp [hz]; omega
   ·have : (lv == 0) = false := by simpa using hz
    simp [this]; omega
  rw [if_pos hf, e2, e3, e4]
  have := items_read lv q (acc ++ [x]) (by simpa using hr) (fun y hy => hk y (by simp [hy])) (fun e y hy => h0 e y (by simp [hy])) (fun e y hy => h8 e y (by simp [hy]))
  rw [bare_append] at this
  simpa [bare] using this
theorem page_read {lv : Nat} {p : List ItR} (h : PgW lv p) : pageF (codeB lv p) = some (lv, bare p) := by
 have h6 := h.le6
 have hl := h.len
 unfold pageF codeB
 have e1 : oneV (some (bt lv :: bt p.length :: p.flatMap (itB lv))) = lv := by rw [oneV_cons, bt_toNat (by omega)]
 have e2 : takeR 1 (some (bt lv :: bt p.length :: p.flatMap (itB lv))) = some (bt p.length :: p.flatMap (itB lv)) := takeR_one _ _
 have e3 : oneV (some (bt p.length :: p.flatMap (itB lv))) = p.length := by rw [oneV_cons, bt_toNat (by omega)]
 rw [e1, e2, e3, takeR_one, if_pos ⟨h6, hl, h.ne.imp id (fun e => by have := List.length_pos_iff.2 e; omega)⟩]
 have := items_read lv p [] (by simpa using h.rise) h.key h.low h.high
 rw [show (bare []) = [] from rfl] at this
 rw [this]
 rfl
theorem code_len {lv : Nat} {p : List ItR} (h : PgW lv p) : (codeB lv p).length ≤ 1602 := by
 unfold codeB
 have : ∀ q : List ItR, (∀ x ∈ q, x ∈ p) → (q.flatMap (itB lv)).length ≤ 26 * q.length := fun q hq => by
  induction q with
  | nil => simp
  | cons x q ih =>
   have h1 : ItOk x := by
    refine ⟨(h.key x (hq x (by simp))).2, ?_⟩
    by_cases hz : lv = 0
    ·exact h.low hz x (hq x (by simp))
    ·rw [h.high hz x (hq x (by simp))]; omega
   have h2 := itB_length lv x h1
   have h3 := ih (fun y hy => hq y (by simp [hy]))
   rw [List.flatMap_cons, List.length_append, List.length_cons]
   omega
 have h1 := this p (fun x hx => hx)
 have h2 := h.len
 simp; simp at h1; omega
theorem frame_read {lv : Nat} {p : List ItR} (h : PgW lv p) (r : List UInt8) : pgO (some (frameB lv p ++ r)) (digB (codeB lv p)) = some ((lv, bare p), r) := by
 have hl := code_len h
 have e : frameB lv p ++ r = bt ((codeB lv p).length / 256) :: bt ((codeB lv p).length % 256) :: (codeB lv p ++ r) := by unfold frameB; simp
 have en : pgN (some (frameB lv p ++ r)) = (codeB lv p).length := by
  unfold pgN
  rw [e, takeR_one, oneV_cons, oneV_cons, bt_toNat (by omega), bt_toNat (by omega)]
  omega
 have er : takeR 1 (takeR 1 (some (frameB lv p ++ r))) = some (codeB lv p ++ r) := by rw [e, takeR_one, takeR_one]
 have eb : pgB (some (frameB lv p ++ r)) = codeB lv p := by unfold pgB; rw [en, er, takeB_app _ _ rfl]
 unfold pgO
 rw [en, er, takeR_app _ _ rfl, eb, page_read h]
 simp
end Go.Proofs.Ytekegfbjbainhaa


namespace Go.Proofs.Ytekegfbjbainhaa
open Go.RowKit
def cov (G : List (List (List ItR))) : Nat → List ItR → List ItR
 | 0, p => p
 | n + 1, p => p.flatMap (fun x => cov G n (pageAt G n x.below))
theorem part_six (r : List ItR) : ∀ cur : List ItR, partF 6 r cur = [cur ++ r] := by
 induction r with
 | nil => intro cur; simp [partF]
 | cons x r ih =>
  intro cur
  unfold partF
  have : endB 6 x.key = false := by unfold endB; simp
  rw [this]
  simp [ih]
theorem nextF_below (level : Nat) : ∀ (ps : List (List ItR)) (i : Nat), (nextF level i ps).map (·.below) = List.range' i ps.length
 | [], _ => rfl
 | p :: r, i => by simp [nextF, nextF_below level r (i + 1), List.range'_succ]
theorem below_range : ∀ (f level : Nat) (l : List ItR) (n : Nat) (ps up : List (List ItR)), (grownF f level l)[n]? = some ps → (grownF f level l)[n + 1]? = some up → up.flatten.map (·.below) = List.range ps.length
 | 0, level, l, n, ps, up, h, _ => by simp [grownF] at h
 | f + 1, level, l, n, ps, up, h, h' => by
  unfold grownF at h h'
  by_cases h1 : (partedN level l).length = 1
  ·rw [if_pos h1] at h'
   simp at h'
  ·rw [if_neg h1] at h h'
   cases n with
   | zero =>
    simp only [List.getElem?_cons_zero, Option.some.injEq, List.getElem?_cons_succ] at h h'
    subst h
    cases f with
    | zero => simp [grownF] at h'
    | succ f =>
     have hup : up = partedN (level + 1) (nextF level 0 (partedN level l)) := by
      unfold grownF at h'
      split at h' <;> simpa using h'.symm
     rw [hup]
     unfold partedN
     rw [partF_flatten]
     simp only [List.nil_append]
     rw [nextF_below, List.range_eq_range']
   | succ n =>
    simp only [List.getElem?_cons_succ] at h h'
    exact below_range f (level + 1) _ n ps up h h'
theorem flat_range {α β : Type} (ps : List α) (g : α → List β) (d : α) : (List.range ps.length).flatMap (fun i => g (ps[i]?.getD d)) = ps.flatMap g := by
 have : (List.range ps.length).map (fun i => ps[i]?.getD d) = ps := by
  apply List.ext_getElem
  ·simp
  ·intro i h1 h2
   simp at h1
   simp [h1]
 have e := congrArg (List.flatMap g) this
 rw [List.flatMap_map] at e
 exact e
theorem flat_flat {α β : Type} (g : α → List β) (up : List (List α)) : up.flatMap (fun p => p.flatMap g) = up.flatten.flatMap g := by
 induction up with
 | nil => rfl
 | cons p r ih => rw [List.flatMap_cons, List.flatten_cons, List.flatMap_append, ih]
theorem cov_level (f level : Nat) (l : List ItR) : ∀ (n : Nat) (ps : List (List ItR)), (grownF f level l)[n]? = some ps → ps.flatMap (cov (grownF f level l) n) = l
 | 0, ps, h => by
  cases f with
  | zero => simp [grownF] at h
  | succ f =>
   have hps : ps = partedN level l := by
    unfold grownF at h
    split at h <;> simpa using h.symm
   show ps.flatMap (fun p => p) = l
   rw [hps]
   have : (partedN level l).flatten = l := by unfold partedN; rw [partF_flatten]; rfl
   simpa [List.flatMap_def] using this
 | n + 1, up, h => by
  obtain ⟨ps, hps⟩ : ∃ ps, (grownF f level l)[n]? = some ps := by
   have hl := (List.getElem?_eq_some_iff.1 h).1
   exact ⟨_, List.getElem?_eq_getElem (by omega)⟩
  have ih := cov_level f level l n ps hps
  have hb := below_range f level l n ps up hps h
  have e1 : up.flatMap (cov (grownF f level l) (n + 1)) = (up.flatten.map (·.below)).flatMap (fun i => cov (grownF f level l) n (pageAt (grownF f level l) n i)) := by
   rw [List.flatMap_map, ← flat_flat]
   rfl
  rw [e1, hb]
  have e2 : (fun i => cov (grownF f level l) n (pageAt (grownF f level l) n i)) = fun i => cov (grownF f level l) n (ps[i]?.getD []) := by
   funext i
   unfold pageAt
   rw [hps]
   rfl
  rw [e2, flat_range ps (cov (grownF f level l) n) []]
  exact ih
theorem last_one : ∀ (f level : Nat) (l : List ItR), level + (f + 1) = 7 → ∃ p, (grownF (f + 1) level l)[(grownF (f + 1) level l).length - 1]? = some [p]
 | f, level, l, h => by
  unfold grownF
  by_cases h1 : (partedN level l).length = 1
  ·rw [if_pos h1]
   obtain ⟨p, hp⟩ := List.length_eq_one_iff.1 h1
   exact ⟨p, by simp [hp]⟩
  ·rw [if_neg h1]
   cases f with
   | zero =>
    have : level = 6 := by omega
    subst this
    unfold partedN at h1
    rw [part_six] at h1
    simp at h1
   | succ f =>
    obtain ⟨p, hp⟩ := last_one f (level + 1) (nextF level 0 (partedN level l)) (by omega)
    have hl := (grownF_length (f + 1) (level + 1) (nextF level 0 (partedN level l)) (by omega)).1
    refine ⟨p, ?_⟩
    rw [List.length_cons, Nat.add_sub_cancel]
    rw [show (grownF (f + 1) (level + 1) (nextF level 0 (partedN level l))).length = ((grownF (f + 1) (level + 1) (nextF level 0 (partedN level l))).length - 1) + 1 by omega, List.getElem?_cons_succ]
    exact hp
end Go.Proofs.Ytekegfbjbainhaa
