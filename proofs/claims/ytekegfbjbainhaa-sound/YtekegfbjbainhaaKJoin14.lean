import Derived.Test.YtekegfbjbainhaaKJoin13
import Derived.Deep.RegionHeld3
import Derived.Deep.DrawnRows
import Derived.Test.YtekegfbjbainhaaKJoin12
import Derived.Test.YtekegfbjbainhaaKPrP3
set_option linter.unusedVariables false
set_option linter.unusedSimpArgs false

namespace Go.Proofs.Ytekegfbjbainhaa
open Go.RowKit
attribute [local go_sem ↓] Go.wp_at_zero Go.wp_at_succ
end Go.Proofs.Ytekegfbjbainhaa


namespace Go.Proofs.Ytekegfbjbainhaa
open Go.RowKit
end Go.Proofs.Ytekegfbjbainhaa


namespace Go.Proofs.Ytekegfbjbainhaa
open Go.RowKit
def prfB (p : List ItR) (fr tu : List UInt8) : List UInt8 := rangeF (grownN p) fr tu (rootLevel p) (rootPage p)
def epochBad (n : Nat) (e : Int) : Bool := decide (e < 0) || decide ((n : Int) ≤ e)
def prvE (n : Nat) (e : Int) (key : List UInt8) : Nat := if epochBad n e = true then 4 else if keyOk key = false then 1 else 0
def pastAt (pp : List (List ItR)) (e : Int) : List ItR := pp.getD e.toNat []
def prvB (pp : List (List ItR)) (e : Int) (key : List UInt8) : List UInt8 := if prvE pp.length e key = 0 then prfB (pastAt pp e) key key else []
def PastR (p : List ItR) : Prop := RiseK p ∧ (∀ x ∈ p, ItOk x) ∧ p.length ≤ 60
theorem point_prf (l : List ItR) (h : PastR l) (key : List UInt8) : pointF (grownN l) key (rootLevel l) (rootPage l) = prfB l key key := by
 unfold prfB
 have hL := grown_lv l h.1 h.2.1 h.2.2
 refine point_range hL key (fun p hp => rising_place p key hp) _ _ ?_
 have e : rootPage l = pageAt (grownN l) (rootLevel l) 0 := by
  unfold rootPage pageAt rootLevel
  cases ((grownN l)[(grownN l).length - 1]?.getD []) <;> rfl
 rw [e]
 exact (pageAt_ok hL _ _).2.2
theorem epoch_in {n : Nat} {e : Int} (h : epochBad n e = false) : ∃ k : Nat, e = k ∧ k < n := by
 unfold epochBad at h
 simp at h
 exact ⟨e.toNat, by omega, by omega⟩
end Go.Proofs.Ytekegfbjbainhaa


namespace Go.Proofs.Ytekegfbjbainhaa
open Go.RowKit
theorem appendPages_any (lvls : List (List (List ItR))) (L : List (List Nd)) (hT : TreeRep lvls L) (hL : LvlsOk lvls) (sf st : SlR) (fr tu : List UInt8) : ∀ (n j : Nat) (nds : List Nd) (x : Nd) (v : SlR) (l : List UInt8) (base : Nat) (w : World), L[n]? = some nds → nds[j]? = some x → TrAt w base L → BLow w base sf fr → BLow w base st tu → base ≤ w.heap.size → OwnB w base v.val l → l.length + (rangeF lvls fr tu n (pageAt lvls n j)).length ≤ 140737488355328 →
  Calls Try.prog 60 #[v.val, .pointer (some ⟨x.b, 0, none⟩), sf.val, st.val] w fun e w' => ∃ v' : SlR, e = .returned v'.val ∧ OwnB w' base v'.val (l ++ rangeF lvls fr tu n (pageAt lvls n j)) ∧ Frame (fun k => v.val.ownBlock = some k) w w' ∧ (∀ k, v'.val.ownBlock = some k → k < w.heap.size → v.val.ownBlock = some k)
 | 0, j, nds, x, v, l, base, w, h1, h2, hA, hF, hS, hb, ho, hlen => by
  obtain ⟨e1, e2, _⟩ := hT.node h1 h2
  obtain ⟨h60, hok, _⟩ := pageAt_ok hL 0 j
  have hbl := hT.low' h1 h2
  have h6 : (codeB 0 (pageAt lvls 0 j)).length ≤ 6000 := by
   have := frameB_length 0 _ hok h60
   simp only [frameB, List.length_cons] at this
   omega
  have hfl : (rangeF lvls fr tu 0 (pageAt lvls 0 j)).length = 2 + (codeB 0 (pageAt lvls 0 j)).length := by
   simp only [rangeF, frameB, List.length_cons]; omega
  have h := pages_step L sf st fr tu x v l (codeB 0 (pageAt lvls 0 j)) [] [] base w hA ⟨nds, List.mem_of_getElem? h1, List.mem_of_getElem? h2⟩ hF hS hb ho (by rw [e1, e2, code_norm]) h6 (by rw [hbl]; rfl) (by simp) (fun W _ i _ h => absurd h (Nat.not_lt_zero _)) rfl (by simp; omega) (fun t _ ht => absurd ht (Nat.not_lt_zero _))
  rw [List.flatten_nil, List.append_nil] at h
  exact h
 | n + 1, j, nds, x, v, l, base, w, h1, h2, hA, hF, hS, hb, ho, hlen => by
  obtain ⟨e1, e2, _⟩ := hT.node h1 h2
  obtain ⟨h60, hok, _⟩ := pageAt_ok hL (n + 1) j
  obtain ⟨hbl, hdn⟩ := hT.down hL h1 h2
  have h6 : (codeB (n + 1) (pageAt lvls (n + 1) j)).length ≤ 6000 := by
   have := frameB_length (n + 1) _ hok h60
   simp only [frameB, List.length_cons] at this
   omega
  have hbeh : behindF lvls fr tu n (pageAt lvls (n + 1) j) (pageAt lvls (n + 1) j).length = ((selI (pageAt lvls (n + 1) j) fr tu (pageAt lvls (n + 1) j).length).map (fun i => rangeF lvls fr tu n (pageAt lvls n (belowAt (pageAt lvls (n + 1) j) i)))).flatten := by
   rw [behind_places]; rfl
  have hfl : (rangeF lvls fr tu (n + 1) (pageAt lvls (n + 1) j)).length = 2 + (codeB (n + 1) (pageAt lvls (n + 1) j)).length + (behindF lvls fr tu n (pageAt lvls (n + 1) j) (pageAt lvls (n + 1) j).length).length := by
   rw [rangeF_succ]
   simp only [frameB, List.length_append, List.length_cons]; omega
  have h := pages_step L sf st fr tu x v l (codeB (n + 1) (pageAt lvls (n + 1) j)) (pageAt lvls (n + 1) j) ((selI (pageAt lvls (n + 1) j) fr tu (pageAt lvls (n + 1) j).length).map (fun i => rangeF lvls fr tu n (pageAt lvls n (belowAt (pageAt lvls (n + 1) j) i)))) base w hA ⟨nds, List.mem_of_getElem? h1, List.mem_of_getElem? h2⟩ hF hS hb ho (by rw [e1, e2, code_norm]) h6 hbl.symm (by omega)
   (fun W hW i hi1 hi2 => by
    obtain ⟨nds', y, g1, g2, g3, g4⟩ := hdn i hi2
    have hy := hW.ok nds' (List.mem_of_getElem? g1) y (List.mem_of_getElem? g2)
    rw [List.getElem?_eq_getElem hi1] at g3
    have g3' := Option.some.inj g3
    rw [g3']
    refine ⟨y.la, hy.row.cellP 0 _ (by simp [ndC]), hy.row.lt, ?_⟩
    have := hy.la
    rw [g4] at this
    exact this)
   (by rw [sel_places]; simp) (by rw [← hbeh]; omega)
   (fun t ht ht2 v2 l2 W hA2 hF2 hS2 hb2 ho2 hl2 => by
    have hti : t < (selI (pageAt lvls (n + 1) j) fr tu (pageAt lvls (n + 1) j).length).length := by simpa using ht2
    have hit := selI_lt (List.getElem_mem hti)
    obtain ⟨nds', y, g1, g2, g3, g4⟩ := hdn _ hit
    have es : (selF (pageAt lvls (n + 1) j) fr tu x.bl (pageAt lvls (n + 1) j).length)[t] = y.b := by
     have e : (selF (pageAt lvls (n + 1) j) fr tu x.bl (pageAt lvls (n + 1) j).length)[t]? = some y.b := by
      rw [sel_places, List.getElem?_map, List.getElem?_eq_getElem hti]
      simp only [Option.map_some, List.getD_eq_getElem?_getD]
      rw [g3]; rfl
     exact (List.getElem?_eq_some_iff.1 e).2
    rw [es]
    simp only [List.getElem_map] at hl2 ⊢
    exact appendPages_any lvls L hT hL sf st fr tu n _ nds' y v2 l2 base W g1 g2 hA2 hF2 hS2 hb2 ho2 hl2)
  rw [← hbeh] at h
  rw [rangeF_succ, ← List.append_assoc]
  exact h
theorem TreeRep.root {p : List ItR} {L : List (List Nd)} (h : TreeRep (grownN p) L) {ℓ : Nat} (hl : L.length = ℓ + 1) (fr tu : List UInt8) : prfB p fr tu = rangeF (grownN p) fr tu ℓ (pageAt (grownN p) ℓ 0) := by
 have e : (grownN p).length = ℓ + 1 := by
  have := congrArg List.length h.its
  simp only [List.length_map] at this
  omega
 have e2 : rootPage p = pageAt (grownN p) ℓ 0 := by
  unfold rootPage pageAt
  rw [e, show ℓ + 1 - 1 = ℓ by omega]
  cases ((grownN p)[ℓ]?.getD []) <;> rfl
 unfold prfB
 rw [e2, show rootLevel p = ℓ by unfold rootLevel; omega]
set_option maxRecDepth 100000 in
set_option maxHeartbeats 400000 in
theorem ofRange_any (p : List ItR) (hP : PastR p) (L : List (List Nd)) (hT : TreeRep (grownN p) L) (ℓ : Nat) (nd : Nd) (hl : L.length = ℓ + 1) (hr : L[ℓ]? = some [nd]) (sf st : SlR) (fr tu : List UInt8) (w : World) (hA : ∀ nds ∈ L, ∀ x ∈ nds, NdOk w x) (hF : BS w sf fr) (hS : BS w st tu) :
  Calls Try.prog 42 #[.pointer (some ⟨nd.b, 0, none⟩), sf.val, st.val] w fun e w' => ∃ v' : SlR, e = .returned v'.val ∧ OwnB w' w.heap.size v'.val (prfB p fr tu) ∧ Below w.heap.size w w' := by
 have hL := grown_lv p hP.1 hP.2.1 hP.2.2
 have hℓ : ℓ ≤ 6 := by
  have := congrArg List.length hT.its
  simp only [List.length_map] at this
  have := hL.len
  omega
 have HC : Hid (Calls _ _ _ _ _) := appendPages_any (grownN p) L hT hL sf st fr tu ℓ 0 [nd] nd ⟨none, 0, 0⟩ [] w.heap.size w hr rfl ⟨hA, fun nds hn x hx => (hA nds hn x hx).lt⟩ ⟨hF, hF.lt⟩ ⟨hS, hS.lt⟩ (Nat.le_refl _) (World.ownsRow_nil _ _ _ _) (by
  have := range_small hL fr tu ℓ hℓ _ (pageAt_ok hL ℓ 0).1 (pageAt_ok hL ℓ 0).2.1
  simp; omega)
 rw [List.nil_append, ← hT.root hl] at HC
 unfold SlR.val at HC ⊢
 clear hA hF hS hL
 go_enter Try.func42, Try.ntmps42
 go_wp2_with (go_at_call 60; refine HC.out.mono ?_; rintro e w1 ⟨v1, rfl, ho1, hf1, hv1⟩)
 go_ret
 exact ⟨v1, rfl, ho1, hf1.below (Nat.le_refl _) (fun k hk => by cases hk)⟩
set_option maxRecDepth 100000 in
set_option maxHeartbeats 400000 in
theorem ofKey_any (p : List ItR) (hP : PastR p) (L : List (List Nd)) (hT : TreeRep (grownN p) L) (ℓ : Nat) (nd : Nd) (hl : L.length = ℓ + 1) (hr : L[ℓ]? = some [nd]) (sk : SlR) (key : List UInt8) (w : World) (hA : ∀ nds ∈ L, ∀ x ∈ nds, NdOk w x) (hK : BS w sk key) :
  Calls Try.prog 37 #[.pointer (some ⟨nd.b, 0, none⟩), sk.val] w fun e w' => ∃ v' : SlR, e = .returned v'.val ∧ OwnB w' w.heap.size v'.val (prfB p key key) ∧ Below w.heap.size w w' := by
 have HC : Hid (Calls _ _ _ _ _) := ofRange_any p hP L hT ℓ nd hl hr sk sk key key w hA hK hK
 unfold SlR.val at HC ⊢
 clear hA hK
 go_enter Try.func37, Try.ntmps37
 go_wp2_with (go_at_call 42; refine HC.out.mono ?_; rintro e w1 ⟨v1, rfl, ho1, hb1⟩)
 go_ret
 exact ⟨v1, rfl, ho1, hb1⟩
end Go.Proofs.Ytekegfbjbainhaa


namespace Go.Proofs.Ytekegfbjbainhaa
open Go.RowKit
def it0 : ItR := ⟨[], [], 0⟩
def selE (p : List ItR) (fr tu : List UInt8) (k : Nat) : List ItR := (List.range k).flatMap (fun i => if withB p i fr tu = true then [p.getD i it0] else [])
theorem selE_yes (p : List ItR) (fr tu : List UInt8) (k : Nat) (h : withB p k fr tu = true) : selE p fr tu (k + 1) = selE p fr tu k ++ [p.getD k it0] := by
 unfold selE
 rw [List.range_succ, List.flatMap_append]
 simp [h]
theorem selE_no (p : List ItR) (fr tu : List UInt8) (k : Nat) (h : withB p k fr tu = false) : selE p fr tu (k + 1) = selE p fr tu k := by
 unfold selE
 rw [List.range_succ, List.flatMap_append]
 simp [h]
def stepU (rec : List ItR → List UInt8 → Option (List ItR × List UInt8)) (lv : Nat) (s : List ItR × List UInt8) (x : ItR) : Option (List ItR × List UInt8) :=
 match pgO (some s.2) x.more with
 | none => none
 | some ((l, its), r) => if l = lv then (rec its r).map (fun e => (s.1 ++ e.1, e.2)) else none
def readU (fr tu : List UInt8) : Nat → List ItR → List UInt8 → Option (List ItR × List UInt8)
 | 0, its, r => some (its, r)
 | lv + 1, its, r => (selE its fr tu its.length).foldlM (stepU (readU fr tu lv) lv) ([], r)
def chkF (key : List UInt8) : Nat → List ItR → List UInt8 → Option ((Nat × List ItR) × List UInt8)
 | 0, its, r => some ((0, its), r)
 | lv + 1, its, r => if placeN its key < its.length then (match pgO (some r) (its.getD (placeN its key) it0).more with
  | none => none
  | some ((l, its'), r') => if l = lv then chkF key lv its' r' else none) else some ((lv + 1, its), r)
def ansF (key : List UInt8) : Option ((Nat × List ItR) × List UInt8) → Option (Option (List UInt8))
 | none => none
 | some ((lv, its), r) => if r = [] then some (if lv = 0 then (its.find? (fun x => x.key == key)).map (·.more) else none) else none
def checkF (root key proof : List UInt8) : Option (Option (List UInt8)) :=
 match pgO (some proof) root with
 | none => none
 | some ((lv, its), r) => ansF key (chkF key lv its r)
structure PageOk (lv : Nat) (its : List ItR) : Prop where
 le6 : lv ≤ 6
 len : its.length ≤ 60
 rise : RiseK its
 key : ∀ x ∈ its, 1 ≤ x.key.length ∧ x.key.length ≤ 12
 low : lv = 0 → ∀ x ∈ its, x.more.length ≤ 12
 high : lv ≠ 0 → ∀ x ∈ its, x.more.length = 8
theorem takeB_some {n : Nat} {o : Option (List UInt8)} {r : List UInt8} (h : takeR n o = some r) : (takeB n o).length = n := by
 cases o with
 | none => cases h
 | some l =>
  have h' : (if n ≤ l.length then some (l.drop n) else none) = some r := h
  show (if n ≤ l.length then l.take n else []).length = n
  split at h'
  ·rename_i hn; rw [if_pos hn, List.length_take]; omega
  ·cases h'
theorem rise_push {its : List ItR} {x : ItR} (h : RiseK its) (hb : behindK its x.key = true) : RiseK (its ++ [x]) := by
 unfold RiseK at *
 rw [List.pairwise_append]
 refine ⟨h, List.pairwise_singleton _ _, fun a ha b hb' => ?_⟩
 simp only [List.mem_singleton] at hb'
 subst hb'
 obtain ⟨l, y, rfl⟩ : ∃ l y, its = l ++ [y] := by
  rcases List.eq_nil_or_concat its with rfl | ⟨l, y, rfl⟩
  ·cases ha
  ·exact ⟨l, y, by simp⟩
 have hy : Op.bytesLess y.key b.key = true := by simpa [behindK] using hb
 rcases List.mem_append.1 ha with hl | hl
 ·have := (List.pairwise_append.1 h).2.2 a hl y (by simp)
  exact less_trans this hy
 ·simp only [List.mem_singleton] at hl; subst hl; exact hy
theorem itemsO_ok (lv : Nat) : ∀ (n : Nat) (its : List ItR) (o : Option (List UInt8)) (res : List ItR), itemsO lv n its o = some res → RiseK its → (∀ x ∈ its, (1 ≤ x.key.length ∧ x.key.length ≤ 12) ∧ (lv = 0 → x.more.length ≤ 12) ∧ (lv ≠ 0 → x.more.length = 8)) →
  RiseK res ∧ res.length = its.length + n ∧ ∀ x ∈ res, (1 ≤ x.key.length ∧ x.key.length ≤ 12) ∧ (lv = 0 → x.more.length ≤ 12) ∧ (lv ≠ 0 → x.more.length = 8)
 | 0, its, o, res, h, h1, h2 => by
  unfold itemsO at h
  split at h
  ·cases h; exact ⟨h1, by simp, h2⟩
  ·cases h
 | n + 1, its, none, res, h, h1, h2 => by rw [itemsO_none] at h; cases h
 | n + 1, its, some l, res, h, h1, h2 => by
  unfold itemsO at h
  split at h
  case isFalse => cases h
  case isTrue hf =>
   have hr : ∃ r, entR lv (some l) = some r := by
    cases e : entR lv (some l) with
    | none => rw [e, itemsO_none] at h; cases h
    | some r => exact ⟨r, rfl⟩
   obtain ⟨r, hr⟩ := hr
   have ho : ∃ r2, entO (some l) = some r2 := by
    cases e : entO (some l) with
    | none => unfold entR at hr; rw [e] at hr; split at hr <;> cases hr
    | some r => exact ⟨r, rfl⟩
   obtain ⟨r2, ho⟩ := ho
   have hk : (entK (some l)).length = oneV (some l) := by unfold entK; unfold entO at ho; exact takeB_some ho
   unfold entFine at hf
   simp only [Bool.and_eq_true, decide_eq_true_eq, Bool.not_eq_true', Bool.and_eq_false_iff] at hf
   obtain ⟨⟨⟨hf0, hf1⟩, hf2⟩, hf3⟩ := hf
   have := itemsO_ok lv n _ _ res h (rise_push h1 hf3) (fun x hx => by
    rcases List.mem_append.1 hx with hx | hx
    ·exact h2 x hx
    ·simp only [List.mem_singleton] at hx; subst hx
     refine ⟨by show 1 ≤ (entK (some l)).length ∧ (entK (some l)).length ≤ 12; omega, fun e => ?_, fun e => ?_⟩
     ·subst e
      show (entM 0 (some l)).length ≤ 12
      have e1 : entM 0 (some l) = takeB (oneV (entO (some l))) (takeR 1 (entO (some l))) := by unfold entM; rw [if_pos rfl]
      rw [e1]
      have := takeB_length (oneV (entO (some l))) (takeR 1 (entO (some l)))
      rcases hf0 with hf0 | hf0
      ·simp at hf0
      ·have : ¬ 12 < oneV (entO (some l)) := by simpa using hf0
       omega
     ·show (entM lv (some l)).length = 8
      have e1 : entM lv (some l) = takeB 8 (entO (some l)) := by unfold entM; rw [if_neg e]
      rw [e1]
      unfold entR at hr; rw [if_neg e] at hr
      exact takeB_some hr)
   refine ⟨this.1, by rw [this.2.1]; simp; omega, this.2.2⟩
theorem pageF_ok {b : List UInt8} {lv : Nat} {its : List ItR} (h : pageF b = some (lv, its)) : PageOk lv its := by
 unfold pageF at h
 split at h
 case isFalse => cases h
 case isTrue hc =>
  cases e : itemsO (oneV (some b)) (oneV (takeR 1 (some b))) [] (takeR 1 (takeR 1 (some b))) with
  | none => rw [e] at h; cases h
  | some l =>
   rw [e] at h
   simp only [Option.map_some, Option.some.injEq, Prod.mk.injEq] at h
   obtain ⟨rfl, rfl⟩ := h
   obtain ⟨h1, h2, h3⟩ := itemsO_ok _ _ [] _ l e List.Pairwise.nil (fun x hx => by cases hx)
   exact ⟨hc.1, by rw [h2]; simp; omega, h1, fun x hx => (h3 x hx).1, fun e x hx => (h3 x hx).2.1 e, fun e x hx => (h3 x hx).2.2 e⟩
theorem pgO_ok {o : Option (List UInt8)} {d : List UInt8} {lv : Nat} {its : List ItR} {r : List UInt8} (h : pgO o d = some ((lv, its), r)) : PageOk lv its := by
 unfold pgO at h
 split at h
 ·cases h
 ·split at h
  ·cases h
  ·rename_i p hp
   split at h
   ·simp only [Option.some.injEq, Prod.mk.injEq] at h
    rw [h.1] at hp
    exact pageF_ok hp
   ·cases h
theorem selE_self {p : List ItR} (hr : RiseK p) (key : List UInt8) : selE p key key p.length = if placeN p key < p.length then [p.getD (placeN p key) it0] else [] := by
 unfold selE
 rw [flat_single _ (placeN p key) p.length]
 ·split
  ·rename_i hlt
   rw [with_self hr key _ hlt (rising_place p key hr)]
   simp
  ·rfl
 ·intro i hi hm
  rw [with_self hr key i hi (rising_place p key hr)]
  simp [hm]
theorem chk_read (key : List UInt8) : ∀ (lv : Nat) (its : List ItR) (r : List UInt8), RiseK its → readU key key lv its r = (chkF key lv its r).map (fun q => (if q.1.1 = 0 then q.1.2 else [], q.2))
 | 0, its, r, _ => rfl
 | lv + 1, its, r, h => by
  unfold readU chkF
  rw [selE_self h]
  split
  ·simp only [List.foldlM_cons, List.foldlM_nil]
   unfold stepU
   cases e : pgO (some r) (its.getD (placeN its key) it0).more with
   | none => rfl
   | some q =>
    obtain ⟨⟨l, its'⟩, r'⟩ := q
    simp only
    by_cases hl : l = lv
    ·subst hl
     simp only [if_true]
     rw [chk_read key l its' r' (pgO_ok e).rise]
     cases chkF key l its' r' <;> simp
    ·simp only [if_neg hl]; rfl
  ·simp
end Go.Proofs.Ytekegfbjbainhaa
