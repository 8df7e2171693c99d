import Derived.Test.YtekegfbjbainhaaKJoin19
import Derived.Test.YtekegfbjbainhaaKJoin14
import Derived.Test.YtekegfbjbainhaaKJoin23
import Derived.Test.YtekegfbjbainhaaKJoin17
import Derived.Test.YtekegfbjbainhaaKJoin20
set_option linter.unusedVariables false
set_option linter.unusedSimpArgs false

namespace Go.Proofs.Ytekegfbjbainhaa
open Go.RowKit
theorem next_places (level : Nat) : ∀ (ps : List (List ItR)) (i : Nat), (nextF level i ps).map (·.below) = List.range' i ps.length
 | [], i => by simp [nextF]
 | p :: r, i => by
  unfold nextF
  rw [List.map_cons, next_places level r (i + 1), List.length_cons, List.range'_succ]
theorem grownF_uniq : ∀ (f level : Nat) (l : List ItR) (n : Nat) (up : List (List ItR)), (grownF f level l)[n + 1]? = some up → (up.flatten.map (·.below)).Nodup
 | 0, level, l, n, up, h => by simp [grownF] at h
 | f + 1, level, l, n, up, h => by
  unfold grownF at h
  by_cases h1 : (partedN level l).length = 1
  ·rw [if_pos h1] at h
   simp at h
  ·rw [if_neg h1, List.getElem?_cons_succ] at h
   cases n with
   | succ n => exact grownF_uniq f (level + 1) _ n up h
   | zero =>
    cases f with
    | zero => simp [grownF] at h
    | succ f =>
     have hup : up = partedN (level + 1) (nextF level 0 (partedN level l)) := by
      unfold grownF at h
      split at h
      ·simpa using h.symm
      ·simpa using h.symm
     have e : up.flatten = nextF level 0 (partedN level l) := by rw [hup]; unfold partedN; rw [partF_flatten]; rfl
     rw [e, next_places]
     exact List.nodup_range'
def costF (lvls : List (List (List ItR))) (fr tu : List UInt8) (n : Nat) (js : List Nat) : Nat := (js.map (fun j => (rangeF lvls fr tu n (pageAt lvls n j)).length)).sum
def namedF (p : List ItR) (fr tu : List UInt8) : List Nat := (List.range p.length).flatMap (fun i => if withB p i fr tu = true then [belowAt p i] else [])
theorem named_sub (p : List ItR) (fr tu : List UInt8) : List.Sublist (namedF p fr tu) (p.map (·.below)) := by
 have h : ∀ k, k ≤ p.length → List.Sublist ((List.range k).flatMap (fun i => if withB p i fr tu = true then [belowAt p i] else [])) ((p.take k).map (·.below)) := fun k => by
  induction k with
  | zero => intro _; simp
  | succ k ih =>
   intro hk
   rw [List.range_succ, List.flatMap_append, List.take_succ_eq_append_getElem (by omega), List.map_append]
   refine List.Sublist.append (ih (by omega)) ?_
   have e : belowAt p k = p[k].below := by unfold belowAt; rw [List.getElem?_eq_getElem (by omega)]; rfl
   simp only [List.flatMap_cons, List.flatMap_nil, List.append_nil, List.map_cons, List.map_nil]
   split
   ·rw [e]; exact List.Sublist.refl _
   ·exact List.nil_sublist _
 have := h p.length (Nat.le_refl _)
 rw [List.take_length] at this
 exact this
theorem cost_named (lvls : List (List (List ItR))) (fr tu : List UInt8) (n : Nat) (p : List ItR) : (rangeF lvls fr tu (n + 1) p).length = (frameB (n + 1) p).length + costF lvls fr tu n (namedF p fr tu) := by
 rw [rangeF_succ, List.length_append]
 congr 1
 unfold behindF costF namedF
 rw [List.map_flatMap]
 generalize List.range p.length = r
 induction r with
 | nil => rfl
 | cons i r ih =>
  rw [List.flatMap_cons, List.flatMap_cons, List.length_append, List.sum_append, ih]
  congr 1
  split <;> simp
theorem cost_flat (lvls : List (List (List ItR))) (fr tu : List UInt8) (n : Nat) (js : List Nat) (f : Nat → List Nat) : costF lvls fr tu n (js.flatMap f) = (js.map (fun j => costF lvls fr tu n (f j))).sum := by
 unfold costF
 induction js with
 | nil => rfl
 | cons j js ih => rw [List.flatMap_cons, List.map_append, List.sum_append, ih]; rfl
theorem sum_bound (f : Nat → Nat) (B : Nat) (js : List Nat) (h : ∀ j ∈ js, f j ≤ B) : (js.map f).sum ≤ js.length * B := by
 induction js with
 | nil => simp
 | cons j js ih =>
  have h1 := h j (by simp)
  have h2 := ih (fun x hx => h x (by simp [hx]))
  rw [List.map_cons, List.sum_cons, List.length_cons, Nat.add_mul]
  omega
theorem nodup_lt_length : ∀ (N : Nat) (js : List Nat), js.Nodup → (∀ j ∈ js, j < N) → js.length ≤ N
 | 0, js, _, hlt => by
  cases js with
  | nil => simp
  | cons j js => exact absurd (hlt j (by simp)) (Nat.not_lt_zero _)
 | N + 1, js, h, hlt => by
  have ih := nodup_lt_length N (js.erase N) (h.erase N) (fun j hj => by
   have := (List.Nodup.mem_erase_iff h).1 hj
   have := hlt j this.2
   omega)
  have : js.length ≤ (js.erase N).length + 1 := by
   by_cases hm : N ∈ js
   ·rw [List.length_erase_of_mem hm]; omega
   ·rw [List.erase_of_not_mem hm]; omega
  omega
theorem cost_small {lvls : List (List (List ItR))} (hL : LvlsOk lvls) (hu : ∀ n up, lvls[n + 1]? = some up → (up.flatten.map (·.below)).Nodup) (fr tu : List UInt8) : ∀ (n : Nat) (ps : List (List ItR)) (js : List Nat), lvls[n]? = some ps → js.Nodup → (∀ j ∈ js, j < ps.length) → costF lvls fr tu n js ≤ (n + 1) * 97600
 | 0, ps, js, hp, hd, hj => by
  have h1 := nodup_lt_length ps.length js hd hj
  have h2 := hL.cnt 0 ps hp
  have h3 := sum_bound (fun j => (rangeF lvls fr tu 0 (pageAt lvls 0 j)).length) 1600 js (fun j _ => by
   have := pageAt_ok hL 0 j
   show (frameB 0 _).length ≤ 1600
   exact frameB_length 0 _ this.2.1 this.1)
  unfold costF
  have h4 : js.length * 1600 ≤ 61 * 1600 := Nat.mul_le_mul_right _ (by omega)
  exact Nat.le_trans h3 (Nat.le_trans h4 (by decide))
 | n + 1, ps, js, hp, hd, hj => by
  have h1 := nodup_lt_length ps.length js hd hj
  have h2 := hL.cnt (n + 1) ps hp
  have e : costF lvls fr tu (n + 1) js = (js.map (fun j => (frameB (n + 1) (pageAt lvls (n + 1) j)).length)).sum + costF lvls fr tu n (js.flatMap (fun j => namedF (pageAt lvls (n + 1) j) fr tu)) := by
   rw [cost_flat]
   unfold costF
   clear hd hj h1
   induction js with
   | nil => rfl
   | cons j js ih =>
    simp only [List.map_cons, List.sum_cons] at ih ⊢
    rw [ih, cost_named]
    unfold costF
    omega
  have h3 := sum_bound (fun j => (frameB (n + 1) (pageAt lvls (n + 1) j)).length) 1600 js (fun j _ => by
   have := pageAt_ok hL (n + 1) j
   exact frameB_length (n + 1) _ this.2.1 this.1)
  have h4 : js.length * 1600 ≤ 61 * 1600 := Nat.mul_le_mul_right _ (by omega)
  obtain ⟨qs, hq⟩ : ∃ qs, lvls[n]? = some qs := by
   have := (List.getElem?_eq_some_iff.1 hp).1
   exact ⟨_, List.getElem?_eq_getElem (by omega)⟩
  have hun := hu n ps hp
  have hpg : ∀ j, ∀ h : j < ps.length, pageAt lvls (n + 1) j = ps[j] := fun j h => by
   unfold pageAt
   rw [hp]
   simp [h]
  rw [List.map_flatten] at hun
  have hun' := List.pairwise_flatten.1 hun
  have hlt : ∀ x ∈ js.flatMap (fun j => namedF (pageAt lvls (n + 1) j) fr tu), x < qs.length := fun x hx => by
   obtain ⟨j, hjm, hx⟩ := List.mem_flatMap.1 hx
   have hjl := hj j hjm
   rw [hpg j hjl] at hx
   have := (named_sub _ fr tu).subset hx
   obtain ⟨y, hy, rfl⟩ := List.mem_map.1 this
   exact (hL.bel n qs ps hq hp _ (List.getElem_mem hjl) y hy).1
  have hnd : (js.flatMap (fun j => namedF (pageAt lvls (n + 1) j) fr tu)).Nodup := by
   unfold List.Nodup
   rw [List.flatMap_def, List.pairwise_flatten]
   refine ⟨fun l hl => ?_, ?_⟩
   ·obtain ⟨j, hjm, rfl⟩ := List.mem_map.1 hl
    have hjl := hj j hjm
    rw [hpg j hjl]
    exact List.Pairwise.sublist (named_sub _ fr tu) (hun'.1 _ (List.mem_map.2 ⟨_, List.getElem_mem hjl, rfl⟩))
   ·rw [List.pairwise_map]
    refine List.Pairwise.imp_of_mem ?_ hd
    intro a b ha hb hne x hx y hy
    have hal := hj a ha
    have hbl := hj b hb
    rw [hpg a hal] at hx
    rw [hpg b hbl] at hy
    have hx' := (named_sub _ fr tu).subset hx
    have hy' := (named_sub _ fr tu).subset hy
    have hpw := List.pairwise_iff_getElem.1 hun'.2
    rcases Nat.lt_or_gt_of_ne hne with h | h
    ·have := hpw a b (by simpa using hal) (by simpa using hbl) h
     simp only [List.getElem_map] at this
     exact this x hx' y hy'
    ·have := hpw b a (by simpa using hbl) (by simpa using hal) h
     simp only [List.getElem_map] at this
     exact fun e => this y hy' x hx' e.symm
  have ih := cost_small hL hu fr tu n qs _ hq hnd hlt
  rw [e]
  omega
theorem prf_short {p : List ItR} (h : PastR p) (fr tu : List UInt8) : (prfB p fr tu).length ≤ 1000000 := by
 have hL := grown_lv p h.1 h.2.1 h.2.2
 have e : rootPage p = pageAt (grownN p) (rootLevel p) 0 := by
  unfold rootPage pageAt rootLevel
  cases ((grownN p)[(grownN p).length - 1]?.getD []) <;> rfl
 have hg := grownF_length 7 0 p (by omega)
 have hlen : 1 ≤ (grownN p).length := hg.1
 obtain ⟨ps, hp⟩ : ∃ ps, (grownN p)[rootLevel p]? = some ps := ⟨_, List.getElem?_eq_getElem (by unfold rootLevel; omega)⟩
 have hl6 : rootLevel p ≤ 6 := by have := hL.len; unfold rootLevel; omega
 unfold prfB
 rw [e]
 by_cases h0 : 0 < ps.length
 ·have h1 := cost_small hL (fun n up => grownF_uniq 7 0 p n up) fr tu (rootLevel p) ps [0] hp (by simp) (by simpa using h0)
  have e2 : costF (grownN p) fr tu (rootLevel p) [0] = (rangeF (grownN p) fr tu (rootLevel p) (pageAt (grownN p) (rootLevel p) 0)).length := by simp [costF]
  rw [e2] at h1
  have : (rootLevel p + 1) * 97600 ≤ 7 * 97600 := Nat.mul_le_mul_right _ (by omega)
  omega
 ·have e3 : pageAt (grownN p) (rootLevel p) 0 = [] := by
   unfold pageAt
   rw [hp]
   have : ps = [] := List.length_eq_zero_iff.1 (by omega)
   simp [this]
  rw [e3]
  cases hr : rootLevel p with
  | zero => simp [rangeF, frameB, codeB]
  | succ n => simp [rangeF, frameB, codeB]
end Go.Proofs.Ytekegfbjbainhaa


namespace Go.Proofs.Ytekegfbjbainhaa
open Go.RowKit
theorem commitC_length (e n : Nat) (r s : List UInt8) (hr : r.length = 8) (hs : s.length = 8) : (commitC e r n s).length = 18 := by
 simp [commitC, hr, hs]
theorem comsF_length : ∀ (n : Nat) (rl : List (List UInt8)), n ≤ rl.length → (∀ r ∈ rl, r.length = 8) → (comsF n rl).length = n * 18
 | 0, _, _, _ => rfl
 | n + 1, rl, h, hr => by
  unfold comsF
  have hg : (rl.getD n []).length = 8 := by
   rw [List.getD_eq_getElem?_getD, List.getElem?_eq_getElem (by omega)]
   exact hr _ (List.getElem_mem _)
  rw [List.length_append, comsF_length n rl (by omega) hr, commitC_length _ _ _ _ hg (sumF_length 41 _)]
  omega
theorem comsF_get : ∀ (n : Nat) (rl : List (List UInt8)) (k j : Nat), n ≤ rl.length → (∀ r ∈ rl, r.length = 8) → k < n → j < 18 → (comsF n rl)[k * 18 + j]? = (commitC k (rl.getD k []) (k + 1) (sumF 42 (rl.take (k + 1))))[j]?
 | 0, _, _, _, _, _, hk, _ => absurd hk (Nat.not_lt_zero _)
 | n + 1, rl, k, j, h, hr, hk, hj => by
  unfold comsF
  have hl := comsF_length n rl (by omega) hr
  by_cases hkn : k < n
  ·rw [List.getElem?_append_left (by omega)]
   exact comsF_get n rl k j (by omega) hr hkn hj
  ·obtain rfl : k = n := by omega
   rw [List.getElem?_append_right (by omega), hl, Nat.add_sub_cancel_left]
theorem coms_root (rl : List (List UInt8)) (hr : ∀ r ∈ rl, r.length = 8) (k j : Nat) (hk : k < rl.length) (hj : j < 8) : (comsC rl)[k * 18 + 1 + j]? = (rl[k].map u8c)[j]? := by
 unfold comsC
 rw [Nat.add_assoc, comsF_get rl.length rl k (1 + j) (Nat.le_refl _) hr hk (by omega)]
 have e : rl.getD k [] = rl[k] := by rw [List.getD_eq_getElem?_getD, List.getElem?_eq_getElem hk]; rfl
 have h8 := hr _ (List.getElem_mem hk)
 rw [e]
 unfold commitC
 rw [List.append_assoc, List.append_assoc, Nat.add_comm 1 j, List.singleton_append, List.getElem?_cons_succ, List.getElem?_append_left (by simp; omega)]
theorem rootOf_length (nd : Nd) : (rootOf nd).length = 8 := digB_length _
theorem Hou.lens {w wr : World} {d : HouD} (h : Hou w d wr) : d.pp.length = d.tds.length ∧ d.pd.length = d.tds.length := ⟨h.at_.stt.pl, by rw [h.at_.pl, h.at_.stt.pl]⟩
theorem Hou.past {w wr : World} {d : HouD} (h : Hou w d wr) {e : Nat} (he : e < d.pp.length) : PastOk d.pp[e] := by
 have h1 := h.at_.stt.tl
 have h2 := h.at_.stt.pl
 exact (h.at_.stt.rep e (d.T[e]'(by omega)) d.pp[e] (d.tds[e]'(by omega)) (List.getElem?_eq_getElem _) (List.getElem?_eq_getElem _) (List.getElem?_eq_getElem _)).2.2
theorem keyOk_len {key : List UInt8} (h : keyOk key = true) : 1 ≤ key.length ∧ key.length ≤ 12 := by unfold keyOk at h; simpa using h
theorem Hou.stood {w wr : World} {d : HouD} (h : Hou w d wr) {e : Nat} (he : e < d.pp.length) : Stood d.pp[e] := by
 have hp := h.past he
 exact ⟨hp.rise, hp.len, fun x hx => keyOk_len (h.keys _ (List.mem_cons_of_mem _ (List.getElem_mem he)) x hx), fun x hx => (hp.ok x hx).2⟩
theorem Hou.root {w wr : World} {d : HouD} (h : Hou w d wr) {e : Nat} (he : e < d.pp.length) (he' : e < (d.tds.map rootOf).length) : (d.tds.map rootOf)[e] = rootB d.pp[e] := by
 have := h.rts
 simp only [this, List.getElem_map]
theorem Stood.pastR {l : List ItR} (h : Stood l) : PastR l := ⟨h.rise, fun x hx => ⟨(h.key x hx).2, h.val x hx⟩, h.len⟩
theorem prv_ok {pp : List (List ItR)} {e : Nat} {key : List UInt8} (he : e < pp.length) (hk : keyOk key = true) : prvE pp.length (e : Int) key = 0 ∧ prvB pp (e : Int) key = prfB pp[e] key key := by
 have h1 : prvE pp.length (e : Int) key = 0 := by
  unfold prvE epochBad
  rw [hk]
  simp; omega
 refine ⟨h1, ?_⟩
 unfold prvB pastAt
 rw [if_pos h1]
 simp [he]
theorem hou_prove {w wr : World} {d : HouD} (h : Hou w d wr) {e : Nat} (he : e < d.pp.length) (sk : SlR) (key : List UInt8) (hK : BS wr sk key) (hk : keyOk key = true) :
  Calls Try.prog 15 #[.pointer (some ⟨d.sb, 0, none⟩), .int .i64 (e : Int), sk.val] wr fun r w' => ∃ v : SlR, r = .returned (.tuple #[v.val, .int .i64 0]) ∧ OwnB w' wr.heap.size v.val (prfB d.pp[e] key key) ∧ Below wr.heap.size wr w' := by
 refine (sto_prove d.sb d.N d.en d.tr d.mp d.ms d.xs d.its d.tds d.T d.pp (e : Int) sk key wr h.at_.sto h.at_.stt h.at_.t40 hK (by have := keyOk_len hk; unfold maxLen; omega)).mono ?_
 rintro r w' ⟨v, rfl, h1, h2⟩
 obtain ⟨e1, e2⟩ := prv_ok he hk
 rw [e2] at h1
 rw [e1]
 exact ⟨v, rfl, h1, h2⟩
theorem ownB_bs {w : World} {base : Nat} {v : SlR} {l : List UInt8} (h : OwnB w base v.val l) : BS w v l ∧ v.n ≤ v.cap := by
 have hc := owns_cap (a := v.a) (n' := v.n) (cap := v.cap) h
 obtain ⟨h1, h2, h3⟩ := OwnB.sl (a := v.a) (n := v.n) (cap := v.cap) h
 refine ⟨⟨h1, h2, h3, fun x hx => ?_⟩, by rw [hc.1]; exact hc.2.1⟩
 rcases hc.2.2.2 with ⟨e, _⟩ | ⟨g, e, _, hlt⟩
 ·rw [hx] at e; cases e
 ·rw [hx] at e; cases e; exact hlt
theorem ownB_ge {w : World} {base : Nat} {v : SlR} {l : List UInt8} (h : OwnB w base v.val l) : ∀ x, v.a = some x → base ≤ x.block := fun x hx => (World.ownsRow.lt h x.block (by unfold SlR.val; rw [hx]; rfl)).1
theorem hou_check {l : List ItR} (hs : Stood l) (root : List UInt8) (hr : root = rootB l) (sk sp : SlR) (key : List UInt8) (w : World) (hK : BS w sk key) (hk : keyOk key = true) (hp : BS w sp (prfB l key key)) (hpc : sp.n ≤ sp.cap) :
  Calls Try.prog 16 #[dV root, sk.val, sp.val] w fun r w' => ∃ v : SlR, r = .returned (.tuple #[.agg #[.bool (findM key l).isSome, v.val], .int .i64 0]) ∧ Below w.heap.size w w' ∧ BS w' v ((findM key l).getD []) ∧ ∀ x, v.a = some x → w.heap.size ≤ x.block := by
 subst hr
 refine (checkP_any sk sp key (prfB l key key) (rootB l) w (rootB_length _) hK hp hpc (by have := keyOk_len hk; unfold maxLen; omega) (by have := prf_short hs.pastR key key; omega)).mono ?_
 rintro r w' ⟨v, rfl, h1, h2⟩
 have e : chkR (rootB l) key (prfB l key key) = (0, findM key l) := by
  unfold chkR
  rw [if_pos hk, check_point hs key]
 rw [e] at h2 ⊢
 exact ⟨v, rfl, h1, (ownB_bs h2).1, ownB_ge h2⟩
end Go.Proofs.Ytekegfbjbainhaa
