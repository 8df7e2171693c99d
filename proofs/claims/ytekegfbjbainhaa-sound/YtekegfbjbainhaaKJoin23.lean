import Derived.Test.YtekegfbjbainhaaKJoin22
import Derived.Test.YtekegfbjbainhaaKJoin16
import Derived.BigQuiet
import Derived.Test.YtekegfbjbainhaaKJoin21
import Derived.Deep.RegionLaw
import Derived.Deep.DeepCutAuto
import Derived.Deep.CutBlock
import Derived.Test.YtekegfbjbainhaaKJoin20
import Derived.Test.YtekegfbjbainhaaKJoin14
set_option linter.unusedVariables false
set_option linter.unusedSimpArgs false

namespace Go.Proofs.Ytekegfbjbainhaa
open Go.RowKit
attribute [local go_sem ↓] Go.wp_at_zero Go.wp_at_succ
theorem findM_at {key : List UInt8} {l : List ItR} {k : Nat} (hk : k < l.length) (hne : ∀ y ∈ l.take k, y.key ≠ key) (he : l[k].key = key) : findM key l = some l[k].more := by
 have e : l = l.take k ++ l[k] :: l.drop (k + 1) := by rw [List.getElem_cons_drop, List.take_append_drop]
 conv => lhs; rw [e]
 rw [findM_right hne]
 unfold findM
 rw [List.find?_cons_of_pos (by simpa using he)]
 rfl
theorem ans_one (b : Bool) (s : SlR) : ∀ v ∈ [Value.bool b, .slice s.a s.n s.cap], v.oneCell' = true := fun v hv => by
 simp only [List.mem_cons, List.not_mem_nil, or_false] at hv
 rcases hv with rfl | rfl <;> rfl
set_option maxRecDepth 100000 in
set_option maxHeartbeats 1600000 in
theorem stood_any (v sk : SlR) (es : List (SlR × SlR)) (l : List ItR) (key : List UInt8) (w : World) (hv : SlV w v.a (entsC es)) (hn : v.n = es.length) (hb : BsL w es l) (hK : BS w sk key) (hl : l.length ≤ 60) :
  Calls Try.prog 12 #[v.val, sk.val] w fun e w' => ∃ x : SlR, e = .returned (.agg #[.bool (findM key l).isSome, x.val]) ∧ BS w' x ((findM key l).getD []) ∧ Below w.heap.size w w' := by
 have HV : Hid (SlV w v.a (entsC es)) := hv
 have HBS : Hid (BsL w es l) := hb
 have HKK : Hid (BS w sk key) := hK
 have hel : es.length = l.length := hb.1
 have hlI : (l.length : Int) ≤ 60 := by omega
 obtain ⟨va, vn, vc⟩ := v
 simp only at hn
 obtain rfl : vn = l.length := by rw [hn, hel]
 have HBA : Hid (Below w.heap.size w (w.alloc (.cells #[.bool false, .slice none 0 0] 40))) := (Below.refl _ _).alloc (Nat.le_refl _) _
 have HRA : Hid (RowV (w.alloc (.cells #[.bool false, .slice none 0 0] 40)) w.heap.size 40 [.bool false, .slice none 0 0]) := RowV.new w _ _
 clear hv hn hb hK
 unfold SlR.val
 go_enter Try.func12, Try.ntmps12
 go_wp2
 go_loopw [5] (fun i wr => ∃ k m : Nat, k ≤ l.length ∧ i = .int .i64 (k : Int) ∧ wr = (w.alloc (.cells #[.bool false, .slice none 0 0] 40)).drewN m ∧ Hid (∀ y ∈ l.take k, y.key ≠ key)) (fun i _ => l.length - (intOf i).toNat)
 case atStart => exact ⟨0, 0, by omega, rfl, rfl, fun y hy => by simp at hy⟩
 case round =>
  obtain ⟨k, m, hk, rfl, rfl, HN⟩ := hrel
  have HBM : Hid (∀ q, Below w.heap.size w ((w.alloc (.cells #[.bool false, .slice none 0 0] 40)).drewN q)) := fun q => HBA.out.trans ((bel_drewN _ q).mono HBA.out.size)
  have HRM : Hid (∀ q, RowV ((w.alloc (.cells #[.bool false, .slice none 0 0] 40)).drewN q) w.heap.size 40 [.bool false, .slice none 0 0]) := fun q => RowV.below HRA.out HRA.out.lt (bel_drewN _ q)
  by_cases hlt : k < l.length
  ·have hltI : (k : Int) < l.length := by omega
   have hkn : k < es.length := by omega
   obtain ⟨b, o, hca, hbb, c0, c1⟩ := entsC_cells HV.out k hkn
   subst hca
   have d0 : ∀ q, ((w.alloc (.cells #[.bool false, .slice none 0 0] 40)).drewN q).cell? ⟨b, o + k * 2, none⟩ = some (.slice es[k].1.a es[k].1.n es[k].1.cap) := fun q => by rw [(HBM.out q).cell (p := ⟨b, o + k * 2, none⟩) hbb]; exact c0
   have d1 : ∀ q, ((w.alloc (.cells #[.bool false, .slice none 0 0] 40)).drewN q).cell? ⟨b, o + k * 2 + 1, none⟩ = some (.slice es[k].2.a es[k].2.n es[k].2.cap) := fun q => by rw [(HBM.out q).cell (p := ⟨b, o + k * 2 + 1, none⟩) hbb]; exact c1
   obtain ⟨p1, p2⟩ := HBS.out.2 k hkn hlt
   have e1 := fun q => bs_run p1 (HBM.out q)
   have e2 := fun q => bs_run HKK.out (HBM.out q)
   have HP2 : Hid (BS w es[k].2 l[k].more) := p2
   have HAT : Hid (l[k].key = key → findM key l = some l[k].more) := fun he => findM_at hlt HN.out he
   have HTK : Hid (l.take (k + 1) = l.take k ++ [l[k]]) := List.take_succ_eq_append_getElem hlt
   clear c0 c1 p1 p2
   generalize es[k].1 = s1 at *
   generalize es[k].2 = s2 at *
   generalize l[k] = x at *
   obtain ⟨xk, xm, xb⟩ := x
   simp only at e1 HP2 HAT
   have dd0 := d0 m
   have dd1 := d1 m
   by_cases hx : xk = key
   ·have HF : Hid (findM key l = some xm) := HAT.out hx
    have hbb1 : (xk == key) = true := by simpa using hx
    clear HAT hx
    go_wp2_with fail
    go_quiet (fail)
    have dq := d1 (m + nq)
    go_wp2_with (first
     | (refine wp_storeR (by rfl) 40 (.tmp 4) (.tmp 26) (by rfl) w.heap.size (by rfl) [.bool true, .slice s2.a s2.n s2.cap] (by rfl) (l := [.bool false, .slice none 0 0]) (HRM.out (m + nq)) rfl Try.sizeAnswer (ans_one true s2) ?_; intro w2 hr2 hf2 hz2))
    have hB2 : Below w.heap.size w w2 := (HBM.out (m + nq)).trans (Below.trans (b := _) (by exact Below.refl _ _) (hf2.below (HBM.out (m + nq)).size (fun k hk => by omega)))
    refine ret_agg (k := 4) (cs := [.bool true, .slice s2.a s2.n s2.cap]) rfl rfl hr2 Try.underlying40 rfl Try.sizeAnswer rfl ⟨s2, by rw [HF.out]; rfl, ?_, hB2⟩
    rw [HF.out]
    exact HP2.out.below hB2
   ·have hbb1 : (xk == key) = false := by simpa using hx
    have HNX : Hid (∀ y ∈ l.take (k + 1), y.key ≠ key) := fun y hy => by
     rw [HTK.out] at hy
     rcases List.mem_append.1 hy with hy | hy
     ·exact HN.out y hy
     ·rw [List.mem_singleton.1 hy]; exact hx
    clear HAT hx
    go_wp2_with fail
    go_quiet (fail)
    go_wp2
    refine ⟨⟨k + 1, m + nq, by omega, by go_num, rfl, HNX⟩, by simp [intOf]; omega⟩
  ·have hltI : ¬ (k : Int) < l.length := by omega
   have HF : Hid (findM key l = none) := findM_none (fun y hy => HN.out y (by rw [List.take_of_length_le (by omega)]; exact hy))
   go_wp2_with (first
    | (refine wp_storeR (by rfl) 40 (.tmp 4) (.tmp 27) (by rfl) w.heap.size (by rfl) [.bool false, .slice none 0 0] (by rfl) (l := [.bool false, .slice none 0 0]) (HRM.out m) rfl Try.sizeAnswer (ans_one false ⟨none, 0, 0⟩) ?_; intro w2 hr2 hf2 hz2))
   have hB2 : Below w.heap.size w w2 := (HBM.out m).trans (hf2.below (HBM.out m).size (fun k hk => by omega))
   refine ret_agg (k := 4) (cs := [.bool false, .slice none 0 0]) rfl rfl hr2 Try.underlying40 rfl Try.sizeAnswer rfl ⟨⟨none, 0, 0⟩, by rw [HF.out]; rfl, ?_, hB2⟩
   rw [HF.out]
   exact ⟨SlB.nil _ _, rfl, fun _ => rfl, fun x hx => by cases hx⟩
set_option maxRecDepth 100000 in
set_option maxHeartbeats 1600000 in
theorem same_answer (b1 b2 : Bool) (v1 v2 : SlR) (x1 x2 : List UInt8) (w : World) (h1 : BS w v1 x1) (h2 : BS w v2 x2) :
  Calls Try.prog 18 #[.agg #[.bool b1, v1.val], .agg #[.bool b2, v2.val]] w fun e w' => e = .returned (.bool ((b1 == b2) && (x1 == x2))) ∧ Below w.heap.size w w' := by
 have hB : Below w.heap.size w ((w.alloc (.cells #[.bool b1, .slice v1.a v1.n v1.cap] 40)).alloc (.cells #[.bool b2, .slice v2.a v2.n v2.cap] 40)) := ((Below.refl _ _).alloc (Nat.le_refl _) _).alloc (by simp) _
 have e1 := bs_run h1 hB
 have e2 := bs_run h2 hB
 have HB : Hid (Below w.heap.size w ((w.alloc (.cells #[.bool b1, .slice v1.a v1.n v1.cap] 40)).alloc (.cells #[.bool b2, .slice v2.a v2.n v2.cap] 40))) := hB
 clear h1 h2 hB
 unfold SlR.val
 by_cases hb : b1 = b2
 ·have hbb : (b1 == b2) = true := by simpa using hb
  clear hb
  go_enter Try.func18, Try.ntmps18
  go_wp2
  go_ret
  refine ⟨?_, HB.out⟩
  rw [hbb]
  simp
 ·have hbb : (b1 == b2) = false := by simpa using hb
  go_enter Try.func18, Try.ntmps18
  go_wp2
  go_ret
  refine ⟨?_, HB.out⟩
  rw [hbb]
  rfl
end Go.Proofs.Ytekegfbjbainhaa


namespace Go.Proofs.Ytekegfbjbainhaa
open Go.RowKit
attribute [local go_sem ↓] Go.wp_at_zero Go.wp_at_succ
end Go.Proofs.Ytekegfbjbainhaa


namespace Go.Proofs.Ytekegfbjbainhaa
open Go.RowKit
attribute [local go_sem ↓] Go.wp_at_zero Go.wp_at_succ
structure EntV (w : World) (s : SlR) (el : List (SlR × SlR)) (l : List ItR) : Prop where
 sl : SlV w s.a (entsC el)
 n : s.n = el.length
 bs : BsL w el l
end Go.Proofs.Ytekegfbjbainhaa


namespace Go.Proofs.Ytekegfbjbainhaa
open Go.RowKit
theorem next_places (level : Nat) : ∀ (ps : List (List ItR)) (i : Nat), (nextF level i ps).map (·.below) = List.range' i ps.length
 | [], i => by simp [nextF]
 | p :: r, i => by
  unfold nextF
  rw [List.map_cons, next_places level r (i + 1), List.length_cons, List.range'_succ]
theorem grownF_uniq : ∀ (f level : Nat) (l : List ItR) (n : Nat) (up : List (List ItR)), (grownF f level l)[n + 1]? = some up → (up.flatten.map (·.below)).Nodup
 | 0, level, l, n, up, h => by simp [grownF] at h
 | f + 1, level, l, n, up, h => by
  unfold grownF at h
  by_cases h1 : (partedN level l).length = 1
  ·rw [if_pos h1] at h
   simp at h
  ·rw [if_neg h1, List.getElem?_cons_succ] at h
   cases n with
   | succ n => exact grownF_uniq f (level + 1) _ n up h
   | zero =>
    cases f with
    | zero => simp [grownF] at h
    | succ f =>
     have hup : up = partedN (level + 1) (nextF level 0 (partedN level l)) := by
      unfold grownF at h
      split at h
      ·simpa using h.symm
      ·simpa using h.symm
     have e : up.flatten = nextF level 0 (partedN level l) := by rw [hup]; unfold partedN; rw [partF_flatten]; rfl
     rw [e, next_places]
     exact List.nodup_range'
def costF (lvls : List (List (List ItR))) (fr tu : List UInt8) (n : Nat) (js : List Nat) : Nat := (js.map (fun j => (rangeF lvls fr tu n (pageAt lvls n j)).length)).sum
def namedF (p : List ItR) (fr tu : List UInt8) : List Nat := (List.range p.length).flatMap (fun i => if withB p i fr tu = true then [belowAt p i] else [])
theorem named_sub (p : List ItR) (fr tu : List UInt8) : List.Sublist (namedF p fr tu) (p.map (·.below)) := by
 have h : ∀ k, k ≤ p.length → List.Sublist ((List.range k).flatMap (fun i => if withB p i fr tu = true then [belowAt p i] else [])) ((p.take k).map (·.below)) := fun k => by
  induction k with
  | zero => intro _; simp
  | succ k ih =>
   intro hk
   rw [List.range_succ, List.flatMap_append, List.take_succ_eq_append_getElem (by omega), List.map_append]
   refine List.Sublist.append (ih (by omega)) ?_
   have e : belowAt p k = p[k].below := by unfold belowAt; rw [List.getElem?_eq_getElem (by omega)]; rfl
   simp only [List.flatMap_cons, List.flatMap_nil, List.append_nil, List.map_cons, List.map_nil]
   split
   ·rw [e]; exact List.Sublist.refl _
   ·exact List.nil_sublist _
 have := h p.length (Nat.le_refl _)
 rw [List.take_length] at this
 exact this
theorem cost_named (lvls : List (List (List ItR))) (fr tu : List UInt8) (n : Nat) (p : List ItR) : (rangeF lvls fr tu (n + 1) p).length = (frameB (n + 1) p).length + costF lvls fr tu n (namedF p fr tu) := by
 rw [rangeF_succ, List.length_append]
 congr 1
 unfold behindF costF namedF
 rw [List.map_flatMap]
 generalize List.range p.length = r
 induction r with
 | nil => rfl
 | cons i r ih =>
  rw [List.flatMap_cons, List.flatMap_cons, List.length_append, List.sum_append, ih]
  congr 1
  split <;> simp
theorem cost_flat (lvls : List (List (List ItR))) (fr tu : List UInt8) (n : Nat) (js : List Nat) (f : Nat → List Nat) : costF lvls fr tu n (js.flatMap f) = (js.map (fun j => costF lvls fr tu n (f j))).sum := by
 unfold costF
 induction js with
 | nil => rfl
 | cons j js ih => rw [List.flatMap_cons, List.map_append, List.sum_append, ih]; rfl
theorem sum_bound (f : Nat → Nat) (B : Nat) (js : List Nat) (h : ∀ j ∈ js, f j ≤ B) : (js.map f).sum ≤ js.length * B := by
 induction js with
 | nil => simp
 | cons j js ih =>
  have h1 := h j (by simp)
  have h2 := ih (fun x hx => h x (by simp [hx]))
  rw [List.map_cons, List.sum_cons, List.length_cons, Nat.add_mul]
  omega
theorem nodup_lt_length : ∀ (N : Nat) (js : List Nat), js.Nodup → (∀ j ∈ js, j < N) → js.length ≤ N
 | 0, js, _, hlt => by
  cases js with
  | nil => simp
  | cons j js => exact absurd (hlt j (by simp)) (Nat.not_lt_zero _)
 | N + 1, js, h, hlt => by
  have ih := nodup_lt_length N (js.erase N) (h.erase N) (fun j hj => by
   have := (List.Nodup.mem_erase_iff h).1 hj
   have := hlt j this.2
   omega)
  have : js.length ≤ (js.erase N).length + 1 := by
   by_cases hm : N ∈ js
   ·rw [List.length_erase_of_mem hm]; omega
   ·rw [List.erase_of_not_mem hm]; omega
  omega
theorem cost_small {lvls : List (List (List ItR))} (hL : LvlsOk lvls) (hu : ∀ n up, lvls[n + 1]? = some up → (up.flatten.map (·.below)).Nodup) (fr tu : List UInt8) : ∀ (n : Nat) (ps : List (List ItR)) (js : List Nat), lvls[n]? = some ps → js.Nodup → (∀ j ∈ js, j < ps.length) → costF lvls fr tu n js ≤ (n + 1) * 97600
 | 0, ps, js, hp, hd, hj => by
  have h1 := nodup_lt_length ps.length js hd hj
  have h2 := hL.cnt 0 ps hp
  have h3 := sum_bound (fun j => (rangeF lvls fr tu 0 (pageAt lvls 0 j)).length) 1600 js (fun j _ => by
   have := pageAt_ok hL 0 j
   show (frameB 0 _).length ≤ 1600
   exact frameB_length 0 _ this.2.1 this.1)
  unfold costF
  have h4 : js.length * 1600 ≤ 61 * 1600 := Nat.mul_le_mul_right _ (by omega)
  exact Nat.le_trans h3 (Nat.le_trans h4 (by decide))
 | n + 1, ps, js, hp, hd, hj => by
  have h1 := nodup_lt_length ps.length js hd hj
  have h2 := hL.cnt (n + 1) ps hp
  have e : costF lvls fr tu (n + 1) js = (js.map (fun j => (frameB (n + 1) (pageAt lvls (n + 1) j)).length)).sum + costF lvls fr tu n (js.flatMap (fun j => namedF (pageAt lvls (n + 1) j) fr tu)) := by
   rw [cost_flat]
   unfold costF
   clear hd hj h1
   induction js with
   | nil => rfl
   | cons j js ih =>
    simp only [List.map_cons, List.sum_cons] at ih ⊢
    rw [ih, cost_named]
    unfold costF
    omega
  have h3 := sum_bound (fun j => (frameB (n + 1) (pageAt lvls (n + 1) j)).length) 1600 js (fun j _ => by
   have := pageAt_ok hL (n + 1) j
   exact frameB_length (n + 1) _ this.2.1 this.1)
  have h4 : js.length * 1600 ≤ 61 * 1600 := Nat.mul_le_mul_right _ (by omega)
  obtain ⟨qs, hq⟩ : ∃ qs, lvls[n]? = some qs := by
   have := (List.getElem?_eq_some_iff.1 hp).1
   exact ⟨_, List.getElem?_eq_getElem (by omega)⟩
  have hun := hu n ps hp
  have hpg : ∀ j, ∀ h : j < ps.length, pageAt lvls (n + 1) j = ps[j] := fun j h => by
   unfold pageAt
   rw [hp]
   simp [h]
  rw [List.map_flatten] at hun
  have hun' := List.pairwise_flatten.1 hun
  have hlt : ∀ x ∈ js.flatMap (fun j => namedF (pageAt lvls (n + 1) j) fr tu), x < qs.length := fun x hx => by
   obtain ⟨j, hjm, hx⟩ := List.mem_flatMap.1 hx
   have hjl := hj j hjm
   rw [hpg j hjl] at hx
   have := (named_sub _ fr tu).subset hx
   obtain ⟨y, hy, rfl⟩ := List.mem_map.1 this
   exact (hL.bel n qs ps hq hp _ (List.getElem_mem hjl) y hy).1
  have hnd : (js.flatMap (fun j => namedF (pageAt lvls (n + 1) j) fr tu)).Nodup := by
   unfold List.Nodup
   rw [List.flatMap_def, List.pairwise_flatten]
   refine ⟨fun l hl => ?_, ?_⟩
   ·obtain ⟨j, hjm, rfl⟩ := List.mem_map.1 hl
    have hjl := hj j hjm
    rw [hpg j hjl]
    exact List.Pairwise.sublist (named_sub _ fr tu) (hun'.1 _ (List.mem_map.2 ⟨_, List.getElem_mem hjl, rfl⟩))
   ·rw [List.pairwise_map]
    refine List.Pairwise.imp_of_mem ?_ hd
    intro a b ha hb hne x hx y hy
    have hal := hj a ha
    have hbl := hj b hb
    rw [hpg a hal] at hx
    rw [hpg b hbl] at hy
    have hx' := (named_sub _ fr tu).subset hx
    have hy' := (named_sub _ fr tu).subset hy
    have hpw := List.pairwise_iff_getElem.1 hun'.2
    rcases Nat.lt_or_gt_of_ne hne with h | h
    ·have := hpw a b (by simpa using hal) (by simpa using hbl) h
     simp only [List.getElem_map] at this
     exact this x hx' y hy'
    ·have := hpw b a (by simpa using hbl) (by simpa using hal) h
     simp only [List.getElem_map] at this
     exact fun e => this y hy' x hx' e.symm
  have ih := cost_small hL hu fr tu n qs _ hq hnd hlt
  rw [e]
  omega
theorem prf_short {p : List ItR} (h : PastR p) (fr tu : List UInt8) : (prfB p fr tu).length ≤ 1000000 := by
 have hL := grown_lv p h.1 h.2.1 h.2.2
 have e : rootPage p = pageAt (grownN p) (rootLevel p) 0 := by
  unfold rootPage pageAt rootLevel
  cases ((grownN p)[(grownN p).length - 1]?.getD []) <;> rfl
 have hg := grownF_length 7 0 p (by omega)
 have hlen : 1 ≤ (grownN p).length := hg.1
 obtain ⟨ps, hp⟩ : ∃ ps, (grownN p)[rootLevel p]? = some ps := ⟨_, List.getElem?_eq_getElem (by unfold rootLevel; omega)⟩
 have hl6 : rootLevel p ≤ 6 := by have := hL.len; unfold rootLevel; omega
 unfold prfB
 rw [e]
 by_cases h0 : 0 < ps.length
 ·have h1 := cost_small hL (fun n up => grownF_uniq 7 0 p n up) fr tu (rootLevel p) ps [0] hp (by simp) (by simpa using h0)
  have e2 : costF (grownN p) fr tu (rootLevel p) [0] = (rangeF (grownN p) fr tu (rootLevel p) (pageAt (grownN p) (rootLevel p) 0)).length := by simp [costF]
  rw [e2] at h1
  have : (rootLevel p + 1) * 97600 ≤ 7 * 97600 := Nat.mul_le_mul_right _ (by omega)
  omega
 ·have e3 : pageAt (grownN p) (rootLevel p) 0 = [] := by
   unfold pageAt
   rw [hp]
   have : ps = [] := List.length_eq_zero_iff.1 (by omega)
   simp [this]
  rw [e3]
  cases hr : rootLevel p with
  | zero => simp [rangeF, frameB, codeB]
  | succ n => simp [rangeF, frameB, codeB]
end Go.Proofs.Ytekegfbjbainhaa
