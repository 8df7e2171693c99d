import Derived.Test.YtekegfbjbainhaaKJoin24
import Derived.Test.YtekegfbjbainhaaKPrC15
import Derived.Test.YtekegfbjbainhaaKJoin22
import Derived.Test.YtekegfbjbainhaaKJoin15
set_option linter.unusedVariables false
set_option linter.unusedSimpArgs false

namespace Go.Proofs.Ytekegfbjbainhaa
open Go.RowKit
attribute [local go_sem ↓] Go.wp_at_zero Go.wp_at_succ
structure EntV (w : World) (s : SlR) (el : List (SlR × SlR)) (l : List ItR) : Prop where
 sl : SlV w s.a (entsC el)
 n : s.n = el.length
 bs : BsL w el l
theorem inR_succ (fr tu : List UInt8) {l : List ItR} {k : Nat} (hk : k < l.length) : (l.take (k + 1)).filter (inR fr tu) = (l.take k).filter (inR fr tu) ++ (if inR fr tu l[k] = true then [l[k]] else []) := by
 rw [List.take_succ_eq_append_getElem hk, List.filter_append]
 congr 1
 cases h : inR fr tu l[k] <;> simp [h]
theorem geq_eq (a b : List UInt8) : (Op.bytesLess b a || a == b) = !(Op.bytesLess a b) := by
 cases h : Op.bytesLess a b with
 | true =>
  have h1 := less_asymm h
  have h2 : (a == b) = false := by
   cases e : (a == b) with
   | false => rfl
   | true => rw [eq_of_beq e, less_irrefl] at h; cases h
  rw [h1, h2]; rfl
 | false =>
  by_cases e : a = b
  ·subst e; simp
  ·rw [less_total a b h e]; rfl
set_option maxRecDepth 100000 in
set_option maxHeartbeats 1600000 in
theorem between_any (lv sf st : SlR) (nes : List (SlR × SlR)) (its : List ItR) (fr tu : List UInt8) (w : World) (hv : EntV w lv nes its) (hF : BS w sf fr) (hT : BS w st tu) (hl : its.length ≤ 60) :
  Calls Try.prog 22 #[lv.val, sf.val, st.val] w fun e w' => ∃ (v : SlR) (es : List (SlR × SlR)), e = .returned v.val ∧ EntV w' v es (its.filter (inR fr tu)) ∧ Below w.heap.size w w' := by
 have HN : Hid (SlV w lv.a (entsC nes)) := hv.sl
 have HBS : Hid (BsL w nes its) := hv.bs
 have HFF : Hid (BS w sf fr) := hF
 have HTT : Hid (BS w st tu) := hT
 have hnl : nes.length = its.length := hv.bs.1
 have hlI : (its.length : Int) ≤ 60 := by omega
 obtain ⟨na', nn, nc⟩ := lv
 obtain rfl : nn = its.length := by rw [← hnl]; exact hv.n
 clear hv hF hT
 unfold SlR.val
 go_enter Try.func22, Try.ntmps22
 go_wp2
 go_loopw [7, 8] (fun lv i wr => ∃ (k : Nat) (v : SlR) (es : List (SlR × SlR)), k ≤ its.length ∧ i = .int .i64 (k : Int) ∧ lv = .slice v.a v.n v.cap ∧ Hid (Below w.heap.size w wr) ∧ Hid (wr.ownsRow w.heap.size 37 2 (.slice v.a v.n v.cap) es.length (entsC es)) ∧ Hid (BsL w es ((its.take k).filter (inR fr tu)))) (fun _ i _ => its.length - (intOf i).toNat)
 case atStart => exact ⟨0, ⟨none, 0, 0⟩, [], by omega, rfl, rfl, Below.refl _ _, World.ownsRow_nil _ _ _ _, BsL.nil _⟩
 case round =>
  obtain ⟨k, v, es, hk, rfl, rfl, HB, HO, HE⟩ := hrel
  have hkI : (k : Int) ≤ 60 := by omega
  by_cases hlt : k < its.length
  ·have hltI : (k : Int) < its.length := by omega
   have hkn : k < nes.length := by omega
   obtain ⟨b, o, hca, hbb, c0, c1⟩ := entsC_cells HN.out k hkn
   subst hca
   have d0 : wr.cell? ⟨b, o + k * 2, none⟩ = some (.slice nes[k].1.a nes[k].1.n nes[k].1.cap) := by rw [HB.out.cell (p := ⟨b, o + k * 2, none⟩) hbb]; exact c0
   have d1 : wr.cell? ⟨b, o + k * 2 + 1, none⟩ = some (.slice nes[k].2.a nes[k].2.n nes[k].2.cap) := by rw [HB.out.cell (p := ⟨b, o + k * 2 + 1, none⟩) hbb]; exact c1
   obtain ⟨p1, p2⟩ := HBS.out.2 k hkn hlt
   have HP1 : Hid (BS w nes[k].1 its[k].key) := p1
   have HP2 : Hid (BS w nes[k].2 its[k].more) := p2
   have hsucc := inR_succ fr tu hlt
   have HT : Hid _ := hsucc
   clear c0 c1 p1 p2 hsucc
   generalize nes[k].1 = s1 at *
   generalize nes[k].2 = s2 at *
   generalize its[k] = x at *
   obtain ⟨xk, xm, xb⟩ := x
   simp only at HP1 HP2
   have HEL : Hid (es.length ≤ 61) := (show es.length ≤ 61 by have h1 := HE.out.1; have h2 := List.length_filter_le (inR fr tu) (its.take k); rw [List.length_take] at h2; omega)
   have e1 := bs_run HP1.out HB.out
   have e2 := bs_run HFF.out HB.out
   have e3 := bs_run HTT.out HB.out
   have hge := geq_eq xk fr
   have HIN : Hid (inR fr tu ⟨xk, xm, xb⟩ = (!(Op.bytesLess xk fr) && Op.bytesLess xk tu)) := rfl
   cases hA : Op.bytesLess xk fr with
   | true =>
    have HT2 : Hid ((its.take (k + 1)).filter (inR fr tu) = (its.take k).filter (inR fr tu)) := by unfold Hid; rw [HT.out, HIN.out, hA]; simp
    rw [hA] at hge
    simp only [Bool.not_true] at hge
    have hg1 : Op.bytesLess fr xk = false := less_asymm hA
    have hg2 : (xk == fr) = false := by rw [hg1, Bool.false_or] at hge; exact hge
    have hg3 : ¬ xk = fr := by simpa using hg2
    go_wp2
    refine ⟨⟨k + 1, v, es, by omega, by go_num, rfl, HB, HO, by unfold Hid; rw [HT2.out]; exact HE.out⟩, by simp [intOf]; omega⟩
   | false =>
    rw [hA] at hge
    simp only [Bool.not_false] at hge
    cases hBt : Op.bytesLess xk tu with
    | false =>
     have HT2 : Hid ((its.take (k + 1)).filter (inR fr tu) = (its.take k).filter (inR fr tu)) := by unfold Hid; rw [HT.out, HIN.out, hA, hBt]; simp
     go_wp2
     refine ⟨⟨k + 1, v, es, by omega, by go_num, rfl, HB, HO, by unfold Hid; rw [HT2.out]; exact HE.out⟩, by simp [intOf]; omega⟩
    | true =>
     have HT2 : Hid ((its.take (k + 1)).filter (inR fr tu) = (its.take k).filter (inR fr tu) ++ [⟨xk, xm, xb⟩]) := by unfold Hid; rw [HT.out, HIN.out, hA, hBt]; simp
     go_wp2_with (first
      | (at_builtin; have HBe4 : Hid (Below wr.heap.size wr (wr.alloc (.cells #[.slice s1.a s1.n s1.cap, .slice s2.a s2.n s2.cap] 37))) := (Below.refl _ _).alloc (Nat.le_refl _) _; refine wp_appendV (by rfl) (.tmp 32) (.tmp 37) 27 (by rfl) w.heap.size 37 _ 2 48 Try.underlying27 Try.infoEnt rfl (by decide) (.slice v.a v.n v.cap) es.length (entsC es) (by rfl) (owns_below HO.out HBe4.out) (some ⟨wr.heap.size, 0, none⟩) 1 1 (entsC [(s1, s2)]) (by rfl) rfl (by have h := SlV.alloc_new wr (entsC [(s1, s2)]) 37; (try simp only [World.size_alloc] at h); exact h) (fun h => by cases h) (entsC_one _) (by have := HEL.out; unfold maxLen; omega) (by have := HEL.out; omega) (Nat.le_trans HB.out.size HBe4.out.size) ?_; intro v4 w4 ho4 hf4 hat4; obtain ⟨a4, c4, hv4, _⟩ := owns_form ho4; subst hv4; have HB4 : Hid (Below w.heap.size w w4) := (HB.out.trans (HBe4.out.mono HB.out.size)).trans (hf4.below (Nat.le_trans HB.out.size HBe4.out.size) (fun q hq => (World.ownsRow.lt HO.out q hq).1)); have HO4 : Hid (w4.ownsRow w.heap.size 37 2 (.slice a4 (es.length + 1) c4) (es ++ [(s1, s2)]).length (entsC (es ++ [(s1, s2)]))) := by { unfold Hid; rw [entsC_append, show (es ++ [(s1, s2)]).length = es.length + 1 from List.length_append]; exact ho4 }))
     refine ⟨⟨k + 1, ⟨a4, es.length + 1, c4⟩, es ++ [(s1, s2)], by omega, by go_num, rfl, HB4, HO4, ?_⟩, by simp [intOf]; omega⟩
     unfold Hid; rw [HT2.out]; exact HE.out.push HP1.out HP2.out
  ·have hltI : ¬ (k : Int) < its.length := by omega
   obtain rfl : k = its.length := by omega
   go_wp2
   go_ret
   have hE := HE.out
   rw [List.take_length] at hE
   obtain ⟨q1, q2⟩ := SlV.ofOwn (s := v) HO.out
   exact ⟨v, rfl, ⟨es, ⟨q1, q2, hE.below HB.out⟩⟩, HB.out⟩
theorem bs_string {w : World} {s : SlR} {l : List UInt8} (h : BS w s l) (q : Nat) : (convert 35 9 (.slice s.a s.n s.cap)).run Try.prog (w.drewN q) = .ok (.string ⟨l.toArray⟩) (w.drewN q) :=
 run_string_SlB (P := Try.prog) _ 35 9 5 s.a s.n s.cap _ Try.underlying35 Try.underlying5 Try.underlying9 h.n h.sl h.nil
end Go.Proofs.Ytekegfbjbainhaa


namespace Go.Proofs.Ytekegfbjbainhaa
open Go.RowKit
theorem next_places (level : Nat) : ∀ (ps : List (List ItR)) (i : Nat), (nextF level i ps).map (·.below) = List.range' i ps.length
 | [], i => by simp [nextF]
 | p :: r, i => by
  unfold nextF
  rw [List.map_cons, next_places level r (i + 1), List.length_cons, List.range'_succ]
theorem grownF_uniq : ∀ (f level : Nat) (l : List ItR) (n : Nat) (up : List (List ItR)), (grownF f level l)[n + 1]? = some up → (up.flatten.map (·.below)).Nodup
 | 0, level, l, n, up, h => by simp [grownF] at h
 | f + 1, level, l, n, up, h => by
  unfold grownF at h
  by_cases h1 : (partedN level l).length = 1
  ·rw [if_pos h1] at h
   simp at h
  ·rw [if_neg h1, List.getElem?_cons_succ] at h
   cases n with
   | succ n => exact grownF_uniq f (level + 1) _ n up h
   | zero =>
    cases f with
    | zero => simp [grownF] at h
    | succ f =>
     have hup : up = partedN (level + 1) (nextF level 0 (partedN level l)) := by
      unfold grownF at h
      split at h
      ·simpa using h.symm
      ·simpa using h.symm
     have e : up.flatten = nextF level 0 (partedN level l) := by rw [hup]; unfold partedN; rw [partF_flatten]; rfl
     rw [e, next_places]
     exact List.nodup_range'
def costF (lvls : List (List (List ItR))) (fr tu : List UInt8) (n : Nat) (js : List Nat) : Nat := (js.map (fun j => (rangeF lvls fr tu n (pageAt lvls n j)).length)).sum
def namedF (p : List ItR) (fr tu : List UInt8) : List Nat := (List.range p.length).flatMap (fun i => if withB p i fr tu = true then [belowAt p i] else [])
theorem named_sub (p : List ItR) (fr tu : List UInt8) : List.Sublist (namedF p fr tu) (p.map (·.below)) := by
 have h : ∀ k, k ≤ p.length → List.Sublist ((List.range k).flatMap (fun i => if withB p i fr tu = true then [belowAt p i] else [])) ((p.take k).map (·.below)) := fun k => by
  induction k with
  | zero => intro _; simp
  | succ k ih =>
   intro hk
   rw [List.range_succ, List.flatMap_append, List.take_succ_eq_append_getElem (by omega), List.map_append]
   refine List.Sublist.append (ih (by omega)) ?_
   have e : belowAt p k = p[k].below := by unfold belowAt; rw [List.getElem?_eq_getElem (by omega)]; rfl
   simp only [List.flatMap_cons, List.flatMap_nil, List.append_nil, List.map_cons, List.map_nil]
   split
   ·rw [e]; exact List.Sublist.refl _
   ·exact List.nil_sublist _
 have := h p.length (Nat.le_refl _)
 rw [List.take_length] at this
 exact this
theorem cost_named (lvls : List (List (List ItR))) (fr tu : List UInt8) (n : Nat) (p : List ItR) : (rangeF lvls fr tu (n + 1) p).length = (frameB (n + 1) p).length + costF lvls fr tu n (namedF p fr tu) := by
 rw [rangeF_succ, List.length_append]
 congr 1
 unfold behindF costF namedF
 rw [List.map_flatMap]
 generalize List.range p.length = r
 induction r with
 | nil => rfl
 | cons i r ih =>
  rw [List.flatMap_cons, List.flatMap_cons, List.length_append, List.sum_append, ih]
  congr 1
  split <;> simp
theorem cost_flat (lvls : List (List (List ItR))) (fr tu : List UInt8) (n : Nat) (js : List Nat) (f : Nat → List Nat) : costF lvls fr tu n (js.flatMap f) = (js.map (fun j => costF lvls fr tu n (f j))).sum := by
 unfold costF
 induction js with
 | nil => rfl
 | cons j js ih => rw [List.flatMap_cons, List.map_append, List.sum_append, ih]; rfl
theorem sum_bound (f : Nat → Nat) (B : Nat) (js : List Nat) (h : ∀ j ∈ js, f j ≤ B) : (js.map f).sum ≤ js.length * B := by
 induction js with
 | nil => simp
 | cons j js ih =>
  have h1 := h j (by simp)
  have h2 := ih (fun x hx => h x (by simp [hx]))
  rw [List.map_cons, List.sum_cons, List.length_cons, Nat.add_mul]
  omega
theorem nodup_lt_length : ∀ (N : Nat) (js : List Nat), js.Nodup → (∀ j ∈ js, j < N) → js.length ≤ N
 | 0, js, _, hlt => by
  cases js with
  | nil => simp
  | cons j js => exact absurd (hlt j (by simp)) (Nat.not_lt_zero _)
 | N + 1, js, h, hlt => by
  have ih := nodup_lt_length N (js.erase N) (h.erase N) (fun j hj => by
   have := (List.Nodup.mem_erase_iff h).1 hj
   have := hlt j this.2
   omega)
  have : js.length ≤ (js.erase N).length + 1 := by
   by_cases hm : N ∈ js
   ·rw [List.length_erase_of_mem hm]; omega
   ·rw [List.erase_of_not_mem hm]; omega
  omega
theorem cost_small {lvls : List (List (List ItR))} (hL : LvlsOk lvls) (hu : ∀ n up, lvls[n + 1]? = some up → (up.flatten.map (·.below)).Nodup) (fr tu : List UInt8) : ∀ (n : Nat) (ps : List (List ItR)) (js : List Nat), lvls[n]? = some ps → js.Nodup → (∀ j ∈ js, j < ps.length) → costF lvls fr tu n js ≤ (n + 1) * 97600
 | 0, ps, js, hp, hd, hj => by
  have h1 := nodup_lt_length ps.length js hd hj
  have h2 := hL.cnt 0 ps hp
  have h3 := sum_bound (fun j => (rangeF lvls fr tu 0 (pageAt lvls 0 j)).length) 1600 js (fun j _ => by
   have := pageAt_ok hL 0 j
   show (frameB 0 _).length ≤ 1600
   exact frameB_length 0 _ this.2.1 this.1)
  unfold costF
  have h4 : js.length * 1600 ≤ 61 * 1600 := Nat.mul_le_mul_right _ (by omega)
  exact Nat.le_trans h3 (Nat.le_trans h4 (by decide))
 | n + 1, ps, js, hp, hd, hj => by
  have h1 := nodup_lt_length ps.length js hd hj
  have h2 := hL.cnt (n + 1) ps hp
  have e : costF lvls fr tu (n + 1) js = (js.map (fun j => (frameB (n + 1) (pageAt lvls (n + 1) j)).length)).sum + costF lvls fr tu n (js.flatMap (fun j => namedF (pageAt lvls (n + 1) j) fr tu)) := by
   rw [cost_flat]
   unfold costF
   clear hd hj h1
   induction js with
   | nil => rfl
   | cons j js ih =>
    simp only [List.map_cons, List.sum_cons] at ih ⊢
    rw [ih, cost_named]
    unfold costF
    omega
  have h3 := sum_bound (fun j => (frameB (n + 1) (pageAt lvls (n + 1) j)).length) 1600 js (fun j _ => by
   have := pageAt_ok hL (n + 1) j
   exact frameB_length (n + 1) _ this.2.1 this.1)
  have h4 : js.length * 1600 ≤ 61 * 1600 := Nat.mul_le_mul_right _ (by omega)
  obtain ⟨qs, hq⟩ : ∃ qs, lvls[n]? = some qs := by
   have := (List.getElem?_eq_some_iff.1 hp).1
   exact ⟨_, List.getElem?_eq_getElem (by omega)⟩
  have hun := hu n ps hp
  have hpg : ∀ j, ∀ h : j < ps.length, pageAt lvls (n + 1) j = ps[j] := fun j h => by
   unfold pageAt
   rw [hp]
   simp [h]
  rw [List.map_flatten] at hun
  have hun' := List.pairwise_flatten.1 hun
  have hlt : ∀ x ∈ js.flatMap (fun j => namedF (pageAt lvls (n + 1) j) fr tu), x < qs.length := fun x hx => by
   obtain ⟨j, hjm, hx⟩ := List.mem_flatMap.1 hx
   have hjl := hj j hjm
   rw [hpg j hjl] at hx
   have := (named_sub _ fr tu).subset hx
   obtain ⟨y, hy, rfl⟩ := List.mem_map.1 this
   exact (hL.bel n qs ps hq hp _ (List.getElem_mem hjl) y hy).1
  have hnd : (js.flatMap (fun j => namedF (pageAt lvls (n + 1) j) fr tu)).Nodup := by
   unfold List.Nodup
   rw [List.flatMap_def, List.pairwise_flatten]
   refine ⟨fun l hl => ?_, ?_⟩
   ·obtain ⟨j, hjm, rfl⟩ := List.mem_map.1 hl
    have hjl := hj j hjm
    rw [hpg j hjl]
    exact List.Pairwise.sublist (named_sub _ fr tu) (hun'.1 _ (List.mem_map.2 ⟨_, List.getElem_mem hjl, rfl⟩))
   ·rw [List.pairwise_map]
    refine List.Pairwise.imp_of_mem ?_ hd
    intro a b ha hb hne x hx y hy
    have hal := hj a ha
    have hbl := hj b hb
    rw [hpg a hal] at hx
    rw [hpg b hbl] at hy
    have hx' := (named_sub _ fr tu).subset hx
    have hy' := (named_sub _ fr tu).subset hy
    have hpw := List.pairwise_iff_getElem.1 hun'.2
    rcases Nat.lt_or_gt_of_ne hne with h | h
    ·have := hpw a b (by simpa using hal) (by simpa using hbl) h
     simp only [List.getElem_map] at this
     exact this x hx' y hy'
    ·have := hpw b a (by simpa using hbl) (by simpa using hal) h
     simp only [List.getElem_map] at this
     exact fun e => this y hy' x hx' e.symm
  have ih := cost_small hL hu fr tu n qs _ hq hnd hlt
  rw [e]
  omega
theorem prf_short {p : List ItR} (h : PastR p) (fr tu : List UInt8) : (prfB p fr tu).length ≤ 1000000 := by
 have hL := grown_lv p h.1 h.2.1 h.2.2
 have e : rootPage p = pageAt (grownN p) (rootLevel p) 0 := by
  unfold rootPage pageAt rootLevel
  cases ((grownN p)[(grownN p).length - 1]?.getD []) <;> rfl
 have hg := grownF_length 7 0 p (by omega)
 have hlen : 1 ≤ (grownN p).length := hg.1
 obtain ⟨ps, hp⟩ : ∃ ps, (grownN p)[rootLevel p]? = some ps := ⟨_, List.getElem?_eq_getElem (by unfold rootLevel; omega)⟩
 have hl6 : rootLevel p ≤ 6 := by have := hL.len; unfold rootLevel; omega
 unfold prfB
 rw [e]
 by_cases h0 : 0 < ps.length
 ·have h1 := cost_small hL (fun n up => grownF_uniq 7 0 p n up) fr tu (rootLevel p) ps [0] hp (by simp) (by simpa using h0)
  have e2 : costF (grownN p) fr tu (rootLevel p) [0] = (rangeF (grownN p) fr tu (rootLevel p) (pageAt (grownN p) (rootLevel p) 0)).length := by simp [costF]
  rw [e2] at h1
  have : (rootLevel p + 1) * 97600 ≤ 7 * 97600 := Nat.mul_le_mul_right _ (by omega)
  omega
 ·have e3 : pageAt (grownN p) (rootLevel p) 0 = [] := by
   unfold pageAt
   rw [hp]
   have : ps = [] := List.length_eq_zero_iff.1 (by omega)
   simp [this]
  rw [e3]
  cases hr : rootLevel p with
  | zero => simp [rangeF, frameB, codeB]
  | succ n => simp [rangeF, frameB, codeB]
end Go.Proofs.Ytekegfbjbainhaa
