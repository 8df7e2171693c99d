import Derived.Test.YtekegfbjbainhaaKJoin24
import Derived.Test.YtekegfbjbainhaaKPrC15
import Derived.Test.YtekegfbjbainhaaKJoin20
import Derived.Test.YtekegfbjbainhaaKJoin14
import Derived.Test.YtekegfbjbainhaaKJoin18
import Derived.Test.YtekegfbjbainhaaKJoin21
set_option linter.unusedVariables false
set_option linter.unusedSimpArgs false

namespace Go.Proofs.Ytekegfbjbainhaa
open Go.RowKit
attribute [local go_sem ↓] Go.wp_at_zero Go.wp_at_succ
structure EntV (w : World) (s : SlR) (el : List (SlR × SlR)) (l : List ItR) : Prop where
 sl : SlV w s.a (entsC el)
 n : s.n = el.length
 bs : BsL w el l
theorem inR_succ (fr tu : List UInt8) {l : List ItR} {k : Nat} (hk : k < l.length) : (l.take (k + 1)).filter (inR fr tu) = (l.take k).filter (inR fr tu) ++ (if inR fr tu l[k] = true then [l[k]] else []) := by
 rw [List.take_succ_eq_append_getElem hk, List.filter_append]
 congr 1
 cases h : inR fr tu l[k] <;> simp [h]
theorem geq_eq (a b : List UInt8) : (Op.bytesLess b a || a == b) = !(Op.bytesLess a b) := by
 cases h : Op.bytesLess a b with
 | true =>
  have h1 := less_asymm h
  have h2 : (a == b) = false := by
   cases e : (a == b) with
   | false => rfl
   | true => rw [eq_of_beq e, less_irrefl] at h; cases h
  rw [h1, h2]; rfl
 | false =>
  by_cases e : a = b
  ·subst e; simp
  ·rw [less_total a b h e]; rfl
set_option maxRecDepth 100000 in
set_option maxHeartbeats 1600000 in
theorem between_any (lv sf st : SlR) (nes : List (SlR × SlR)) (its : List ItR) (fr tu : List UInt8) (w : World) (hv : EntV w lv nes its) (hF : BS w sf fr) (hT : BS w st tu) (hl : its.length ≤ 60) :
  Calls Try.prog 22 #[lv.val, sf.val, st.val] w fun e w' => ∃ (v : SlR) (es : List (SlR × SlR)), e = .returned v.val ∧ EntV w' v es (its.filter (inR fr tu)) ∧ Below w.heap.size w w' := by
 have HN : Hid (SlV w lv.a (entsC nes)) := hv.sl
 have HBS : Hid (BsL w nes its) := hv.bs
 have HFF : Hid (BS w sf fr) := hF
 have HTT : Hid (BS w st tu) := hT
 have hnl : nes.length = its.length := hv.bs.1
 have hlI : (its.length : Int) ≤ 60 := by omega
 obtain ⟨na', nn, nc⟩ := lv
 obtain rfl : nn = its.length := by rw [← hnl]; exact hv.n
 clear hv hF hT
 unfold SlR.val
 go_enter Try.func22, Try.ntmps22
 go_wp2
 go_loopw [7, 8] (fun lv i wr => ∃ (k : Nat) (v : SlR) (es : List (SlR × SlR)), k ≤ its.length ∧ i = .int .i64 (k : Int) ∧ lv = .slice v.a v.n v.cap ∧ Hid (Below w.heap.size w wr) ∧ Hid (wr.ownsRow w.heap.size 37 2 (.slice v.a v.n v.cap) es.length (entsC es)) ∧ Hid (BsL w es ((its.take k).filter (inR fr tu)))) (fun _ i _ => its.length - (intOf i).toNat)
 case atStart => exact ⟨0, ⟨none, 0, 0⟩, [], by omega, rfl, rfl, Below.refl _ _, World.ownsRow_nil _ _ _ _, BsL.nil _⟩
 case round =>
  obtain ⟨k, v, es, hk, rfl, rfl, HB, HO, HE⟩ := hrel
  have hkI : (k : Int) ≤ 60 := by omega
  by_cases hlt : k < its.length
  ·have hltI : (k : Int) < its.length := by omega
   have hkn : k < nes.length := by omega
   obtain ⟨b, o, hca, hbb, c0, c1⟩ := entsC_cells HN.out k hkn
   subst hca
   have d0 : wr.cell? ⟨b, o + k * 2, none⟩ = some (.slice nes[k].1.a nes[k].1.n nes[k].1.cap) := by rw [HB.out.cell (p := ⟨b, o + k * 2, none⟩) hbb]; exact c0
   have d1 : wr.cell? ⟨b, o + k * 2 + 1, none⟩ = some (.slice nes[k].2.a nes[k].2.n nes[k].2.cap) := by rw [HB.out.cell (p := ⟨b, o + k * 2 + 1, none⟩) hbb]; exact c1
   obtain ⟨p1, p2⟩ := HBS.out.2 k hkn hlt
   have HP1 : Hid (BS w nes[k].1 its[k].key) := p1
   have HP2 : Hid (BS w nes[k].2 its[k].more) := p2
   have hsucc := inR_succ fr tu hlt
   have HT : Hid _ := hsucc
   clear c0 c1 p1 p2 hsucc
   generalize nes[k].1 = s1 at *
   generalize nes[k].2 = s2 at *
   generalize its[k] = x at *
   obtain ⟨xk, xm, xb⟩ := x
   simp only at HP1 HP2
   have HEL : Hid (es.length ≤ 61) := (show es.length ≤ 61 by have h1 := HE.out.1; have h2 := List.length_filter_le (inR fr tu) (its.take k); rw [List.length_take] at h2; omega)
   have e1 := bs_run HP1.out HB.out
   have e2 := bs_run HFF.out HB.out
   have e3 := bs_run HTT.out HB.out
   have hge := geq_eq xk fr
   have HIN : Hid (inR fr tu ⟨xk, xm, xb⟩ = (!(Op.bytesLess xk fr) && Op.bytesLess xk tu)) := rfl
   cases hA : Op.bytesLess xk fr with
   | true =>
    have HT2 : Hid ((its.take (k + 1)).filter (inR fr tu) = (its.take k).filter (inR fr tu)) := by unfold Hid; rw [HT.out, HIN.out, hA]; simp
    rw [hA] at hge
    simp only [Bool.not_true] at hge
    have hg1 : Op.bytesLess fr xk = false := less_asymm hA
    have hg2 : (xk == fr) = false := by rw [hg1, Bool.false_or] at hge; exact hge
    have hg3 : ¬ xk = fr := by simpa using hg2
    go_wp2
    refine ⟨⟨k + 1, v, es, by omega, by go_num, rfl, HB, HO, by unfold Hid; rw [HT2.out]; exact HE.out⟩, by simp [intOf]; omega⟩
   | false =>
    rw [hA] at hge
    simp only [Bool.not_false] at hge
    cases hBt : Op.bytesLess xk tu with
    | false =>
     have HT2 : Hid ((its.take (k + 1)).filter (inR fr tu) = (its.take k).filter (inR fr tu)) := by unfold Hid; rw [HT.out, HIN.out, hA, hBt]; simp
     go_wp2
     refine ⟨⟨k + 1, v, es, by omega, by go_num, rfl, HB, HO, by unfold Hid; rw [HT2.out]; exact HE.out⟩, by simp [intOf]; omega⟩
    | true =>
     have HT2 : Hid ((its.take (k + 1)).filter (inR fr tu) = (its.take k).filter (inR fr tu) ++ [⟨xk, xm, xb⟩]) := by unfold Hid; rw [HT.out, HIN.out, hA, hBt]; simp
     go_wp2_with (first
      | (at_builtin; have HBe4 : Hid (Below wr.heap.size wr (wr.alloc (.cells #[.slice s1.a s1.n s1.cap, .slice s2.a s2.n s2.cap] 37))) := (Below.refl _ _).alloc (Nat.le_refl _) _; refine wp_appendV (by rfl) (.tmp 32) (.tmp 37) 27 (by rfl) w.heap.size 37 _ 2 48 Try.underlying27 Try.infoEnt rfl (by decide) (.slice v.a v.n v.cap) es.length (entsC es) (by rfl) (owns_below HO.out HBe4.out) (some ⟨wr.heap.size, 0, none⟩) 1 1 (entsC [(s1, s2)]) (by rfl) rfl (by have h := SlV.alloc_new wr (entsC [(s1, s2)]) 37; (try simp only [World.size_alloc] at h); exact h) (fun h => by cases h) (entsC_one _) (by have := HEL.out; unfold maxLen; omega) (by have := HEL.out; omega) (Nat.le_trans HB.out.size HBe4.out.size) ?_; intro v4 w4 ho4 hf4 hat4; obtain ⟨a4, c4, hv4, _⟩ := owns_form ho4; subst hv4; have HB4 : Hid (Below w.heap.size w w4) := (HB.out.trans (HBe4.out.mono HB.out.size)).trans (hf4.below (Nat.le_trans HB.out.size HBe4.out.size) (fun q hq => (World.ownsRow.lt HO.out q hq).1)); have HO4 : Hid (w4.ownsRow w.heap.size 37 2 (.slice a4 (es.length + 1) c4) (es ++ [(s1, s2)]).length (entsC (es ++ [(s1, s2)]))) := by { unfold Hid; rw [entsC_append, show (es ++ [(s1, s2)]).length = es.length + 1 from List.length_append]; exact ho4 }))
     refine ⟨⟨k + 1, ⟨a4, es.length + 1, c4⟩, es ++ [(s1, s2)], by omega, by go_num, rfl, HB4, HO4, ?_⟩, by simp [intOf]; omega⟩
     unfold Hid; rw [HT2.out]; exact HE.out.push HP1.out HP2.out
  ·have hltI : ¬ (k : Int) < its.length := by omega
   obtain rfl : k = its.length := by omega
   go_wp2
   go_ret
   have hE := HE.out
   rw [List.take_length] at hE
   obtain ⟨q1, q2⟩ := SlV.ofOwn (s := v) HO.out
   exact ⟨v, rfl, ⟨es, ⟨q1, q2, hE.below HB.out⟩⟩, HB.out⟩
theorem bs_string {w : World} {s : SlR} {l : List UInt8} (h : BS w s l) (q : Nat) : (convert 35 9 (.slice s.a s.n s.cap)).run Try.prog (w.drewN q) = .ok (.string ⟨l.toArray⟩) (w.drewN q) :=
 run_string_SlB (P := Try.prog) _ 35 9 5 s.a s.n s.cap _ Try.underlying35 Try.underlying5 Try.underlying9 h.n h.sl h.nil
set_option maxRecDepth 100000 in
set_option maxHeartbeats 2000000 in
theorem same_entries (sa sb : SlR) (ea eb : List (SlR × SlR)) (l : List ItR) (w : World) (ha : EntV w sa ea l) (hb : EntV w sb eb l) (hl : l.length ≤ 1000000000) :
  Calls Try.prog 21 #[sa.val, sb.val] w fun e w' => e = .returned (.bool true) ∧ ∃ m, w' = w.drewN m := by
 have hna : sa.n = l.length := by rw [ha.n, ha.bs.1]
 have hnb : sb.n = l.length := by rw [hb.n, hb.bs.1]
 have HA : Hid (EntV w sa ea l) := ha
 have HB : Hid (EntV w sb eb l) := hb
 have HLA : Hid (ea.length = l.length ∧ eb.length = l.length) := ⟨ha.bs.1, hb.bs.1⟩
 have hlI : (l.length : Int) ≤ 1000000000 := by omega
 clear ha hb
 obtain ⟨aa, an, ac⟩ := sa
 obtain ⟨ba, bn, bc⟩ := sb
 unfold SlR.val
 simp only at hna hnb ⊢
 subst hna hnb
 go_enter Try.func21, Try.ntmps21
 go_wp2_with fail
 go_loopw [5] (fun i wr => ∃ k m : Nat, k ≤ l.length ∧ i = .int .i64 k ∧ wr = w.drewN m) (fun i _ => l.length - (intOf i).toNat)
 case atStart => exact ⟨0, 0, by omega, rfl, rfl⟩
 case round =>
  obtain ⟨k, m, hk, rfl, rfl⟩ := hrel
  by_cases hlt : k < l.length
  ·have hltI : (k : Int) < l.length := by omega
   have hka : k < ea.length := by have := HLA.out; omega
   have hkb : k < eb.length := by have := HLA.out; omega
   obtain ⟨b, o, hca, hbb, c0, c1⟩ := entsC_cells HA.out.sl k hka
   obtain ⟨b', o', hca', hbb', c0', c1'⟩ := entsC_cells HB.out.sl k hkb
   obtain ⟨p1, p2⟩ := HA.out.bs.2 k hka hlt
   obtain ⟨p3, p4⟩ := HB.out.bs.2 k hkb hlt
   have r1 := fun q => bs_string p1 q
   have r2 := fun q => bs_string p2 q
   have r3 := fun q => bs_string p3 q
   have r4 := fun q => bs_string p4 q
   subst hca hca'
   have d0 : w.cell? ⟨b, o + k * 2, none⟩ = some (.slice ea[k].1.a ea[k].1.n ea[k].1.cap) := c0
   have d1 : w.cell? ⟨b, o + k * 2 + 1, none⟩ = some (.slice ea[k].2.a ea[k].2.n ea[k].2.cap) := c1
   have d2 : w.cell? ⟨b', o' + k * 2, none⟩ = some (.slice eb[k].1.a eb[k].1.n eb[k].1.cap) := c0'
   have d3 : w.cell? ⟨b', o' + k * 2 + 1, none⟩ = some (.slice eb[k].2.a eb[k].2.n eb[k].2.cap) := c1'
   clear c0 c1 c0' c1' p1 p2 p3 p4
   generalize ea[k].1 = s1 at *
   generalize ea[k].2 = s2 at *
   generalize eb[k].1 = s3 at *
   generalize eb[k].2 = s4 at *
   generalize l[k].key = x1 at *
   generalize l[k].more = x2 at *
   go_wp2_with fail
   go_quiet (fail)
   go_wp2
   refine ⟨⟨k + 1, m + nq, by omega, by go_num, rfl⟩, by simp [intOf]; omega⟩
  ·have hltI : ¬ (k : Int) < l.length := by omega
   go_wp2
   go_ret
   exact ⟨rfl, m, rfl⟩
end Go.Proofs.Ytekegfbjbainhaa


namespace Go.Proofs.Ytekegfbjbainhaa
open Go.RowKit
theorem next_places (level : Nat) : ∀ (ps : List (List ItR)) (i : Nat), (nextF level i ps).map (·.below) = List.range' i ps.length
 | [], i => by simp [nextF]
 | p :: r, i => by
  unfold nextF
  rw [List.map_cons, next_places level r (i + 1), List.length_cons, List.range'_succ]
theorem grownF_uniq : ∀ (f level : Nat) (l : List ItR) (n : Nat) (up : List (List ItR)), (grownF f level l)[n + 1]? = some up → (up.flatten.map (·.below)).Nodup
 | 0, level, l, n, up, h => by simp [grownF] at h
 | f + 1, level, l, n, up, h => by
  unfold grownF at h
  by_cases h1 : (partedN level l).length = 1
  ·rw [if_pos h1] at h
   simp at h
  ·rw [if_neg h1, List.getElem?_cons_succ] at h
   cases n with
   | succ n => exact grownF_uniq f (level + 1) _ n up h
   | zero =>
    cases f with
    | zero => simp [grownF] at h
    | succ f =>
     have hup : up = partedN (level + 1) (nextF level 0 (partedN level l)) := by
      unfold grownF at h
      split at h
      ·simpa using h.symm
      ·simpa using h.symm
     have e : up.flatten = nextF level 0 (partedN level l) := by rw [hup]; unfold partedN; rw [partF_flatten]; rfl
     rw [e, next_places]
     exact List.nodup_range'
def costF (lvls : List (List (List ItR))) (fr tu : List UInt8) (n : Nat) (js : List Nat) : Nat := (js.map (fun j => (rangeF lvls fr tu n (pageAt lvls n j)).length)).sum
def namedF (p : List ItR) (fr tu : List UInt8) : List Nat := (List.range p.length).flatMap (fun i => if withB p i fr tu = true then [belowAt p i] else [])
theorem named_sub (p : List ItR) (fr tu : List UInt8) : List.Sublist (namedF p fr tu) (p.map (·.below)) := by
 have h : ∀ k, k ≤ p.length → List.Sublist ((List.range k).flatMap (fun i => if withB p i fr tu = true then [belowAt p i] else [])) ((p.take k).map (·.below)) := fun k => by
  induction k with
  | zero => intro _; simp
  | succ k ih =>
   intro hk
   rw [List.range_succ, List.flatMap_append, List.take_succ_eq_append_getElem (by omega), List.map_append]
   refine List.Sublist.append (ih (by omega)) ?_
   have e : belowAt p k = p[k].below := by unfold belowAt; rw [List.getElem?_eq_getElem (by omega)]; rfl
   simp only [List.flatMap_cons, List.flatMap_nil, List.append_nil, List.map_cons, List.map_nil]
   split
   ·rw [e]; exact List.Sublist.refl _
   ·exact List.nil_sublist _
 have := h p.length (Nat.le_refl _)
 rw [List.take_length] at this
 exact this
theorem cost_named (lvls : List (List (List ItR))) (fr tu : List UInt8) (n : Nat) (p : List ItR) : (rangeF lvls fr tu (n + 1) p).length = (frameB (n + 1) p).length + costF lvls fr tu n (namedF p fr tu) := by
 rw [rangeF_succ, List.length_append]
 congr 1
 unfold behindF costF namedF
 rw [List.map_flatMap]
 generalize List.range p.length = r
 induction r with
 | nil => rfl
 | cons i r ih =>
  rw [List.flatMap_cons, List.flatMap_cons, List.length_append, List.sum_append, ih]
  congr 1
  split <;> simp
theorem cost_flat (lvls : List (List (List ItR))) (fr tu : List UInt8) (n : Nat) (js : List Nat) (f : Nat → List Nat) : costF lvls fr tu n (js.flatMap f) = (js.map (fun j => costF lvls fr tu n (f j))).sum := by
 unfold costF
 induction js with
 | nil => rfl
 | cons j js ih => rw [List.flatMap_cons, List.map_append, List.sum_append, ih]; rfl
theorem sum_bound (f : Nat → Nat) (B : Nat) (js : List Nat) (h : ∀ j ∈ js, f j ≤ B) : (js.map f).sum ≤ js.length * B := by
 induction js with
 | nil => simp
 | cons j js ih =>
  have h1 := h j (by simp)
  have h2 := ih (fun x hx => h x (by simp [hx]))
  rw [List.map_cons, List.sum_cons, List.length_cons, Nat.add_mul]
  omega
theorem nodup_lt_length : ∀ (N : Nat) (js : List Nat), js.Nodup → (∀ j ∈ js, j < N) → js.length ≤ N
 | 0, js, _, hlt => by
  cases js with
  | nil => simp
  | cons j js => exact absurd (hlt j (by simp)) (Nat.not_lt_zero _)
 | N + 1, js, h, hlt => by
  have ih := nodup_lt_length N (js.erase N) (h.erase N) (fun j hj => by
   have := (List.Nodup.mem_erase_iff h).1 hj
   have := hlt j this.2
   omega)
  have : js.length ≤ (js.erase N).length + 1 := by
   by_cases hm : N ∈ js
   ·rw [List.length_erase_of_mem hm]; omega
   ·rw [List.erase_of_not_mem hm]; omega
  omega
theorem cost_small {lvls : List (List (List ItR))} (hL : LvlsOk lvls) (hu : ∀ n up, lvls[n + 1]? = some up → (up.flatten.map (·.below)).Nodup) (fr tu : List UInt8) : ∀ (n : Nat) (ps : List (List ItR)) (js : List Nat), lvls[n]? = some ps → js.Nodup → (∀ j ∈ js, j < ps.length) → costF lvls fr tu n js ≤ (n + 1) * 97600
 | 0, ps, js, hp, hd, hj => by
  have h1 := nodup_lt_length ps.length js hd hj
  have h2 := hL.cnt 0 ps hp
  have h3 := sum_bound (fun j => (rangeF lvls fr tu 0 (pageAt lvls 0 j)).length) 1600 js (fun j _ => by
   have := pageAt_ok hL 0 j
   show (frameB 0 _).length ≤ 1600
   exact frameB_length 0 _ this.2.1 this.1)
  unfold costF
  have h4 : js.length * 1600 ≤ 61 * 1600 := Nat.mul_le_mul_right _ (by omega)
  exact Nat.le_trans h3 (Nat.le_trans h4 (by decide))
 | n + 1, ps, js, hp, hd, hj => by
  have h1 := nodup_lt_length ps.length js hd hj
  have h2 := hL.cnt (n + 1) ps hp
  have e : costF lvls fr tu (n + 1) js = (js.map (fun j => (frameB (n + 1) (pageAt lvls (n + 1) j)).length)).sum + costF lvls fr tu n (js.flatMap (fun j => namedF (pageAt lvls (n + 1) j) fr tu)) := by
   rw [cost_flat]
   unfold costF
   clear hd hj h1
   induction js with
   | nil => rfl
   | cons j js ih =>
    simp only [List.map_cons, List.sum_cons] at ih ⊢
    rw [ih, cost_named]
    unfold costF
    omega
  have h3 := sum_bound (fun j => (frameB (n + 1) (pageAt lvls (n + 1) j)).length) 1600 js (fun j _ => by
   have := pageAt_ok hL (n + 1) j
   exact frameB_length (n + 1) _ this.2.1 this.1)
  have h4 : js.length * 1600 ≤ 61 * 1600 := Nat.mul_le_mul_right _ (by omega)
  obtain ⟨qs, hq⟩ : ∃ qs, lvls[n]? = some qs := by
   have := (List.getElem?_eq_some_iff.1 hp).1
   exact ⟨_, List.getElem?_eq_getElem (by omega)⟩
  have hun := hu n ps hp
  have hpg : ∀ j, ∀ h : j < ps.length, pageAt lvls (n + 1) j = ps[j] := fun j h => by
   unfold pageAt
   rw [hp]
   simp [h]
  rw [List.map_flatten] at hun
  have hun' := List.pairwise_flatten.1 hun
  have hlt : ∀ x ∈ js.flatMap (fun j => namedF (pageAt lvls (n + 1) j) fr tu), x < qs.length := fun x hx => by
   obtain ⟨j, hjm, hx⟩ := List.mem_flatMap.1 hx
   have hjl := hj j hjm
   rw [hpg j hjl] at hx
   have := (named_sub _ fr tu).subset hx
   obtain ⟨y, hy, rfl⟩ := List.mem_map.1 this
   exact (hL.bel n qs ps hq hp _ (List.getElem_mem hjl) y hy).1
  have hnd : (js.flatMap (fun j => namedF (pageAt lvls (n + 1) j) fr tu)).Nodup := by
   unfold List.Nodup
   rw [List.flatMap_def, List.pairwise_flatten]
   refine ⟨fun l hl => ?_, ?_⟩
   ·obtain ⟨j, hjm, rfl⟩ := List.mem_map.1 hl
    have hjl := hj j hjm
    rw [hpg j hjl]
    exact List.Pairwise.sublist (named_sub _ fr tu) (hun'.1 _ (List.mem_map.2 ⟨_, List.getElem_mem hjl, rfl⟩))
   ·rw [List.pairwise_map]
    refine List.Pairwise.imp_of_mem ?_ hd
    intro a b ha hb hne x hx y hy
    have hal := hj a ha
    have hbl := hj b hb
    rw [hpg a hal] at hx
    rw [hpg b hbl] at hy
    have hx' := (named_sub _ fr tu).subset hx
    have hy' := (named_sub _ fr tu).subset hy
    have hpw := List.pairwise_iff_getElem.1 hun'.2
    rcases Nat.lt_or_gt_of_ne hne with h | h
    ·have := hpw a b (by simpa using hal) (by simpa using hbl) h
     simp only [List.getElem_map] at this
     exact this x hx' y hy'
    ·have := hpw b a (by simpa using hbl) (by simpa using hal) h
     simp only [List.getElem_map] at this
     exact fun e => this y hy' x hx' e.symm
  have ih := cost_small hL hu fr tu n qs _ hq hnd hlt
  rw [e]
  omega
theorem prf_short {p : List ItR} (h : PastR p) (fr tu : List UInt8) : (prfB p fr tu).length ≤ 1000000 := by
 have hL := grown_lv p h.1 h.2.1 h.2.2
 have e : rootPage p = pageAt (grownN p) (rootLevel p) 0 := by
  unfold rootPage pageAt rootLevel
  cases ((grownN p)[(grownN p).length - 1]?.getD []) <;> rfl
 have hg := grownF_length 7 0 p (by omega)
 have hlen : 1 ≤ (grownN p).length := hg.1
 obtain ⟨ps, hp⟩ : ∃ ps, (grownN p)[rootLevel p]? = some ps := ⟨_, List.getElem?_eq_getElem (by unfold rootLevel; omega)⟩
 have hl6 : rootLevel p ≤ 6 := by have := hL.len; unfold rootLevel; omega
 unfold prfB
 rw [e]
 by_cases h0 : 0 < ps.length
 ·have h1 := cost_small hL (fun n up => grownF_uniq 7 0 p n up) fr tu (rootLevel p) ps [0] hp (by simp) (by simpa using h0)
  have e2 : costF (grownN p) fr tu (rootLevel p) [0] = (rangeF (grownN p) fr tu (rootLevel p) (pageAt (grownN p) (rootLevel p) 0)).length := by simp [costF]
  rw [e2] at h1
  have : (rootLevel p + 1) * 97600 ≤ 7 * 97600 := Nat.mul_le_mul_right _ (by omega)
  omega
 ·have e3 : pageAt (grownN p) (rootLevel p) 0 = [] := by
   unfold pageAt
   rw [hp]
   have : ps = [] := List.length_eq_zero_iff.1 (by omega)
   simp [this]
  rw [e3]
  cases hr : rootLevel p with
  | zero => simp [rangeF, frameB, codeB]
  | succ n => simp [rangeF, frameB, codeB]
end Go.Proofs.Ytekegfbjbainhaa


namespace Go.Proofs.Ytekegfbjbainhaa
open Go.RowKit
theorem commitC_length (e n : Nat) (r s : List UInt8) (hr : r.length = 8) (hs : s.length = 8) : (commitC e r n s).length = 18 := by
 simp [commitC, hr, hs]
theorem comsF_length : ∀ (n : Nat) (rl : List (List UInt8)), n ≤ rl.length → (∀ r ∈ rl, r.length = 8) → (comsF n rl).length = n * 18
 | 0, _, _, _ => rfl
 | n + 1, rl, h, hr => by
  unfold comsF
  have hg : (rl.getD n []).length = 8 := by
   rw [List.getD_eq_getElem?_getD, List.getElem?_eq_getElem (by omega)]
   exact hr _ (List.getElem_mem _)
  rw [List.length_append, comsF_length n rl (by omega) hr, commitC_length _ _ _ _ hg (sumF_length 41 _)]
  omega
theorem comsF_get : ∀ (n : Nat) (rl : List (List UInt8)) (k j : Nat), n ≤ rl.length → (∀ r ∈ rl, r.length = 8) → k < n → j < 18 → (comsF n rl)[k * 18 + j]? = (commitC k (rl.getD k []) (k + 1) (sumF 42 (rl.take (k + 1))))[j]?
 | 0, _, _, _, _, _, hk, _ => absurd hk (Nat.not_lt_zero _)
 | n + 1, rl, k, j, h, hr, hk, hj => by
  unfold comsF
  have hl := comsF_length n rl (by omega) hr
  by_cases hkn : k < n
  ·rw [List.getElem?_append_left (by omega)]
   exact comsF_get n rl k j (by omega) hr hkn hj
  ·obtain rfl : k = n := by omega
   rw [List.getElem?_append_right (by omega), hl, Nat.add_sub_cancel_left]
theorem coms_root (rl : List (List UInt8)) (hr : ∀ r ∈ rl, r.length = 8) (k j : Nat) (hk : k < rl.length) (hj : j < 8) : (comsC rl)[k * 18 + 1 + j]? = (rl[k].map u8c)[j]? := by
 unfold comsC
 rw [Nat.add_assoc, comsF_get rl.length rl k (1 + j) (Nat.le_refl _) hr hk (by omega)]
 have e : rl.getD k [] = rl[k] := by rw [List.getD_eq_getElem?_getD, List.getElem?_eq_getElem hk]; rfl
 have h8 := hr _ (List.getElem_mem hk)
 rw [e]
 unfold commitC
 rw [List.append_assoc, List.append_assoc, Nat.add_comm 1 j, List.singleton_append, List.getElem?_cons_succ, List.getElem?_append_left (by simp; omega)]
theorem rootOf_length (nd : Nd) : (rootOf nd).length = 8 := digB_length _
theorem Hou.lens {w wr : World} {d : HouD} (h : Hou w d wr) : d.pp.length = d.tds.length ∧ d.pd.length = d.tds.length := ⟨h.at_.stt.pl, by rw [h.at_.pl, h.at_.stt.pl]⟩
theorem Hou.past {w wr : World} {d : HouD} (h : Hou w d wr) {e : Nat} (he : e < d.pp.length) : PastOk d.pp[e] := by
 have h1 := h.at_.stt.tl
 have h2 := h.at_.stt.pl
 exact (h.at_.stt.rep e (d.T[e]'(by omega)) d.pp[e] (d.tds[e]'(by omega)) (List.getElem?_eq_getElem _) (List.getElem?_eq_getElem _) (List.getElem?_eq_getElem _)).2.2
theorem keyOk_len {key : List UInt8} (h : keyOk key = true) : 1 ≤ key.length ∧ key.length ≤ 12 := by unfold keyOk at h; simpa using h
theorem Hou.stood {w wr : World} {d : HouD} (h : Hou w d wr) {e : Nat} (he : e < d.pp.length) : Stood d.pp[e] := by
 have hp := h.past he
 exact ⟨hp.rise, hp.len, fun x hx => keyOk_len (h.keys _ (List.mem_cons_of_mem _ (List.getElem_mem he)) x hx), fun x hx => (hp.ok x hx).2⟩
theorem Hou.root {w wr : World} {d : HouD} (h : Hou w d wr) {e : Nat} (he : e < d.pp.length) (he' : e < (d.tds.map rootOf).length) : (d.tds.map rootOf)[e] = rootB d.pp[e] := by
 have := h.rts
 simp only [this, List.getElem_map]
theorem Stood.pastR {l : List ItR} (h : Stood l) : PastR l := ⟨h.rise, fun x hx => ⟨(h.key x hx).2, h.val x hx⟩, h.len⟩
theorem prv_ok {pp : List (List ItR)} {e : Nat} {key : List UInt8} (he : e < pp.length) (hk : keyOk key = true) : prvE pp.length (e : Int) key = 0 ∧ prvB pp (e : Int) key = prfB pp[e] key key := by
 have h1 : prvE pp.length (e : Int) key = 0 := by
  unfold prvE epochBad
  rw [hk]
  simp; omega
 refine ⟨h1, ?_⟩
 unfold prvB pastAt
 rw [if_pos h1]
 simp [he]
theorem rng_code {pp : List (List ItR)} {e : Nat} {fr tu : List UInt8} (he : e < pp.length) (hf : keyOk fr = true) (ht : keyOk tu = true) : rngE pp.length (e : Int) fr tu = (if Op.bytesLess fr tu = true then 0 else 1) ∧ (Op.bytesLess fr tu = true → rngB pp (e : Int) fr tu = prfB pp[e] fr tu) := by
 have h1 : rngE pp.length (e : Int) fr tu = (if Op.bytesLess fr tu = true then 0 else 1) := by
  unfold rngE epochBad rngOk
  rw [hf, ht]
  cases Op.bytesLess fr tu <;> simp <;> omega
 refine ⟨h1, fun hl => ?_⟩
 unfold rngB pastAt
 rw [h1, if_pos (by rw [if_pos hl])]
 simp [he]
theorem hou_prove {w wr : World} {d : HouD} (h : Hou w d wr) {e : Nat} (he : e < d.pp.length) (sk : SlR) (key : List UInt8) (hK : BS wr sk key) (hk : keyOk key = true) :
  Calls Try.prog 15 #[.pointer (some ⟨d.sb, 0, none⟩), .int .i64 (e : Int), sk.val] wr fun r w' => ∃ v : SlR, r = .returned (.tuple #[v.val, .int .i64 0]) ∧ OwnB w' wr.heap.size v.val (prfB d.pp[e] key key) ∧ Below wr.heap.size wr w' := by
 refine (sto_prove d.sb d.N d.en d.tr d.mp d.ms d.xs d.its d.tds d.T d.pp (e : Int) sk key wr h.at_.sto h.at_.stt h.at_.t40 hK (by have := keyOk_len hk; unfold maxLen; omega)).mono ?_
 rintro r w' ⟨v, rfl, h1, h2⟩
 obtain ⟨e1, e2⟩ := prv_ok he hk
 rw [e2] at h1
 rw [e1]
 exact ⟨v, rfl, h1, h2⟩
theorem hou_range {w wr : World} {d : HouD} (h : Hou w d wr) {e : Nat} (he : e < d.pp.length) (sf st : SlR) (fr tu : List UInt8) (hF : BS wr sf fr) (hT : BS wr st tu) (hf : keyOk fr = true) (ht : keyOk tu = true) :
  Calls Try.prog 19 #[.pointer (some ⟨d.sb, 0, none⟩), .int .i64 (e : Int), sf.val, st.val] wr fun r w' => ∃ v : SlR, r = .returned (.tuple #[v.val, .int .i64 (if Op.bytesLess fr tu = true then 0 else 1)]) ∧ (Op.bytesLess fr tu = true → OwnB w' wr.heap.size v.val (prfB d.pp[e] fr tu)) ∧ Below wr.heap.size wr w' := by
 refine (sto_range d.sb d.N d.en d.tr d.mp d.ms d.xs d.its d.tds d.T d.pp (e : Int) sf st fr tu wr h.at_.sto h.at_.stt h.at_.t40 hF hT (by have := keyOk_len hf; unfold maxLen; omega) (by have := keyOk_len ht; unfold maxLen; omega)).mono ?_
 rintro r w' ⟨v, rfl, h1, h2⟩
 obtain ⟨e1, e2⟩ := rng_code he hf ht
 refine ⟨v, ?_, fun hl => by rw [e2 hl] at h1; exact h1, h2⟩
 rw [e1]
 cases Op.bytesLess fr tu <;> rfl
theorem ownB_bs {w : World} {base : Nat} {v : SlR} {l : List UInt8} (h : OwnB w base v.val l) : BS w v l ∧ v.n ≤ v.cap := by
 have hc := owns_cap (a := v.a) (n' := v.n) (cap := v.cap) h
 obtain ⟨h1, h2, h3⟩ := OwnB.sl (a := v.a) (n := v.n) (cap := v.cap) h
 refine ⟨⟨h1, h2, h3, fun x hx => ?_⟩, by rw [hc.1]; exact hc.2.1⟩
 rcases hc.2.2.2 with ⟨e, _⟩ | ⟨g, e, _, hlt⟩
 ·rw [hx] at e; cases e
 ·rw [hx] at e; cases e; exact hlt
theorem ownB_ge {w : World} {base : Nat} {v : SlR} {l : List UInt8} (h : OwnB w base v.val l) : ∀ x, v.a = some x → base ≤ x.block := fun x hx => (World.ownsRow.lt h x.block (by unfold SlR.val; rw [hx]; rfl)).1
theorem hou_check {l : List ItR} (hs : Stood l) (root : List UInt8) (hr : root = rootB l) (sk sp : SlR) (key : List UInt8) (w : World) (hK : BS w sk key) (hk : keyOk key = true) (hp : BS w sp (prfB l key key)) (hpc : sp.n ≤ sp.cap) :
  Calls Try.prog 16 #[dV root, sk.val, sp.val] w fun r w' => ∃ v : SlR, r = .returned (.tuple #[.agg #[.bool (findM key l).isSome, v.val], .int .i64 0]) ∧ Below w.heap.size w w' ∧ BS w' v ((findM key l).getD []) ∧ ∀ x, v.a = some x → w.heap.size ≤ x.block := by
 subst hr
 refine (checkP_any sk sp key (prfB l key key) (rootB l) w (rootB_length _) hK hp hpc (by have := keyOk_len hk; unfold maxLen; omega) (by have := prf_short hs.pastR key key; omega)).mono ?_
 rintro r w' ⟨v, rfl, h1, h2⟩
 have e : chkR (rootB l) key (prfB l key key) = (0, findM key l) := by
  unfold chkR
  rw [if_pos hk, check_point hs key]
 rw [e] at h2 ⊢
 exact ⟨v, rfl, h1, (ownB_bs h2).1, ownB_ge h2⟩
theorem flatL_get (l : List ItR) : ∀ (i : Nat) (h : i < l.length), (flatL l)[i * 2]? = some l[i].key ∧ (flatL l)[i * 2 + 1]? = some l[i].more := by
 induction l with
 | nil => intro i h; simp at h
 | cons e l ih =>
  intro i h
  cases i with
  | zero => simp [flatL]
  | succ i =>
   have := ih i (by simpa using h)
   simp only [flatL, List.flatMap_cons] at this ⊢
   rw [show (i + 1) * 2 = i * 2 + 1 + 1 by omega, show i * 2 + 1 + 1 + 1 = (i * 2 + 1) + 1 + 1 by omega]
   simpa using this
theorem flatE_getE (l : List (SlR × SlR)) : ∀ (i : Nat) (h : i < l.length), (flatE l)[i * 2]? = some l[i].1 ∧ (flatE l)[i * 2 + 1]? = some l[i].2 := by
 induction l with
 | nil => intro i h; simp at h
 | cons e l ih =>
  intro i h
  cases i with
  | zero => simp [flatE]
  | succ i =>
   have := ih i (by simpa using h)
   simp only [flatE, List.flatMap_cons] at this ⊢
   rw [show (i + 1) * 2 = i * 2 + 1 + 1 by omega, show i * 2 + 1 + 1 + 1 = (i * 2 + 1) + 1 + 1 by omega]
   simpa using this
theorem EntsO.toV {w : World} {base : Nat} {v : SlR} {es : List (SlR × SlR)} {l : List ItR} (h : EntsO w base v es l) : EntV w v es l := by
 obtain ⟨h1, h2⟩ := SlV.ofOwn (s := v) h.own
 refine ⟨h1, h2, h.len, fun i g1 g2 => ?_⟩
 obtain ⟨a0, a1⟩ := flatE_getE es i g1
 have hf : (flatE es).length = es.length * 2 := flatE_length es
 have hfl : (flatL l).length = l.length * 2 := flatL_length l
 have b0 := flatL_get l i g2
 have o0 := h.ob (i * 2) (by omega) (by omega)
 have o1 := h.ob (i * 2 + 1) (by omega) (by omega)
 rw [List.getElem?_eq_getElem (by omega)] at a0 a1
 have b1 := b0.2
 have b2 := b0.1
 rw [List.getElem?_eq_getElem (by omega)] at b1 b2
 rw [Option.some.inj a0, Option.some.inj b2] at o0
 rw [Option.some.inj a1, Option.some.inj b1] at o1
 exact ⟨(ownB_bs o0).1, (ownB_bs o1).1⟩
theorem hou_checks {l : List ItR} (hs : Stood l) (hz : ∀ x ∈ l, x.below = 0) (root : List UInt8) (hr : root = rootB l) (sf st sp : SlR) (fr tu : List UInt8) (w : World) (hF : BS w sf fr) (hT : BS w st tu) (hf : keyOk fr = true) (ht : keyOk tu = true) (hl : Op.bytesLess fr tu = true) (hp : BS w sp (prfB l fr tu)) (hpc : sp.n ≤ sp.cap) :
  Calls Try.prog 20 #[dV root, sf.val, st.val, sp.val] w fun r w' => ∃ (v : SlR) (es : List (SlR × SlR)), r = .returned (.tuple #[v.val, .int .i64 0]) ∧ Below w.heap.size w w' ∧ EntV w' v es (l.filter (inR fr tu)) := by
 subst hr
 refine (checkRangeP_any sf st sp fr tu (prfB l fr tu) (rootB l) w (rootB_length _) hF hT hp hpc (by have := keyOk_len hf; unfold maxLen; omega) (by have := keyOk_len ht; unfold maxLen; omega) (by have := prf_short hs.pastR fr tu; omega)).mono ?_
 rintro r w' ⟨v, es, rfl, h1, h2⟩
 have e : rngC (rootB l) fr tu (prfB l fr tu) = (0, l.filter (inR fr tu)) := by
  unfold rngC rngOk
  rw [hf, ht, hl, check_range hs hz fr tu]
  rfl
 rw [e] at h2 ⊢
 exact ⟨v, es, rfl, h1, h2.toV⟩
end Go.Proofs.Ytekegfbjbainhaa
