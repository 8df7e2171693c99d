import Derived.Test.YtekegfbjbainhaaKJoin22
import Derived.Test.YtekegfbjbainhaaKJoin14
import Derived.Test.YtekegfbjbainhaaKJoin15
import Derived.Test.YtekegfbjbainhaaKJoin21
import Derived.BigQuiet
import Derived.Test.YtekegfbjbainhaaKJoin20
import Derived.Deep.RegionLaw
import Derived.Deep.DeepCutAuto
import Derived.Deep.CutBlock
set_option linter.unusedVariables false
set_option linter.unusedSimpArgs false

namespace Go.Proofs.Ytekegfbjbainhaa
open Go.RowKit
theorem placeN_bare (p : List ItR) (key : List UInt8) : placeN (bare p) key = placeN p key := by
 unfold placeN bare
 rw [List.takeWhile_map, List.length_map]
 rfl
def findM (key : List UInt8) (l : List ItR) : Option (List UInt8) := (l.find? (fun x => x.key == key)).map (·.more)
theorem findM_bare (key : List UInt8) (p : List ItR) : findM key (bare p) = findM key p := by
 unfold findM bare
 rw [List.find?_map, Option.map_map]
 rfl
theorem findM_none {key : List UInt8} {l : List ItR} (h : ∀ y ∈ l, y.key ≠ key) : findM key l = none := by
 unfold findM
 rw [List.find?_eq_none.2 (fun x hx => by simpa using h x hx)]
 rfl
theorem findM_right {key : List UInt8} {a b : List ItR} (h : ∀ y ∈ a, y.key ≠ key) : findM key (a ++ b) = findM key b := by
 unfold findM
 rw [List.find?_append, List.find?_eq_none.2 (fun x hx => by simpa using h x hx)]
 rfl
theorem findM_left {key : List UInt8} {a b : List ItR} (h : ∀ y ∈ b, y.key ≠ key) : findM key (a ++ b) = findM key a := by
 unfold findM
 have e : List.find? (fun x => x.key == key) b = none := List.find?_eq_none.2 (fun x hx => by simpa using h x hx)
 rw [List.find?_append, e]
 cases List.find? (fun x => x.key == key) a <;> rfl
def tailP (G : List (List (List ItR))) (key : List UInt8) : Nat → List ItR → List UInt8
 | 0, _ => []
 | n + 1, p => if placeN p key < p.length then pointF G key n (pageAt G n (belowAt p (placeN p key))) else []
theorem tailP_succ (G : List (List (List ItR))) (key : List UInt8) (n : Nat) (p : List ItR) : tailP G key (n + 1) p = if placeN p key < p.length then pointF G key n (pageAt G n (belowAt p (placeN p key))) else [] := rfl
theorem pointF_tail (G : List (List (List ItR))) (key : List UInt8) : ∀ (n : Nat) (p : List ItR), pointF G key n p = frameB n p ++ tailP G key n p
 | 0, p => by simp [pointF, tailP]
 | n + 1, p => rfl
theorem belowAt_get (p : List ItR) {i : Nat} (h : i < p.length) : belowAt p i = p[i].below := by unfold belowAt; simp [h]
theorem Stood.le {l : List ItR} (h : Stood l) {n : Nat} {ps : List (List ItR)} (hn : (grownN l)[n]? = some ps) {q : List ItR} (hq : q ∈ ps) (hne : q ≠ []) {y : ItR} (hy : y ∈ cov (grownN l) n q) : y.key = lastK q ∨ Op.bytesLess y.key (lastK q) = true := by
 have hr : RiseK (cov (grownN l) n q) := List.Pairwise.sublist (h.sub hn hq) h.rise
 have := rise_last hr hy
 rwa [(h.last n ps hn q hq hne).2] at this
theorem Stood.lastIn {l : List ItR} (h : Stood l) {n : Nat} {ps : List (List ItR)} (hn : (grownN l)[n]? = some ps) {q : List ItR} (hq : q ∈ ps) (hne : q ≠ []) : ∃ z ∈ cov (grownN l) n q, z.key = lastK q := by
 obtain ⟨i1, i2⟩ := h.last n ps hn q hq hne
 obtain ⟨z, hz, e⟩ := lastK_mem i1
 exact ⟨z, hz, by rw [← e, i2]⟩
theorem Stood.order {l : List ItR} (h : Stood l) {n : Nat} {up : List (List ItR)} (hn : (grownN l)[n + 1]? = some up) {p : List ItR} (hp : p ∈ up) : ∀ (i j : Nat) (hi : i < p.length) (hj : j < p.length), i < j → ∀ x ∈ cov (grownN l) n (pageAt (grownN l) n p[i].below), ∀ y ∈ cov (grownN l) n (pageAt (grownN l) n p[j].below), Op.bytesLess x.key y.key = true := fun i j hi hj hij => by
 have hr : RiseK (cov (grownN l) (n + 1) p) := List.Pairwise.sublist (h.sub hn hp) h.rise
 have hr2 := (List.pairwise_flatMap.1 hr).2
 exact List.pairwise_iff_getElem.1 hr2 i j hi hj hij
theorem less_asymm {a b : List UInt8} (h : Op.bytesLess a b = true) : Op.bytesLess b a = false := by
 cases e : Op.bytesLess b a with
 | false => rfl
 | true => have := less_trans h e; rw [less_irrefl] at this; cases this
theorem chk_point {l : List ItR} (h : Stood l) (key : List UInt8) : ∀ (n : Nat) (ps : List (List ItR)), (grownN l)[n]? = some ps → ∀ p ∈ ps,
  ∃ lv its, chkF key n (bare p) (tailP (grownN l) key n p) = some ((lv, its), []) ∧ (if lv = 0 then findM key its else none) = findM key (cov (grownN l) n p)
 | 0, ps, hn, p, hp => ⟨0, bare p, rfl, by rw [if_pos rfl, findM_bare]; rfl⟩
 | n + 1, up, hn, p, hp => by
  obtain ⟨ps, hps, hc⟩ := h.child hn
  have hW := h.pages hn p hp
  have hpl := rising_place p key hW.rise
  rw [tailP_succ]
  unfold chkF
  rw [placeN_bare, bare_length]
  by_cases hi : placeN p key < p.length
  ·rw [if_pos hi, if_pos hi, belowAt_get p hi]
   obtain ⟨c1, c2, c3, c4⟩ := hc p hp p[placeN p key] (List.getElem_mem hi)
   have e : ((bare p).getD (placeN p key) it0).more = p[placeN p key].more := by
    unfold bare
    rw [List.getD_eq_getElem?_getD, List.getElem?_map, List.getElem?_eq_getElem hi]
    rfl
   rw [e, c3, pointF_tail, frame_read (h.pages hps _ c1)]
   simp only [if_true]
   obtain ⟨lv, its, i1, i2⟩ := chk_point h key n ps hps _ c1
   refine ⟨lv, its, i1, i2.trans ?_⟩
   have hk := hpl (placeN p key) hi
   unfold lessK at hk
   have hk' : Op.bytesLess p[placeN p key].key key = false := by simpa using hk
   have ep : p = p.take (placeN p key) ++ p[placeN p key] :: p.drop (placeN p key + 1) := by rw [List.getElem_cons_drop, List.take_append_drop]
   have ec : cov (grownN l) (n + 1) p = (p.take (placeN p key)).flatMap (fun x => cov (grownN l) n (pageAt (grownN l) n x.below)) ++ (cov (grownN l) n (pageAt (grownN l) n p[placeN p key].below) ++ (p.drop (placeN p key + 1)).flatMap (fun x => cov (grownN l) n (pageAt (grownN l) n x.below))) := by
    conv => lhs; rw [ep]
    show List.flatMap _ _ = _
    rw [List.flatMap_append, List.flatMap_cons]
   rw [ec, findM_right, findM_left]
   ·intro y hy
    obtain ⟨x, hx, hy⟩ := List.mem_flatMap.1 hy
    obtain ⟨j, hj, rfl⟩ := List.mem_iff_getElem.1 hx
    rw [List.getElem_drop] at hy
    simp only [List.length_drop] at hj
    obtain ⟨z, hz, ez⟩ := h.lastIn hps c1 c2
    have := h.order hn hp (placeN p key) (placeN p key + 1 + j) hi (by omega) (by omega) z hz y hy
    intro eq
    rw [ez, ← c4, eq, hk'] at this
    cases this
   ·intro y hy
    obtain ⟨x, hx, hy⟩ := List.mem_flatMap.1 hy
    obtain ⟨j, hj, rfl⟩ := List.mem_iff_getElem.1 hx
    rw [List.getElem_take] at hy
    simp only [List.length_take] at hj
    obtain ⟨b1, b2, _, b4⟩ := hc p hp p[j] (List.getElem_mem (by omega))
    have hlj := hpl j (by omega)
    unfold lessK at hlj
    have hlj' : Op.bytesLess p[j].key key = true := by rw [hlj]; simp; omega
    intro eq
    rcases h.le hps b1 b2 hy with g | g
    ·rw [← b4, eq] at g; rw [← g, less_irrefl] at hlj'; cases hlj'
    ·rw [← b4, eq] at g; rw [less_asymm g] at hlj'; cases hlj'
  ·rw [if_neg hi, if_neg hi]
   refine ⟨n + 1, bare p, rfl, ?_⟩
   rw [if_neg (by omega), findM_none]
   intro y hy
   obtain ⟨x, hx, hy⟩ := List.mem_flatMap.1 (show y ∈ p.flatMap _ from hy)
   obtain ⟨j, hj, rfl⟩ := List.mem_iff_getElem.1 hx
   obtain ⟨b1, b2, _, b4⟩ := hc p hp p[j] hx
   have hlj := hpl j hj
   unfold lessK at hlj
   have hlj' : Op.bytesLess p[j].key key = true := by rw [hlj]; simp; omega
   intro eq
   rcases h.le hps b1 b2 hy with g | g
   ·rw [← b4, eq] at g; rw [← g, less_irrefl] at hlj'; cases hlj'
   ·rw [← b4, eq] at g; rw [less_asymm g] at hlj'; cases hlj'
theorem root_page {l : List ItR} : ∃ ps, (grownN l)[rootLevel l]? = some ps ∧ rootPage l ∈ ps ∧ cov (grownN l) (rootLevel l) (rootPage l) = l := by
 obtain ⟨p, hp⟩ := last_one 6 0 l rfl
 have hp' : (grownN l)[rootLevel l]? = some [p] := hp
 have er : rootPage l = p := by unfold rootPage; rw [show (grownN l)[(grownN l).length - 1]? = some [p] from hp]; rfl
 refine ⟨[p], hp', by rw [er]; simp, ?_⟩
 have := cov_level 7 0 l _ _ hp
 rw [er]
 simp only [List.flatMap_cons, List.flatMap_nil, List.append_nil] at this
 exact this
theorem check_point {l : List ItR} (h : Stood l) (key : List UInt8) : checkF (rootB l) key (prfB l key key) = some (findM key l) := by
 have hpast : PastR l := ⟨h.rise, fun x hx => ⟨(h.key x hx).2, h.val x hx⟩, h.len⟩
 obtain ⟨ps, h1, h2, h3⟩ := root_page (l := l)
 obtain ⟨lv, its, e1, e2⟩ := chk_point h key _ ps h1 _ h2
 unfold checkF
 rw [← point_prf l hpast key, pointF_tail]
 unfold rootB
 rw [frame_read (h.pages h1 _ h2)]
 show ansF key (chkF key (rootLevel l) (bare (rootPage l)) (tailP (grownN l) key (rootLevel l) (rootPage l))) = _
 rw [e1]
 rw [h3] at e2
 show (if ([] : List UInt8) = [] then some (if lv = 0 then findM key its else none) else none) = _
 rw [if_pos rfl, e2]
end Go.Proofs.Ytekegfbjbainhaa


namespace Go.Proofs.Ytekegfbjbainhaa
open Go.RowKit
end Go.Proofs.Ytekegfbjbainhaa


namespace Go.Proofs.Ytekegfbjbainhaa
open Go.RowKit
attribute [local go_sem ↓] Go.wp_at_zero Go.wp_at_succ
theorem findM_at {key : List UInt8} {l : List ItR} {k : Nat} (hk : k < l.length) (hne : ∀ y ∈ l.take k, y.key ≠ key) (he : l[k].key = key) : findM key l = some l[k].more := by
 have e : l = l.take k ++ l[k] :: l.drop (k + 1) := by rw [List.getElem_cons_drop, List.take_append_drop]
 conv => lhs; rw [e]
 rw [findM_right hne]
 unfold findM
 rw [List.find?_cons_of_pos (by simpa using he)]
 rfl
theorem ans_one (b : Bool) (s : SlR) : ∀ v ∈ [Value.bool b, .slice s.a s.n s.cap], v.oneCell' = true := fun v hv => by
 simp only [List.mem_cons, List.not_mem_nil, or_false] at hv
 rcases hv with rfl | rfl <;> rfl
set_option maxRecDepth 100000 in
set_option maxHeartbeats 1600000 in
theorem stood_any (v sk : SlR) (es : List (SlR × SlR)) (l : List ItR) (key : List UInt8) (w : World) (hv : SlV w v.a (entsC es)) (hn : v.n = es.length) (hb : BsL w es l) (hK : BS w sk key) (hl : l.length ≤ 60) :
  Calls Try.prog 12 #[v.val, sk.val] w fun e w' => ∃ x : SlR, e = .returned (.agg #[.bool (findM key l).isSome, x.val]) ∧ BS w' x ((findM key l).getD []) ∧ Below w.heap.size w w' := by
 have HV : Hid (SlV w v.a (entsC es)) := hv
 have HBS : Hid (BsL w es l) := hb
 have HKK : Hid (BS w sk key) := hK
 have hel : es.length = l.length := hb.1
 have hlI : (l.length : Int) ≤ 60 := by omega
 obtain ⟨va, vn, vc⟩ := v
 simp only at hn
 obtain rfl : vn = l.length := by rw [hn, hel]
 have HBA : Hid (Below w.heap.size w (w.alloc (.cells #[.bool false, .slice none 0 0] 40))) := (Below.refl _ _).alloc (Nat.le_refl _) _
 have HRA : Hid (RowV (w.alloc (.cells #[.bool false, .slice none 0 0] 40)) w.heap.size 40 [.bool false, .slice none 0 0]) := RowV.new w _ _
 clear hv hn hb hK
 unfold SlR.val
 go_enter Try.func12, Try.ntmps12
 go_wp2
 go_loopw [5] (fun i wr => ∃ k m : Nat, k ≤ l.length ∧ i = .int .i64 (k : Int) ∧ wr = (w.alloc (.cells #[.bool false, .slice none 0 0] 40)).drewN m ∧ Hid (∀ y ∈ l.take k, y.key ≠ key)) (fun i _ => l.length - (intOf i).toNat)
 case atStart => exact ⟨0, 0, by omega, rfl, rfl, fun y hy => by simp at hy⟩
 case round =>
  obtain ⟨k, m, hk, rfl, rfl, HN⟩ := hrel
  have HBM : Hid (∀ q, Below w.heap.size w ((w.alloc (.cells #[.bool false, .slice none 0 0] 40)).drewN q)) := fun q => HBA.out.trans ((bel_drewN _ q).mono HBA.out.size)
  have HRM : Hid (∀ q, RowV ((w.alloc (.cells #[.bool false, .slice none 0 0] 40)).drewN q) w.heap.size 40 [.bool false, .slice none 0 0]) := fun q => RowV.below HRA.out HRA.out.lt (bel_drewN _ q)
  by_cases hlt : k < l.length
  ·have hltI : (k : Int) < l.length := by omega
   have hkn : k < es.length := by omega
   obtain ⟨b, o, hca, hbb, c0, c1⟩ := entsC_cells HV.out k hkn
   subst hca
   have d0 : ∀ q, ((w.alloc (.cells #[.bool false, .slice none 0 0] 40)).drewN q).cell? ⟨b, o + k * 2, none⟩ = some (.slice es[k].1.a es[k].1.n es[k].1.cap) := fun q => by rw [(HBM.out q).cell (p := ⟨b, o + k * 2, none⟩) hbb]; exact c0
   have d1 : ∀ q, ((w.alloc (.cells #[.bool false, .slice none 0 0] 40)).drewN q).cell? ⟨b, o + k * 2 + 1, none⟩ = some (.slice es[k].2.a es[k].2.n es[k].2.cap) := fun q => by rw [(HBM.out q).cell (p := ⟨b, o + k * 2 + 1, none⟩) hbb]; exact c1
   obtain ⟨p1, p2⟩ := HBS.out.2 k hkn hlt
   have e1 := fun q => bs_run p1 (HBM.out q)
   have e2 := fun q => bs_run HKK.out (HBM.out q)
   have HP2 : Hid (BS w es[k].2 l[k].more) := p2
   have HAT : Hid (l[k].key = key → findM key l = some l[k].more) := fun he => findM_at hlt HN.out he
   have HTK : Hid (l.take (k + 1) = l.take k ++ [l[k]]) := List.take_succ_eq_append_getElem hlt
   clear c0 c1 p1 p2
   generalize es[k].1 = s1 at *
   generalize es[k].2 = s2 at *
   generalize l[k] = x at *
   obtain ⟨xk, xm, xb⟩ := x
   simp only at e1 HP2 HAT
   have dd0 := d0 m
   have dd1 := d1 m
   by_cases hx : xk = key
   ·have HF : Hid (findM key l = some xm) := HAT.out hx
    have hbb1 : (xk == key) = true := by simpa using hx
    clear HAT hx
    go_wp2_with fail
    go_quiet (fail)
    have dq := d1 (m + nq)
    go_wp2_with (first
     | (refine wp_storeR (by rfl) 40 (.tmp 4) (.tmp 26) (by rfl) w.heap.size (by rfl) [.bool true, .slice s2.a s2.n s2.cap] (by rfl) (l := [.bool false, .slice none 0 0]) (HRM.out (m + nq)) rfl Try.sizeAnswer (ans_one true s2) ?_; intro w2 hr2 hf2 hz2))
    have hB2 : Below w.heap.size w w2 := (HBM.out (m + nq)).trans (Below.trans (b := _) (by exact Below.refl _ _) (hf2.below (HBM.out (m + nq)).size (fun k hk => by omega)))
    refine ret_agg (k := 4) (cs := [.bool true, .slice s2.a s2.n s2.cap]) rfl rfl hr2 Try.underlying40 rfl Try.sizeAnswer rfl ⟨s2, by rw [HF.out]; rfl, ?_, hB2⟩
    rw [HF.out]
    exact HP2.out.below hB2
   ·have hbb1 : (xk == key) = false := by simpa using hx
    have HNX : Hid (∀ y ∈ l.take (k + 1), y.key ≠ key) := fun y hy => by
     rw [HTK.out] at hy
     rcases List.mem_append.1 hy with hy | hy
     ·exact HN.out y hy
     ·rw [List.mem_singleton.1 hy]; exact hx
    clear HAT hx
    go_wp2_with fail
    go_quiet (fail)
    go_wp2
    refine ⟨⟨k + 1, m + nq, by omega, by go_num, rfl, HNX⟩, by simp [intOf]; omega⟩
  ·have hltI : ¬ (k : Int) < l.length := by omega
   have HF : Hid (findM key l = none) := findM_none (fun y hy => HN.out y (by rw [List.take_of_length_le (by omega)]; exact hy))
   go_wp2_with (first
    | (refine wp_storeR (by rfl) 40 (.tmp 4) (.tmp 27) (by rfl) w.heap.size (by rfl) [.bool false, .slice none 0 0] (by rfl) (l := [.bool false, .slice none 0 0]) (HRM.out m) rfl Try.sizeAnswer (ans_one false ⟨none, 0, 0⟩) ?_; intro w2 hr2 hf2 hz2))
   have hB2 : Below w.heap.size w w2 := (HBM.out m).trans (hf2.below (HBM.out m).size (fun k hk => by omega))
   refine ret_agg (k := 4) (cs := [.bool false, .slice none 0 0]) rfl rfl hr2 Try.underlying40 rfl Try.sizeAnswer rfl ⟨⟨none, 0, 0⟩, by rw [HF.out]; rfl, ?_, hB2⟩
   rw [HF.out]
   exact ⟨SlB.nil _ _, rfl, fun _ => rfl, fun x hx => by cases hx⟩
end Go.Proofs.Ytekegfbjbainhaa


namespace Go.Proofs.Ytekegfbjbainhaa
open Go.RowKit
attribute [local go_sem ↓] Go.wp_at_zero Go.wp_at_succ
end Go.Proofs.Ytekegfbjbainhaa


namespace Go.Proofs.Ytekegfbjbainhaa
open Go.RowKit
attribute [local go_sem ↓] Go.wp_at_zero Go.wp_at_succ
structure EntV (w : World) (s : SlR) (el : List (SlR × SlR)) (l : List ItR) : Prop where
 sl : SlV w s.a (entsC el)
 n : s.n = el.length
 bs : BsL w el l
end Go.Proofs.Ytekegfbjbainhaa
