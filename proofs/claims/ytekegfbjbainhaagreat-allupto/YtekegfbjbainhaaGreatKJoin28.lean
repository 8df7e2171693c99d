import Derived.Test.YtekegfbjbainhaaGreatKJoin27
import Derived.Test.YtekegfbjbainhaaGreatKJoin22
set_option linter.unusedVariables false
set_option linter.unusedSimpArgs false

namespace Go.Proofs.YtekegfbjbainhaaGreat
open Go.RowKit
attribute [local go_sem ↓] Go.wp_at_zero Go.wp_at_succ
theorem chkF_ok (key : List UInt8) : ∀ (lv : Nat) (its : List ItR) (r : List UInt8) (l : Nat) (is : List ItR) (r' : List UInt8), PageOk lv its → chkF key lv its r = some ((l, is), r') → PageOk l is
 | 0, its, r, l, is, r', h, e => by
  have e' : some ((0, its), r) = some ((l, is), r') := e
  simp only [Option.some.injEq, Prod.mk.injEq] at e'
  obtain ⟨⟨rfl, rfl⟩, rfl⟩ := e'
  exact h
 | lv + 1, its, r, l, is, r', h, e => by
  unfold chkF at e
  split at e
  ·split at e
   ·cases e
   ·rename_i l2 its2 r2 hp
    split at e
    ·rename_i hl
     subst hl
     exact chkF_ok key _ _ _ _ _ _ (pgO_ok hp) e
    ·cases e
  ·simp only [Option.some.injEq, Prod.mk.injEq] at e
   obtain ⟨⟨rfl, rfl⟩, rfl⟩ := e
   exact h
theorem find_place {its : List ItR} (hr : RiseK its) (key : List UInt8) : (its.find? (fun x => x.key == key)).map (·.more) = if thereB its key = true then some (its.getD (placeN its key) it0).more else none := by
 have hpl := rising_place its key hr
 by_cases hlt : placeN its key < its.length
 ·have hth : thereB its key = (its[placeN its key].key == key) := by unfold thereB; rw [List.getElem?_eq_getElem hlt]; rfl
  have hgd : its.getD (placeN its key) it0 = its[placeN its key] := by rw [List.getD_eq_getElem?_getD, List.getElem?_eq_getElem hlt]; rfl
  cases he : its[placeN its key].key == key with
  | true =>
   rw [hth, he, if_pos rfl, hgd]
   have : its.find? (fun x => x.key == key) = some its[placeN its key] := by
    rw [List.find?_eq_some_iff_getElem]
    refine ⟨he, placeN its key, hlt, rfl, fun j hj => ?_⟩
    have h1 := hpl j (by omega)
    have h2 : lessK key its[j] = true := by rw [h1]; simp [hj]
    unfold lessK at h2
    simp only [Bool.not_eq_true', beq_eq_false_iff_ne]
    intro e; rw [e] at h2; exact absurd h2 (by rw [less_irrefl]; simp)
   rw [this]; rfl
  | false =>
   rw [hth, he, if_neg (by simp)]
   have : its.find? (fun x => x.key == key) = none := by
    rw [List.find?_eq_none]
    intro x hx e
    obtain ⟨j, hj, rfl⟩ := List.mem_iff_getElem.1 hx
    have hje : its[j].key = key := by simpa using e
    have h1 := hpl j hj
    have hnl : lessK key its[j] = false := by unfold lessK; rw [hje]; exact less_irrefl key
    rw [hnl] at h1
    have hge : placeN its key ≤ j := by
     by_cases g : j < placeN its key
     ·simp [g] at h1
     ·omega
    by_cases g : j = placeN its key
    ·subst g; rw [hje] at he; simp at he
    ·have hp := List.pairwise_iff_getElem.1 hr (placeN its key) j hlt hj (by omega)
     have h3 := hpl (placeN its key) hlt
     have h4 : lessK key its[placeN its key] = false := by rw [h3]; simp
     unfold lessK at h4
     rw [hje] at hp
     rw [h4] at hp; cases hp
   rw [this]; rfl
 ·have hth : thereB its key = false := by unfold thereB; rw [List.getElem?_eq_none (by omega)]; rfl
  rw [hth, if_neg (by simp)]
  have : its.find? (fun x => x.key == key) = none := by
   rw [List.find?_eq_none]
   intro x hx e
   obtain ⟨j, hj, rfl⟩ := List.mem_iff_getElem.1 hx
   have hje : its[j].key = key := by simpa using e
   have h1 := hpl j hj
   have hnl : lessK key its[j] = false := by unfold lessK; rw [hje]; exact less_irrefl key
   rw [hnl] at h1
   have : j < placeN its key := by omega
   simp [this] at h1
  rw [this]; rfl
theorem rrd_key (root key proof : List UInt8) : (checkF root key proof = none ∧ rrd root key key proof = none) ∨ ∃ es, rrd root key key proof = some es ∧ RiseK es ∧ es.length ≤ 60 ∧ (∀ x ∈ es, x.more.length ≤ 12) ∧ checkF root key proof = some ((es.find? (fun x => x.key == key)).map (·.more)) := by
 unfold checkF rrd rngRd
 cases hp : pgO (some proof) root with
 | none => exact Or.inl ⟨rfl, rfl⟩
 | some q =>
  obtain ⟨⟨lv, its⟩, r⟩ := q
  have hok := pgO_ok hp
  simp only
  rw [chk_read key lv its r hok.rise]
  cases hc : chkF key lv its r with
  | none => exact Or.inl ⟨rfl, rfl⟩
  | some p =>
   obtain ⟨⟨l, is⟩, r'⟩ := p
   have hok2 := chkF_ok key lv its r l is r' hok hc
   simp only [Option.map_some, ansF]
   by_cases hr : r' = []
   ·subst hr
    by_cases hl : l = 0
    ·subst hl
     exact Or.inr ⟨is, by simp, hok2.rise, hok2.len, hok2.low rfl, by simp⟩
    ·exact Or.inr ⟨[], by simp [hl], List.Pairwise.nil, by simp, fun x hx => (by cases hx), by simp [hl]⟩
   ·exact Or.inl ⟨by simp [hr], by simp [hr]⟩
set_option maxRecDepth 100000 in
set_option maxHeartbeats 1000000 in
theorem cloneO_any (s : SlR) (l : List UInt8) (w : World) (h : BS w s l) (hl : l.length ≤ 1000) :
  Calls Tryz.prog 30 #[s.val] w fun e w' => ∃ s' : SlR, e = .returned (.slice s'.a s'.n s'.cap) ∧ OwnB w' w.heap.size s'.val l ∧ Below w.heap.size w w' := by
 obtain ⟨a, n, cap⟩ := s
 obtain ⟨hs, hn, hnil, _⟩ := h
 simp only at hs hn hnil
 unfold SlR.val
 have he := fun w => run_eql_slice_nil (P := Tryz.prog) w 38 5 a n cap Tryz.underlying38
 cases a with
 | none =>
  obtain rfl : l = [] := by
   cases l with
   | nil => rfl
   | cons y r => obtain ⟨b, o, ha, _⟩ := hs 0 (by simp); cases ha
  obtain rfl : n = 0 := by simpa using hn
  obtain rfl := hnil rfl
  clear hs hn hnil hl
  go_enter Tryz.func30, Tryz.ntmps30
  go_wp2
  go_ret
  exact ⟨⟨none, 0, 0⟩, rfl, World.ownsRow_nil _ _ _ _, Below.refl _ _⟩
 | some x =>
  have hb1 : OwnB (w.alloc (.cells #[] 5)) w.heap.size (.slice (some ⟨w.heap.size, 0, none⟩) 0 0) [] := OwnB.built w w.heap.size [] (Nat.le_refl _) (by simp [maxLen])
  have hs1 : SlB (w.alloc (.cells #[] 5)) (some x) l := hs.below ((Below.refl _ _).alloc (Nat.le_refl _) _) (Nat.le_refl _)
  have HN : Hid (n = l.length) := hn
  clear hn hs
  go_enter Tryz.func30, Tryz.ntmps30
  go_wp2_with (at_builtin; refine wp_appendB (by rfl) (.tmp 5) (.tmp 6) (by rfl) w.heap.size _ [] (by rfl) hb1 (some x) n cap l (by rfl) HN.out hs1 (fun h => by cases h) (by simp; omega) (by simp) ?_; intro a' n' cap' w4 hn' ho' hs' hf' hat'; clear hn')
  go_ret
  refine ⟨⟨a', n', cap'⟩, rfl, ho', ?_⟩
  exact ((Below.refl _ _).alloc (Nat.le_refl _) _).trans (hf'.below (by simp) (fun k hk => by simp [Value.ownBlock] at hk; omega))
set_option maxRecDepth 100000 in
set_option maxHeartbeats 1000000 in
theorem readKey_any (sk sp : SlR) (key proof root : List UInt8) (w : World) (hr : root.length = 8) (hk : BS w sk key) (hp : BS w sp proof) (hpc : sp.n ≤ sp.cap) (hM : proof.length ≤ 1000000000) :
  Calls Tryz.prog 28 #[dV root, .slice sk.a sk.n sk.cap, .slice sp.a sp.n sp.cap] w (rrPost w (blkOf sp) (rrd root key key proof)) := by
 obtain ⟨d0, d1, d2, d3, d4, d5, d6, d7, rfl⟩ := list8 root hr
 have hA : Below w.heap.size w (w.alloc (.cells #[.int .u8 (d0.toNat : Int), .int .u8 (d1.toNat : Int), .int .u8 (d2.toNat : Int), .int .u8 (d3.toNat : Int), .int .u8 (d4.toNat : Int), .int .u8 (d5.toNat : Int), .int .u8 (d6.toNat : Int), .int .u8 (d7.toNat : Int)] 36)) := (Below.refl _ _).alloc (Nat.le_refl _) _
 have HRR : Hid (Calls _ _ _ _ _) := readRange_any sk sk sp key key proof [d0, d1, d2, d3, d4, d5, d6, d7] _ rfl (hk.below hA) (hk.below hA) (hp.below hA) hpc hM
 rw [show dV [d0, d1, d2, d3, d4, d5, d6, d7] = .agg #[.int .u8 (d0.toNat : Int), .int .u8 (d1.toNat : Int), .int .u8 (d2.toNat : Int), .int .u8 (d3.toNat : Int), .int .u8 (d4.toNat : Int), .int .u8 (d5.toNat : Int), .int .u8 (d6.toNat : Int), .int .u8 (d7.toNat : Int)] from rfl] at HRR ⊢
 have k0 : (w.alloc (.cells #[.int .u8 (d0.toNat : Int), .int .u8 (d1.toNat : Int), .int .u8 (d2.toNat : Int), .int .u8 (d3.toNat : Int), .int .u8 (d4.toNat : Int), .int .u8 (d5.toNat : Int), .int .u8 (d6.toNat : Int), .int .u8 (d7.toNat : Int)] 36)).cell? ⟨w.heap.size, 0, none⟩ = some (.int .u8 (d0.toNat : Int)) := (RowV.new w 36 ([d0, d1, d2, d3, d4, d5, d6, d7].map u8c)).cell 0 (by simp)
 have k1 : (w.alloc (.cells #[.int .u8 (d0.toNat : Int), .int .u8 (d1.toNat : Int), .int .u8 (d2.toNat : Int), .int .u8 (d3.toNat : Int), .int .u8 (d4.toNat : Int), .int .u8 (d5.toNat : Int), .int .u8 (d6.toNat : Int), .int .u8 (d7.toNat : Int)] 36)).cell? ⟨w.heap.size, 1, none⟩ = some (.int .u8 (d1.toNat : Int)) := (RowV.new w 36 ([d0, d1, d2, d3, d4, d5, d6, d7].map u8c)).cell 1 (by simp)
 have k2 : (w.alloc (.cells #[.int .u8 (d0.toNat : Int), .int .u8 (d1.toNat : Int), .int .u8 (d2.toNat : Int), .int .u8 (d3.toNat : Int), .int .u8 (d4.toNat : Int), .int .u8 (d5.toNat : Int), .int .u8 (d6.toNat : Int), .int .u8 (d7.toNat : Int)] 36)).cell? ⟨w.heap.size, 2, none⟩ = some (.int .u8 (d2.toNat : Int)) := (RowV.new w 36 ([d0, d1, d2, d3, d4, d5, d6, d7].map u8c)).cell 2 (by simp)
 have k3 : (w.alloc (.cells #[.int .u8 (d0.toNat : Int), .int .u8 (d1.toNat : Int), .int .u8 (d2.toNat : Int), .int .u8 (d3.toNat : Int), .int .u8 (d4.toNat : Int), .int .u8 (d5.toNat : Int), .int .u8 (d6.toNat : Int), .int .u8 (d7.toNat : Int)] 36)).cell? ⟨w.heap.size, 3, none⟩ = some (.int .u8 (d3.toNat : Int)) := (RowV.new w 36 ([d0, d1, d2, d3, d4, d5, d6, d7].map u8c)).cell 3 (by simp)
 have k4 : (w.alloc (.cells #[.int .u8 (d0.toNat : Int), .int .u8 (d1.toNat : Int), .int .u8 (d2.toNat : Int), .int .u8 (d3.toNat : Int), .int .u8 (d4.toNat : Int), .int .u8 (d5.toNat : Int), .int .u8 (d6.toNat : Int), .int .u8 (d7.toNat : Int)] 36)).cell? ⟨w.heap.size, 4, none⟩ = some (.int .u8 (d4.toNat : Int)) := (RowV.new w 36 ([d0, d1, d2, d3, d4, d5, d6, d7].map u8c)).cell 4 (by simp)
 have k5 : (w.alloc (.cells #[.int .u8 (d0.toNat : Int), .int .u8 (d1.toNat : Int), .int .u8 (d2.toNat : Int), .int .u8 (d3.toNat : Int), .int .u8 (d4.toNat : Int), .int .u8 (d5.toNat : Int), .int .u8 (d6.toNat : Int), .int .u8 (d7.toNat : Int)] 36)).cell? ⟨w.heap.size, 5, none⟩ = some (.int .u8 (d5.toNat : Int)) := (RowV.new w 36 ([d0, d1, d2, d3, d4, d5, d6, d7].map u8c)).cell 5 (by simp)
 have k6 : (w.alloc (.cells #[.int .u8 (d0.toNat : Int), .int .u8 (d1.toNat : Int), .int .u8 (d2.toNat : Int), .int .u8 (d3.toNat : Int), .int .u8 (d4.toNat : Int), .int .u8 (d5.toNat : Int), .int .u8 (d6.toNat : Int), .int .u8 (d7.toNat : Int)] 36)).cell? ⟨w.heap.size, 6, none⟩ = some (.int .u8 (d6.toNat : Int)) := (RowV.new w 36 ([d0, d1, d2, d3, d4, d5, d6, d7].map u8c)).cell 6 (by simp)
 have k7 : (w.alloc (.cells #[.int .u8 (d0.toNat : Int), .int .u8 (d1.toNat : Int), .int .u8 (d2.toNat : Int), .int .u8 (d3.toNat : Int), .int .u8 (d4.toNat : Int), .int .u8 (d5.toNat : Int), .int .u8 (d6.toNat : Int), .int .u8 (d7.toNat : Int)] 36)).cell? ⟨w.heap.size, 7, none⟩ = some (.int .u8 (d7.toNat : Int)) := (RowV.new w 36 ([d0, d1, d2, d3, d4, d5, d6, d7].map u8c)).cell 7 (by simp)
 have HA : Hid (Below w.heap.size w (w.alloc (.cells #[.int .u8 (d0.toNat : Int), .int .u8 (d1.toNat : Int), .int .u8 (d2.toNat : Int), .int .u8 (d3.toNat : Int), .int .u8 (d4.toNat : Int), .int .u8 (d5.toNat : Int), .int .u8 (d6.toNat : Int), .int .u8 (d7.toNat : Int)] 36))) := hA
 clear hr hk hp hpc hM hA
 generalize rrd [d0, d1, d2, d3, d4, d5, d6, d7] key key proof = R at *
 go_enter Tryz.func28, Tryz.ntmps28
 go_wp2_with fail
 refine HRR.out.mono ?_
 rintro e w1 ⟨hb1, hm⟩
 have HB1 : Hid (Below w.heap.size w w1) := HA.out.trans (hb1.mono (by simp))
 cases R with
 | none =>
  obtain rfl : e = _ := hm
  go_wp2
  go_ret2
  exact ⟨HB1.out, rfl⟩
 | some es =>
  obtain ⟨v, ys, rfl, hen⟩ := hm
  unfold SlR.val
  go_wp2
  go_ret2
  exact ⟨HB1.out, v, ys, rfl, hen.toBase (by simp)⟩
end Go.Proofs.YtekegfbjbainhaaGreat


namespace Go.Proofs.YtekegfbjbainhaaGreat
open Go.RowKit
attribute [local go_sem ↓] Go.wp_at_zero Go.wp_at_succ
def chkPP (w : World) (q : Nat × Option (List UInt8)) (e : Ending) (w' : World) : Prop := ∃ v : SlR, e = .returned (.tuple #[.agg #[.bool q.2.isSome, v.val], .int .i64 (q.1 : Int)]) ∧ Below w.heap.size w w' ∧ OwnB w' w.heap.size v.val (q.2.getD [])
set_option maxRecDepth 100000 in
set_option maxHeartbeats 4000000 in
theorem checkP_any (sk sp : SlR) (key proof root : List UInt8) (w : World) (hr : root.length = 8) (hk : BS w sk key) (hp : BS w sp proof) (hpc : sp.n ≤ sp.cap) (hkm : key.length ≤ maxLen) (hM : proof.length ≤ 1000000000) :
  Calls Tryz.prog 15 #[dV root, sk.val, sp.val] w (chkPP w (chkR root key proof)) := by
 obtain ⟨d0, d1, d2, d3, d4, d5, d6, d7, rfl⟩ := list8 root hr
 have hB2 : Below w.heap.size w ((w.alloc (.cells #[.int .u8 (d0.toNat : Int), .int .u8 (d1.toNat : Int), .int .u8 (d2.toNat : Int), .int .u8 (d3.toNat : Int), .int .u8 (d4.toNat : Int), .int .u8 (d5.toNat : Int), .int .u8 (d6.toNat : Int), .int .u8 (d7.toNat : Int)] 36)).alloc (.cells #[.bool false, .slice none 0 0] 49)) := ((Below.refl _ _).alloc (Nat.le_refl _) _).alloc (by simp) _
 have HKF : Hid (Calls _ _ _ _ _) := isKey_any sk.a sk.n sk.cap ((w.alloc (.cells #[.int .u8 (d0.toNat : Int), .int .u8 (d1.toNat : Int), .int .u8 (d2.toNat : Int), .int .u8 (d3.toNat : Int), .int .u8 (d4.toNat : Int), .int .u8 (d5.toNat : Int), .int .u8 (d6.toNat : Int), .int .u8 (d7.toNat : Int)] 36)).alloc (.cells #[.bool false, .slice none 0 0] 49)) (by rw [hk.n]; exact hkm)
 have hkb : (decide (1 ≤ sk.n) && decide (sk.n ≤ 12)) = keyOk key := by rw [hk.n]; rfl
 rw [hkb] at HKF
 rw [show dV [d0, d1, d2, d3, d4, d5, d6, d7] = .agg #[.int .u8 (d0.toNat : Int), .int .u8 (d1.toNat : Int), .int .u8 (d2.toNat : Int), .int .u8 (d3.toNat : Int), .int .u8 (d4.toNat : Int), .int .u8 (d5.toNat : Int), .int .u8 (d6.toNat : Int), .int .u8 (d7.toNat : Int)] from rfl]
 unfold SlR.val
 have HB2 : Hid (Below w.heap.size w ((w.alloc (.cells #[.int .u8 (d0.toNat : Int), .int .u8 (d1.toNat : Int), .int .u8 (d2.toNat : Int), .int .u8 (d3.toNat : Int), .int .u8 (d4.toNat : Int), .int .u8 (d5.toNat : Int), .int .u8 (d6.toNat : Int), .int .u8 (d7.toNat : Int)] 36)).alloc (.cells #[.bool false, .slice none 0 0] 49))) := hB2
 have HD0 : Hid (RowV ((w.alloc (.cells #[.int .u8 (d0.toNat : Int), .int .u8 (d1.toNat : Int), .int .u8 (d2.toNat : Int), .int .u8 (d3.toNat : Int), .int .u8 (d4.toNat : Int), .int .u8 (d5.toNat : Int), .int .u8 (d6.toNat : Int), .int .u8 (d7.toNat : Int)] 36)).alloc (.cells #[.bool false, .slice none 0 0] 49)) w.heap.size 36 ([d0, d1, d2, d3, d4, d5, d6, d7].map u8c)) := (RowV.new w 36 ([d0, d1, d2, d3, d4, d5, d6, d7].map u8c)).alloc _
 have HA0 : Hid (RowV ((w.alloc (.cells #[.int .u8 (d0.toNat : Int), .int .u8 (d1.toNat : Int), .int .u8 (d2.toNat : Int), .int .u8 (d3.toNat : Int), .int .u8 (d4.toNat : Int), .int .u8 (d5.toNat : Int), .int .u8 (d6.toNat : Int), .int .u8 (d7.toNat : Int)] 36)).alloc (.cells #[.bool false, .slice none 0 0] 49)) (w.heap.size + 1) 49 [.bool false, .slice none 0 0]) := RowV.new_at _ _ _ _ (by simp)
 have HK : Hid (BS ((w.alloc (.cells #[.int .u8 (d0.toNat : Int), .int .u8 (d1.toNat : Int), .int .u8 (d2.toNat : Int), .int .u8 (d3.toNat : Int), .int .u8 (d4.toNat : Int), .int .u8 (d5.toNat : Int), .int .u8 (d6.toNat : Int), .int .u8 (d7.toNat : Int)] 36)).alloc (.cells #[.bool false, .slice none 0 0] 49)) sk key) := hk.below hB2
 have HRK : Hid (Calls _ _ _ _ _) := readKey_any sk sp key proof [d0, d1, d2, d3, d4, d5, d6, d7] ((w.alloc (.cells #[.int .u8 (d0.toNat : Int), .int .u8 (d1.toNat : Int), .int .u8 (d2.toNat : Int), .int .u8 (d3.toNat : Int), .int .u8 (d4.toNat : Int), .int .u8 (d5.toNat : Int), .int .u8 (d6.toNat : Int), .int .u8 (d7.toNat : Int)] 36)).alloc (.cells #[.bool false, .slice none 0 0] 49)) rfl (hk.below hB2) (hp.below hB2) hpc hM
 rw [show dV [d0, d1, d2, d3, d4, d5, d6, d7] = .agg #[.int .u8 (d0.toNat : Int), .int .u8 (d1.toNat : Int), .int .u8 (d2.toNat : Int), .int .u8 (d3.toNat : Int), .int .u8 (d4.toNat : Int), .int .u8 (d5.toNat : Int), .int .u8 (d6.toNat : Int), .int .u8 (d7.toNat : Int)] from rfl] at HRK
 clear hk hp hpc hkm hkb hr hB2 hM
 obtain ⟨q, hq⟩ : ∃ q, chkR [d0, d1, d2, d3, d4, d5, d6, d7] key proof = q := ⟨_, rfl⟩
 rw [hq]
 have HQ : Hid (chkR [d0, d1, d2, d3, d4, d5, d6, d7] key proof = q) := hq
 clear hq
 go_enter Tryz.func15, Tryz.ntmps15
 go_upto_region 1 with fail
 generalize (w.alloc (.cells #[.int .u8 (d0.toNat : Int), .int .u8 (d1.toNat : Int), .int .u8 (d2.toNat : Int), .int .u8 (d3.toNat : Int), .int .u8 (d4.toNat : Int), .int .u8 (d5.toNat : Int), .int .u8 (d6.toNat : Int), .int .u8 (d7.toNat : Int)] 36)).alloc (.cells #[.bool false, .slice none 0 0] 49) = W at *
 cases hkf : keyOk key with
 | false =>
  rw [hkf] at HKF
  have HQ1 : Hid (q = (1, none)) := by unfold Hid; rw [← HQ.out]; unfold chkR; rw [if_neg (by rw [hkf]; simp)]
  have a0 := HA0.out.cell 0 (by simp)
  have a1 := HA0.out.cell 1 (by simp)
  have f0 := HA0.out.frozen 0
  have f1 := HA0.out.frozen 1
  simp only [List.getElem_cons_zero, List.getElem_cons_succ] at a0 a1
  go_wp2_with (go_at_call 27; refine HKF.out.mono ?_; rintro r w1 ⟨rfl, hw1⟩; obtain rfl : W = w1 := hw1.symm; clear hw1)
  have hf : Frame (fun k => k = w.heap.size + 1) W ((W.setCell ⟨w.heap.size + 1, 0, none⟩ (.bool false)).setCell ⟨w.heap.size + 1, 1, none⟩ (.slice none 0 0)) := ((Frame.refl (fun k => k = w.heap.size + 1) W).setCell (p := ⟨w.heap.size + 1, 0, none⟩) rfl _).setCell (p := ⟨w.heap.size + 1, 1, none⟩) rfl _
  exact ret_agg2 (k := 6) (k2 := 7) (cs := [.bool false, .slice none 0 0]) rfl rfl rfl (by simpa using (RowV.set HA0.out 0 (.bool false)).set 1 (.slice none 0 0)) Tryz.underlying49 rfl Tryz.sizeAnswer rfl (by rw [HQ1.out]; exact ⟨⟨none, 0, 0⟩, rfl, HB2.out.trans (hf.below HB2.out.size (fun k hk => by omega)), World.ownsRow_nil _ _ _ _⟩)
 | true =>
  rw [hkf] at HKF
  have HQ1 : Hid (q = match checkF [d0, d1, d2, d3, d4, d5, d6, d7] key proof with
    | none => (5, none)
    | some a => (0, a)) := by unfold Hid; rw [← HQ.out]; unfold chkR; rw [if_pos hkf]; cases checkF [d0, d1, d2, d3, d4, d5, d6, d7] key proof <;> rfl
  have k0 : W.cell? ⟨w.heap.size, 0, none⟩ = some (.int .u8 (d0.toNat : Int)) := HD0.out.cell 0 (by simp)
  have k1 : W.cell? ⟨w.heap.size, 1, none⟩ = some (.int .u8 (d1.toNat : Int)) := HD0.out.cell 1 (by simp)
  have k2 : W.cell? ⟨w.heap.size, 2, none⟩ = some (.int .u8 (d2.toNat : Int)) := HD0.out.cell 2 (by simp)
  have k3 : W.cell? ⟨w.heap.size, 3, none⟩ = some (.int .u8 (d3.toNat : Int)) := HD0.out.cell 3 (by simp)
  have k4 : W.cell? ⟨w.heap.size, 4, none⟩ = some (.int .u8 (d4.toNat : Int)) := HD0.out.cell 4 (by simp)
  have k5 : W.cell? ⟨w.heap.size, 5, none⟩ = some (.int .u8 (d5.toNat : Int)) := HD0.out.cell 5 (by simp)
  have k6 : W.cell? ⟨w.heap.size, 6, none⟩ = some (.int .u8 (d6.toNat : Int)) := HD0.out.cell 6 (by simp)
  have k7 : W.cell? ⟨w.heap.size, 7, none⟩ = some (.int .u8 (d7.toNat : Int)) := HD0.out.cell 7 (by simp)
  go_wp2_with (go_at_call 27; refine HKF.out.mono ?_; rintro r w1 ⟨rfl, hw1⟩; obtain rfl : W = w1 := hw1.symm; clear hw1)
  refine HRK.out.mono ?_
  rintro e w3 ⟨hb3, hm⟩
  have HA3 : Hid (RowV w3 (w.heap.size + 1) 49 [.bool false, .slice none 0 0]) := RowV.below HA0.out HA0.out.lt hb3
  have HB3 : Hid (Below w.heap.size w w3) := HB2.out.trans (hb3.mono HB2.out.size)
  have HK3 : Hid (BS w3 sk key) := HK.out.below hb3
  have HW3 : Hid (w.heap.size ≤ W.heap.size) := HB2.out.size
  have HFA : Hid (∀ (wx : World) (v v' : Value), Below w3.heap.size w3 wx → RowV ((wx.setCell ⟨w.heap.size + 1, 0, none⟩ v).setCell ⟨w.heap.size + 1, 1, none⟩ v') (w.heap.size + 1) 49 [v, v'] ∧ Below w.heap.size w ((wx.setCell ⟨w.heap.size + 1, 0, none⟩ v).setCell ⟨w.heap.size + 1, 1, none⟩ v') ∧ Frame (fun k => k = w.heap.size + 1) wx ((wx.setCell ⟨w.heap.size + 1, 0, none⟩ v).setCell ⟨w.heap.size + 1, 1, none⟩ v')) := fun wx v v' hx => by
   have hf : Frame (fun k => k = w.heap.size + 1) wx ((wx.setCell ⟨w.heap.size + 1, 0, none⟩ v).setCell ⟨w.heap.size + 1, 1, none⟩ v') := ((Frame.refl (fun k => k = w.heap.size + 1) wx).setCell (p := ⟨w.heap.size + 1, 0, none⟩) rfl _).setCell (p := ⟨w.heap.size + 1, 1, none⟩) rfl _
   have hb := HB3.out.trans (hx.mono HB3.out.size)
   exact ⟨by simpa using (RowV.set (RowV.below HA3.out HA3.out.lt hx) 0 v).set 1 v', hb.trans (hf.below hb.size (fun k hk => by omega)), hf⟩
  clear k0 k1 k2 k3 k4 k5 k6 k7 HRK HKF hb3 HA0 HD0 HK
  rcases rrd_key [d0, d1, d2, d3, d4, d5, d6, d7] key proof with ⟨hcn, hrn⟩ | ⟨es, hre, hrise, h60, h12, hcf⟩
  ·rw [hrn] at hm
   obtain rfl : e = _ := hm
   have HQ5 : Hid (q = (5, none)) := by unfold Hid; rw [HQ1.out, hcn]
   have a0 := HA3.out.cell 0 (by simp)
   have a1 := HA3.out.cell 1 (by simp)
   have f0 := HA3.out.frozen 0
   have f1 := HA3.out.frozen 1
   simp only [List.getElem_cons_zero, List.getElem_cons_succ] at a0 a1
   clear hcn hrn
   go_wp2
   obtain ⟨h1, h2, h3⟩ := HFA.out w3 (.bool false) (.slice none 0 0) (Below.refl _ _)
   exact ret_agg2 (k := 6) (k2 := 7) (cs := [.bool false, .slice none 0 0]) rfl rfl rfl h1 Tryz.underlying49 rfl Tryz.sizeAnswer rfl (by rw [HQ5.out]; exact ⟨⟨none, 0, 0⟩, rfl, h2, World.ownsRow_nil _ _ _ _⟩)
  ·rw [hre] at hm
   obtain ⟨v, ys, rfl, hen⟩ := hm
   have HQ0 : Hid (q = (0, if thereB es key = true then some (es.getD (placeN es key) it0).more else none)) := by unfold Hid; rw [HQ1.out, hcf, ← find_place hrise key]
   have hvn : v.n = ys.length := (SlV.ofOwn (s := v) hen.own).2
   have HFI : Hid (Calls _ _ _ _ _) := find_any v ys es sk key w3 hvn hen.len.symm (by rw [hen.len]; exact h60) (SlV.ofOwn (s := v) hen.own).1 (fun i h1 h2 => ⟨(hen.en i h1 h2).key.bs, ((hen.en i h1 h2).low rfl).1.bs, ((hen.en i h1 h2).low rfl).2⟩) hrise HK3.out
   have HEN : Hid (EnsL 0 w3 (blkOf sp) W.heap.size v ys es) := hen
   have H60 : Hid (es.length ≤ 60) := h60
   have H12 : Hid (∀ x ∈ es, x.more.length ≤ 12) := h12
   have HVN : Hid (v.n = ys.length) := hvn
   clear hre hrise h60 h12 hcf hen hvn
   unfold SlR.val
   unfold SlR.val at HFI
   go_wp2_with fail
   refine HFI.out.mono ?_
   rintro e w4 ⟨rfl, hb4⟩
   have HA4 : Hid (RowV w4 (w.heap.size + 1) 49 [.bool false, .slice none 0 0]) := RowV.below HA3.out HA3.out.lt hb4
   cases hth : thereB es key with
   | false =>
    have HQ5 : Hid (q = (0, none)) := by unfold Hid; rw [HQ0.out, hth]; rfl
    have a0 := HA4.out.cell 0 (by simp)
    have a1 := HA4.out.cell 1 (by simp)
    have f0 := HA4.out.frozen 0
    have f1 := HA4.out.frozen 1
    simp only [List.getElem_cons_zero, List.getElem_cons_succ] at a0 a1
    go_wp2
    obtain ⟨h1, h2, h3⟩ := HFA.out w4 (.bool false) (.slice none 0 0) hb4
    exact ret_agg2 (k := 6) (k2 := 7) (cs := [.bool false, .slice none 0 0]) rfl rfl rfl h1 Tryz.underlying49 rfl Tryz.sizeAnswer rfl (by rw [HQ5.out]; exact ⟨⟨none, 0, 0⟩, rfl, h2, World.ownsRow_nil _ _ _ _⟩)
   | true =>
    have hplt := thereB_lt hth
    have HQ5 : Hid (q = (0, some es[placeN es key].more)) := by
     unfold Hid; rw [HQ0.out, hth, if_pos rfl, List.getD_eq_getElem?_getD, List.getElem?_eq_getElem hplt]; rfl
    have HEN4 := HEN.out.below hb4
    have hyx : placeN es key < ys.length := by rw [HEN.out.len]; exact hplt
    obtain ⟨b, o, hca, hbb, hrg⟩ := SlE.range (SlV.ofOwn (s := v) HEN4.own).1 HEN4.d8 _ hyx
    have hen := HEN4.en _ hyx hplt
    have hm12 := H12.out _ (List.getElem_mem hplt)
    have hpI : (placeN es key : Int) < v.n := by rw [HVN.out]; omega
    generalize es[placeN es key].more = mo at *
    generalize es[placeN es key].key = kk at *
    generalize ys[placeN es key] = y at *
    generalize placeN es key = p at *
    have c1 : w4.cell? ⟨b, o + p * 10 + 1, none⟩ = some (.slice y.v.a y.v.n y.v.cap) := hrg 1 _ rfl
    have HCL : Hid (Calls _ _ _ _ _) := cloneO_any y.v mo w4 (hen.low rfl).1.bs (by omega)
    have HB4 : Hid (Below w3.heap.size w3 w4) := hb4
    obtain ⟨va, vn, vc⟩ := v
    simp only at hca hpI
    subst hca
    unfold SlR.val at HCL
    clear hrg hen HEN4 hyx hplt hth HFI hb4 hm12
    go_wp2_with fail
    refine HCL.out.mono ?_
    rintro e w5 ⟨s5, rfl, ho5, hb5⟩
    have HB5 : Hid (Below w3.heap.size w3 w5) := HB4.out.trans (hb5.mono HB4.out.size)
    have HA5 : Hid (RowV w5 (w.heap.size + 1) 49 [.bool false, .slice none 0 0]) := RowV.below HA4.out HA4.out.lt hb5
    have a0 := HA5.out.cell 0 (by simp)
    have a1 := HA5.out.cell 1 (by simp)
    have f0 := HA5.out.frozen 0
    have f1 := HA5.out.frozen 1
    simp only [List.getElem_cons_zero, List.getElem_cons_succ] at a0 a1
    have HO5 : Hid (OwnB w5 w.heap.size s5.val mo) := owns_base ho5 (fun k hk => by have := (ho5.lt k hk).1; have := HB3.out.size; have := HB4.out.size; omega)
    clear ho5 hb5 c1
    go_wp2
    obtain ⟨h1, h2, h3⟩ := HFA.out w5 (.bool true) (.slice s5.a s5.n s5.cap) HB5.out
    exact ret_agg2 (k := 6) (k2 := 7) (cs := [.bool true, .slice s5.a s5.n s5.cap]) rfl rfl rfl h1 Tryz.underlying49 rfl Tryz.sizeAnswer rfl (by rw [HQ5.out]; exact ⟨s5, rfl, h2, owns_frame HO5.out h3 (fun k hk e => owns_ne HO5.out HA5.out (by decide) (by rw [hk, e]))⟩)
end Go.Proofs.YtekegfbjbainhaaGreat


namespace Go.Proofs.YtekegfbjbainhaaGreat
open Go.RowKit
attribute [local go_sem ↓] Go.wp_at_zero Go.wp_at_succ
def flatE (es : List (SlR × SlR)) : List SlR := es.flatMap (fun e => [e.1, e.2])
def flatL (l : List ItR) : List (List UInt8) := l.flatMap (fun x => [x.key, x.more])
def apartS (a b : SlR) : Prop := ∀ k, a.val.ownBlock = some k → b.val.ownBlock ≠ some k
theorem flatE_length (es : List (SlR × SlR)) : (flatE es).length = es.length * 2 := by
 induction es with
 | nil => rfl
 | cons e es ih => simp only [flatE, List.flatMap_cons, List.length_append] at ih ⊢; rw [ih]; simp; omega
theorem flatL_length (l : List ItR) : (flatL l).length = l.length * 2 := by
 induction l with
 | nil => rfl
 | cons e es ih => simp only [flatL, List.flatMap_cons, List.length_append] at ih ⊢; rw [ih]; simp; omega
structure EntsO (w : World) (base : Nat) (v : SlR) (es : List (SlR × SlR)) (l : List ItR) : Prop where
 own : w.ownsRow base 164 2 v.val es.length (entsC es)
 len : es.length = l.length
 ob : ∀ i (h1 : i < (flatE es).length) (h2 : i < (flatL l).length), OwnB w base (flatE es)[i].val (flatL l)[i]
 pw : (flatE es).Pairwise apartS
theorem EntsO.nil (w : World) (base : Nat) : EntsO w base ⟨none, 0, 0⟩ [] [] := ⟨World.ownsRow_nil _ _ _ _, rfl, fun i h => absurd h (Nat.not_lt_zero _), List.Pairwise.nil⟩
theorem EntsO.frame {w w' : World} {S : Nat → Prop} {base : Nat} {v : SlR} {es : List (SlR × SlR)} {l : List ItR} (h : EntsO w base v es l) (hf : Frame S w w') (hS : ∀ k, S k → k < base) : EntsO w' base v es l :=
 ⟨owns_frame h.own hf (fun k hk e => by have := (h.own.lt k hk).1; have := hS k e; omega), h.len, fun i h1 h2 => owns_frame (h.ob i h1 h2) hf (fun k hk e => by have := ((h.ob i h1 h2).lt k hk).1; have := hS k e; omega), h.pw⟩
theorem EntsO.below {w w' : World} {base : Nat} {v : SlR} {es : List (SlR × SlR)} {l : List ItR} (h : EntsO w base v es l) (hf : Below w.heap.size w w') : EntsO w' base v es l := h.frame (Frame.of_below_all (S := fun _ => False) hf) (fun _ e => e.elim)
theorem EntsO.toBase {w : World} {base base' : Nat} {v : SlR} {es : List (SlR × SlR)} {l : List ItR} (h : EntsO w base v es l) (hb : base' ≤ base) : EntsO w base' v es l :=
 ⟨owns_base h.own (fun k hk => Nat.le_trans hb (h.own.lt k hk).1), h.len, fun i h1 h2 => owns_base (h.ob i h1 h2) (fun k hk => Nat.le_trans hb ((h.ob i h1 h2).lt k hk).1), h.pw⟩
theorem owns_apart {w : World} {base base' e e' size size' n n' : Nat} {v v' : Value} {xs xs' : List Value} (h : w.ownsRow base e size v n xs) (h' : w.ownsRow base' e' size' v' n' xs') (hne : e ≠ e') : ∀ k, v.ownBlock = some k → v'.ownBlock ≠ some k := fun k hk hk' => by
 rcases h.2 with ⟨hv, _⟩ | ⟨g, cap, cur, hv, hg, hb, _⟩
 ·rw [hv] at hk; simp [Value.ownBlock] at hk
 ·rcases h'.2 with ⟨hv', _⟩ | ⟨g', cap', cur', hv', hg', hb', _⟩
  ·rw [hv'] at hk'; simp [Value.ownBlock] at hk'
  ·rw [hv] at hk; rw [hv'] at hk'
   simp [Value.ownBlock] at hk hk'
   subst hk; subst hk'
   rw [hb] at hb'
   simp at hb'
   exact hne hb'.2
theorem EntsO.push {w w' : World} {base N : Nat} {v v' : SlR} {es : List (SlR × SlR)} {l : List ItR} {s1 s2 : SlR} {x : ItR} (h : EntsO w base v es l) (h1 : OwnB w base s1.val x.key) (h2 : OwnB w base s2.val x.more) (hlt : ∀ i (g : i < (flatE es).length), ∀ k, (flatE es)[i].val.ownBlock = some k → k < N) (hn1 : ∀ k, s1.val.ownBlock = some k → N ≤ k) (hn2 : ∀ k, s2.val.ownBlock = some k → N ≤ k) (h12 : apartS s1 s2)
  (ho : w'.ownsRow base 164 2 v'.val (es.length + 1) (entsC es ++ entsC [(s1, s2)])) (hf : Frame (fun k => v.val.ownBlock = some k) w w') : EntsO w' base v' (es ++ [(s1, s2)]) (l ++ [x]) := by
 have eE : flatE (es ++ [(s1, s2)]) = flatE es ++ [s1, s2] := by simp [flatE]
 have eL : flatL (l ++ [x]) = flatL l ++ [x.key, x.more] := by simp [flatL]
 have hll : (flatE es).length = (flatL l).length := by rw [flatE_length, flatL_length, h.len]
 refine ⟨by rw [List.length_append, entsC_append]; exact ho, by rw [List.length_append, List.length_append, h.len]; rfl, fun i g1 g2 => ?_, ?_⟩
 ·have key : OwnB w base (flatE (es ++ [(s1, s2)]))[i].val (flatL (l ++ [x]))[i] := by
   simp only [eE, eL] at g1 g2 ⊢
   by_cases hi : i < (flatE es).length
   ·rw [List.getElem_append_left hi, List.getElem_append_left (by rw [← hll]; exact hi)]
    exact h.ob i hi _
   ·rw [List.getElem_append_right (by omega), List.getElem_append_right (by rw [← hll]; omega)]
    simp only [← hll]
    have hd : i - (flatE es).length = 0 ∨ i - (flatE es).length = 1 := by simp at g1; omega
    rcases hd with e | e
    ·simp only [e]; exact h1
    ·simp only [e]; exact h2
  exact owns_frame key hf (fun k hk e => owns_apart key h.own (by decide) k hk e)
 ·rw [eE, List.pairwise_append]
  refine ⟨h.pw, by simp [h12], fun a ha b hb k hk hk' => ?_⟩
  obtain ⟨i, hi, rfl⟩ := List.mem_iff_getElem.1 ha
  have := hlt i hi k hk
  simp only [List.mem_cons, List.not_mem_nil, or_false] at hb
  rcases hb with rfl | rfl
  ·have := hn1 k hk'; omega
  ·have := hn2 k hk'; omega
def rngPP (w : World) (q : Nat × List ItR) (e : Ending) (w' : World) : Prop := ∃ (v : SlR) (es : List (SlR × SlR)), e = .returned (.tuple #[v.val, .int .i64 (q.1 : Int)]) ∧ Below w.heap.size w w' ∧ EntsO w' w.heap.size v es q.2
theorem rangeC_rrd (root fr tu proof : List UInt8) : rangeC root fr tu proof = (rrd root fr tu proof).map (fun es => es.filter (inR fr tu)) := by
 rw [rangeC_fin]
 unfold rrd finC
 cases rngRd root fr tu proof with
 | none => rfl
 | some q =>
  obtain ⟨es, r⟩ := q
  simp only
  by_cases h : r = []
  ·simp [h]
  ·simp [h]
theorem rrd_ok (root fr tu proof : List UInt8) (es : List ItR) (h : rrd root fr tu proof = some es) : es.length ≤ proof.length := by
 unfold rrd rngRd at h
 cases hp : pgO (some proof) root with
 | none => rw [hp] at h; cases h
 | some q =>
  obtain ⟨⟨lv, its⟩, r⟩ := q
  rw [hp] at h
  simp only at h
  cases hu : readU fr tu lv its r with
  | none => rw [hu] at h; cases h
  | some q2 =>
   obtain ⟨q1, r1⟩ := q2
   rw [hu] at h
   simp only at h
   split at h
   ·cases h
    have h1 := readU_len fr tu lv its r es r1 hu
    have h2 := pgO_len hp
    omega
   ·cases h
theorem readU_ok (fr tu : List UInt8) : ∀ (lv : Nat) (its : List ItR) (r : List UInt8) (es : List ItR) (r' : List UInt8), PageOk lv its → readU fr tu lv its r = some (es, r') → ∀ x ∈ es, x.key.length ≤ 12 ∧ x.more.length ≤ 12
 | 0, its, r, es, r', hok, h => by
  have h' : some (its, r) = some (es, r') := h
  simp only [Option.some.injEq, Prod.mk.injEq] at h'
  obtain ⟨rfl, rfl⟩ := h'
  exact fun x hx => ⟨(hok.key x hx).2, hok.low rfl x hx⟩
 | lv + 1, its, r, es, r', hok, h => by
  have key : ∀ (sel : List ItR) (s : List ItR × List UInt8), (∀ x ∈ s.1, x.key.length ≤ 12 ∧ x.more.length ≤ 12) → sel.foldlM (stepU (readU fr tu lv) lv) s = some (es, r') → ∀ x ∈ es, x.key.length ≤ 12 ∧ x.more.length ≤ 12 := by
   intro sel
   induction sel with
   | nil => intro s h0 hs; simp only [List.foldlM_nil] at hs; cases hs; exact h0
   | cons y ys ih =>
    intro s h0 hs
    simp only [List.foldlM_cons] at hs
    cases e : stepU (readU fr tu lv) lv s y with
    | none => rw [e] at hs; cases hs
    | some t =>
     rw [e] at hs
     refine ih t ?_ hs
     unfold stepU at e
     split at e
     ·cases e
     ·rename_i l its' r1 hp
      split at e
      ·rename_i hl
       subst hl
       cases e2 : readU fr tu l its' r1 with
       | none => rw [e2] at e; cases e
       | some q =>
        obtain ⟨q1, q2⟩ := q
        rw [e2] at e
        simp only [Option.map_some, Option.some.injEq] at e
        subst e
        intro x hx
        rcases List.mem_append.1 hx with hx | hx
        ·exact h0 x hx
        ·exact readU_ok fr tu l its' r1 q1 q2 (pgO_ok hp) e2 x hx
      ·cases e
  exact key _ _ (fun x hx => by cases hx) h
theorem rrd_lens (root fr tu proof : List UInt8) (es : List ItR) (h : rrd root fr tu proof = some es) : ∀ x ∈ es, x.key.length ≤ 12 ∧ x.more.length ≤ 12 := by
 unfold rrd rngRd at h
 cases hp : pgO (some proof) root with
 | none => rw [hp] at h; cases h
 | some q =>
  obtain ⟨⟨lv, its⟩, r⟩ := q
  rw [hp] at h
  simp only at h
  cases hu : readU fr tu lv its r with
  | none => rw [hu] at h; cases h
  | some q2 =>
   obtain ⟨q1, r1⟩ := q2
   rw [hu] at h
   simp only at h
   split at h
   ·cases h
    exact readU_ok fr tu lv its r es r1 (pgO_ok hp) hu
   ·cases h
end Go.Proofs.YtekegfbjbainhaaGreat


namespace Go.Proofs.YtekegfbjbainhaaGreat
open Go.RowKit
attribute [local go_sem ↓] Go.wp_at_zero Go.wp_at_succ
structure EBk where
 r : BkR
 kb : Nat
def ebF (h : EBk) (k : Nat) : Prop := bkF h.r k ∨ k = h.kb
structure BeAt (w : World) (es : SlR) (hs : List EBk) : Prop where
 own : w.ownsRow 0 65 5 es.val hs.length (bksF 0 (hs.map (·.r)))
 ok : ∀ i (h : i < hs.length), BkOk w (patE hs[i].kb) 2 hs[i].r ∧ MkAt w i hs[i].kb
 apart : ∀ h ∈ hs, ∀ k, ebF h k → es.val.ownBlock ≠ some k
def bookE (es : SlR) (hs : List EBk) (k : Nat) : Prop := es.val.ownBlock = some k ∨ ∃ h ∈ hs, ebF h k
theorem BeAt.frame {w w' : World} {S : Nat → Prop} {es : SlR} {hs : List EBk} (h : BeAt w es hs) (hf : Frame S w w') (hS : ∀ k, bookE es hs k → ¬ S k) : BeAt w' es hs :=
 ⟨owns_frame h.own hf (fun k hk => hS k (Or.inl hk)), fun i hi => ⟨(h.ok i hi).1.frame hf (fun k hk => hS k (Or.inr ⟨hs[i], List.getElem_mem hi, Or.inl hk⟩)), (h.ok i hi).2.frame hf (hS _ (Or.inr ⟨hs[i], List.getElem_mem hi, Or.inr rfl⟩))⟩, h.apart⟩
theorem BeAt.below {w w' : World} {es : SlR} {hs : List EBk} (h : BeAt w es hs) (hb : Below w.heap.size w w') : BeAt w' es hs := h.frame (Frame.of_below_all (S := fun _ => False) hb) (fun _ _ e => e)
theorem BeAt.lt {w : World} {es : SlR} {hs : List EBk} (h : BeAt w es hs) : ∀ k, bookE es hs k → k < w.heap.size := fun k hk => by
 rcases hk with hk | ⟨r, hr, hk | hk⟩
 ·exact (h.own.lt k hk).2
 ·obtain ⟨i, hi, rfl⟩ := List.getElem_of_mem hr
  exact (h.ok i hi).1.lt k hk
 ·obtain ⟨i, hi, rfl⟩ := List.getElem_of_mem hr
  rw [hk]; exact (h.ok i hi).2.lt
theorem BeAt.nil (w : World) : BeAt w ⟨none, 0, 0⟩ [] := ⟨World.ownsRow_nil _ _ _ _, fun i h => absurd h (Nat.not_lt_zero _), fun r hr => (by cases hr)⟩
structure EnSt (w0 : World) (wb : Nat) (ps ds es : SlR) (rs0 : List BkR) (bs0 : SlR) (hs : List EBk) (v : SlR) (n : Nat) (xs : List Value) (fl : List SlR) (ll : List (List UInt8)) (base : Nat) (w : World) (bs : SlR) (rs : List BkR) (j : Nat) : Prop where
 row : RowV w wb 34 [ps.val, bs.val, ds.val, es.val]
 bk : BkAt w bs rs
 be : BeAt w es hs
 own : w.ownsRow base 164 2 v.val n xs
 ob : ∀ i (h1 : i < fl.length) (h2 : i < ll.length), j ≤ i → OwnB w base fl[i].val ll[i]
 len : rs.length = rs0.length + j
 old : ∀ k, bookF bs rs k → k < w0.heap.size → bookF bs0 rs0 k ∨ ∃ i, ∃ h : i < fl.length, i < j ∧ fl[i].val.ownBlock = some k
 fr : Frame (fun k => k = wb ∨ bookF bs0 rs0 k ∨ ∃ x ∈ fl, x.val.ownBlock = some k) w0 w
 bw : ∀ k, bookF bs rs k → k ≠ wb
structure EnPre (w0 : World) (wb : Nat) (bs0 : SlR) (rs0 : List BkR) (es : SlR) (hs : List EBk) (fl : List SlR) (ll : List (List UInt8)) (base : Nat) : Prop where
 wl : wb < base
 bb : base ≤ w0.heap.size
 b0 : ∀ k, bookF bs0 rs0 k → k < base ∧ k ≠ wb
 e0 : ∀ k, bookE es hs k → k < base ∧ k ≠ wb ∧ ¬ bookF bs0 rs0 k
 fo : ∀ i (h : i < fl.length), ∀ k, fl[i].val.ownBlock = some k → base ≤ k ∧ k < w0.heap.size
 pw : fl.Pairwise apartS
 ln : fl.length = ll.length
 l12 : ∀ x ∈ ll, x.length ≤ 100000000000000
theorem EnSt.v {w0 w : World} {wb n base j : Nat} {ps ds es bs0 bs v : SlR} {rs0 rs : List BkR} {hs : List EBk} {xs : List Value} {fl : List SlR} {ll : List (List UInt8)} (p : EnPre w0 wb bs0 rs0 es hs fl ll base) (h : EnSt w0 wb ps ds es rs0 bs0 hs v n xs fl ll base w bs rs j) (hj : j < fl.length) : ∀ k, fl[j].val.ownBlock = some k → k ≠ wb ∧ ¬ bookF bs rs k := fun k hk => by
 have h1 := p.fo j hj k hk
 have h2 := p.wl
 refine ⟨by omega, fun hb => ?_⟩
 rcases h.old k hb h1.2 with g | ⟨i, hi, hij, g⟩
 ·have := (p.b0 k g).1; omega
 ·exact List.pairwise_iff_getElem.1 p.pw i j hi hj hij k g hk
theorem EnSt.next {w0 w w' : World} {wb n base j : Nat} {ps ds es bs0 bs bs' v : SlR} {rs0 rs : List BkR} {r : BkR} {hs : List EBk} {xs : List Value} {fl : List SlR} {ll : List (List UInt8)} (p : EnPre w0 wb bs0 rs0 es hs fl ll base) (h : EnSt w0 wb ps ds es rs0 bs0 hs v n xs fl ll base w bs rs j) (hj : j < fl.length)
  (hr : RowV w' wb 34 [ps.val, bs'.val, ds.val, es.val]) (hb : BkAt w' bs' (rs ++ [r])) (hf : Frame (fun k => k = wb ∨ fl[j].val.ownBlock = some k ∨ bs.val.ownBlock = some k) w w') (hn : ∀ k, bookF bs' (rs ++ [r]) k → k < w.heap.size → bookF bs rs k ∨ fl[j].val.ownBlock = some k) :
  EnSt w0 wb ps ds es rs0 bs0 hs v n xs fl ll base w' bs' (rs ++ [r]) (j + 1) := by
 have hz := h.fr.size
 have hbsn : ∀ k, bs.val.ownBlock = some k → k < w0.heap.size → bookF bs0 rs0 k ∨ base ≤ k := fun k hk hlt => by
  rcases h.old k (Or.inl hk) hlt with g | ⟨i, hi, _, g⟩
  ·exact Or.inl g
  ·exact Or.inr (p.fo i hi k g).1
 have hold : ∀ k, bookF bs' (rs ++ [r]) k → k < w0.heap.size → bookF bs0 rs0 k ∨ ∃ i, ∃ h : i < fl.length, i < j + 1 ∧ fl[i].val.ownBlock = some k := fun k hk hlt => by
  rcases hn k hk (by omega) with g | g
  ·rcases h.old k g hlt with g | ⟨i, hi, hij, g⟩
   ·exact Or.inl g
   ·exact Or.inr ⟨i, hi, by omega, g⟩
  ·exact Or.inr ⟨j, hj, by omega, g⟩
 refine ⟨hr, hb, ?_, ?_, ?_, by rw [List.length_append, h.len]; simp; omega, hold, ?_, ?_⟩
 ·refine h.be.frame hf (fun k hk e => ?_)
  have hk2 := p.e0 k hk
  have hbb := p.bb
  rcases e with e | e | e
  ·exact hk2.2.1 e
  ·have := (p.fo j hj k e).1; omega
  ·rcases hbsn k e (by omega) with g | g
   ·exact hk2.2.2 g
   ·omega
 ·refine owns_frame h.own hf (fun k hk e => ?_)
  have hk2 := (h.own.lt k hk).1
  have hwb := p.wl
  rcases e with e | e | e
  ·omega
  ·exact owns_apart h.own (h.ob j hj (by rw [← p.ln]; exact hj) (Nat.le_refl _)) (by decide) k hk e
  ·exact owns_apart h.own h.bk.own (by decide) k hk e
 ·intro i h1 h2 hij
  have ho := h.ob i h1 h2 (by omega)
  refine owns_frame ho hf (fun k hk e => ?_)
  have hk2 := (ho.lt k hk).1
  have hwb := p.wl
  rcases e with e | e | e
  ·omega
  ·exact List.pairwise_iff_getElem.1 p.pw j i hj h1 (by omega) k e hk
  ·exact owns_apart ho h.bk.own (by decide) k hk e
 ·refine h.fr.inside hf (fun k hlt e => ?_)
  rcases e with e | e | e
  ·exact Or.inl e
  ·exact Or.inr (Or.inr ⟨_, List.getElem_mem hj, e⟩)
  ·rcases h.old k (Or.inl e) hlt with g | ⟨i, hi, _, g⟩
   ·exact Or.inr (Or.inl g)
   ·exact Or.inr (Or.inr ⟨_, List.getElem_mem hi, g⟩)
 ·intro k hk e
  subst e
  have hwl : k < w0.heap.size := by have := p.wl; have := p.bb; omega
  rcases hold k hk hwl with g | ⟨i, hi, _, g⟩
  ·exact (p.b0 k g).2 rfl
  ·have := (p.fo i hi k g).1; have := p.wl; omega
end Go.Proofs.YtekegfbjbainhaaGreat
