import Derived.Test.YtekegfbjbainhaaKJoin20
set_option linter.unusedVariables false
set_option linter.unusedSimpArgs false

namespace Go.Proofs.Ytekegfbjbainhaa
open Go.RowKit
attribute [local go_sem ↓] Go.wp_at_zero Go.wp_at_succ
theorem chkF_ok (key : List UInt8) : ∀ (lv : Nat) (its : List ItR) (r : List UInt8) (l : Nat) (is : List ItR) (r' : List UInt8), PageOk lv its → chkF key lv its r = some ((l, is), r') → PageOk l is
 | 0, its, r, l, is, r', h, e => by
  have e' : some ((0, its), r) = some ((l, is), r') := e
  simp only [Option.some.injEq, Prod.mk.injEq] at e'
  obtain ⟨⟨rfl, rfl⟩, rfl⟩ := e'
  exact h
 | lv + 1, its, r, l, is, r', h, e => by
  unfold chkF at e
  split at e
  ·split at e
   ·cases e
   ·rename_i l2 its2 r2 hp
    split at e
    ·rename_i hl
     subst hl
     exact chkF_ok key _ _ _ _ _ _ (pgO_ok hp) e
    ·cases e
  ·simp only [Option.some.injEq, Prod.mk.injEq] at e
   obtain ⟨⟨rfl, rfl⟩, rfl⟩ := e
   exact h
theorem find_place {its : List ItR} (hr : RiseK its) (key : List UInt8) : (its.find? (fun x => x.key == key)).map (·.more) = if thereB its key = true then some (its.getD (placeN its key) it0).more else none := by
 have hpl := rising_place its key hr
 by_cases hlt : placeN its key < its.length
 ·have hth : thereB its key = (its[placeN its key].key == key) := by unfold thereB; rw [List.getElem?_eq_getElem hlt]; rfl
  have hgd : its.getD (placeN its key) it0 = its[placeN its key] := by rw [List.getD_eq_getElem?_getD, List.getElem?_eq_getElem hlt]; rfl
  cases he : its[placeN its key].key == key with
  | true =>
   rw [hth, he, if_pos rfl, hgd]
   have : its.find? (fun x => x.key == key) = some its[placeN its key] := by
    rw [List.find?_eq_some_iff_getElem]
    refine ⟨he, placeN its key, hlt, rfl, fun j hj => ?_⟩
    have h1 := hpl j (by omega)
    have h2 : lessK key its[j] = true := by rw [h1]; simp [hj]
    unfold lessK at h2
    simp only [Bool.not_eq_true', beq_eq_false_iff_ne]
    intro e; rw [e] at h2; exact absurd h2 (by rw [less_irrefl]; simp)
   rw [this]; rfl
  | false =>
   rw [hth, he, if_neg (by simp)]
   have : its.find? (fun x => x.key == key) = none := by
    rw [List.find?_eq_none]
    intro x hx e
    obtain ⟨j, hj, rfl⟩ := List.mem_iff_getElem.1 hx
    have hje : its[j].key = key := by simpa using e
    have h1 := hpl j hj
    have hnl : lessK key its[j] = false := by unfold lessK; rw [hje]; exact less_irrefl key
    rw [hnl] at h1
    have hge : placeN its key ≤ j := by
     by_cases g : j < placeN its key
     ·simp [g] at h1
     ·omega
    by_cases g : j = placeN its key
    ·subst g; rw [hje] at he; simp at he
    ·have hp := List.pairwise_iff_getElem.1 hr (placeN its key) j hlt hj (by omega)
     have h3 := hpl (placeN its key) hlt
     have h4 : lessK key its[placeN its key] = false := by rw [h3]; simp
     unfold lessK at h4
     rw [hje] at hp
     rw [h4] at hp; cases hp
   rw [this]; rfl
 ·have hth : thereB its key = false := by unfold thereB; rw [List.getElem?_eq_none (by omega)]; rfl
  rw [hth, if_neg (by simp)]
  have : its.find? (fun x => x.key == key) = none := by
   rw [List.find?_eq_none]
   intro x hx e
   obtain ⟨j, hj, rfl⟩ := List.mem_iff_getElem.1 hx
   have hje : its[j].key = key := by simpa using e
   have h1 := hpl j hj
   have hnl : lessK key its[j] = false := by unfold lessK; rw [hje]; exact less_irrefl key
   rw [hnl] at h1
   have : j < placeN its key := by omega
   simp [this] at h1
  rw [this]; rfl
theorem rrd_key (root key proof : List UInt8) : (checkF root key proof = none ∧ rrd root key key proof = none) ∨ ∃ es, rrd root key key proof = some es ∧ RiseK es ∧ es.length ≤ 60 ∧ (∀ x ∈ es, x.more.length ≤ 12) ∧ checkF root key proof = some ((es.find? (fun x => x.key == key)).map (·.more)) := by
 unfold checkF rrd rngRd
 cases hp : pgO (some proof) root with
 | none => exact Or.inl ⟨rfl, rfl⟩
 | some q =>
  obtain ⟨⟨lv, its⟩, r⟩ := q
  have hok := pgO_ok hp
  simp only
  rw [chk_read key lv its r hok.rise]
  cases hc : chkF key lv its r with
  | none => exact Or.inl ⟨rfl, rfl⟩
  | some p =>
   obtain ⟨⟨l, is⟩, r'⟩ := p
   have hok2 := chkF_ok key lv its r l is r' hok hc
   simp only [Option.map_some, ansF]
   by_cases hr : r' = []
   ·subst hr
    by_cases hl : l = 0
    ·subst hl
     exact Or.inr ⟨is, by simp, hok2.rise, hok2.len, hok2.low rfl, by simp⟩
    ·exact Or.inr ⟨[], by simp [hl], List.Pairwise.nil, by simp, fun x hx => (by cases hx), by simp [hl]⟩
   ·exact Or.inl ⟨by simp [hr], by simp [hr]⟩
set_option maxRecDepth 100000 in
set_option maxHeartbeats 1000000 in
theorem cloneO_any (s : SlR) (l : List UInt8) (w : World) (h : BS w s l) (hl : l.length ≤ 1000) :
  Calls Try.prog 40 #[s.val] w fun e w' => ∃ s' : SlR, e = .returned (.slice s'.a s'.n s'.cap) ∧ OwnB w' w.heap.size s'.val l ∧ Below w.heap.size w w' := by
 obtain ⟨a, n, cap⟩ := s
 obtain ⟨hs, hn, hnil, _⟩ := h
 simp only at hs hn hnil
 unfold SlR.val
 have he := fun w => run_eql_slice_nil (P := Try.prog) w 35 5 a n cap Try.underlying35
 cases a with
 | none =>
  obtain rfl : l = [] := by
   cases l with
   | nil => rfl
   | cons y r => obtain ⟨b, o, ha, _⟩ := hs 0 (by simp); cases ha
  obtain rfl : n = 0 := by simpa using hn
  obtain rfl := hnil rfl
  clear hs hn hnil hl
  go_enter Try.func40, Try.ntmps40
  go_wp2
  go_ret
  exact ⟨⟨none, 0, 0⟩, rfl, World.ownsRow_nil _ _ _ _, Below.refl _ _⟩
 | some x =>
  have hb1 : OwnB (w.alloc (.cells #[] 5)) w.heap.size (.slice (some ⟨w.heap.size, 0, none⟩) 0 0) [] := OwnB.built w w.heap.size [] (Nat.le_refl _) (by simp [maxLen])
  have hs1 : SlB (w.alloc (.cells #[] 5)) (some x) l := hs.below ((Below.refl _ _).alloc (Nat.le_refl _) _) (Nat.le_refl _)
  have HN : Hid (n = l.length) := hn
  clear hn hs
  go_enter Try.func40, Try.ntmps40
  go_wp2_with (at_builtin; refine wp_appendB (by rfl) (.tmp 5) (.tmp 6) (by rfl) w.heap.size _ [] (by rfl) hb1 (some x) n cap l (by rfl) HN.out hs1 (fun h => by cases h) (by simp; omega) (by simp) ?_; intro a' n' cap' w4 hn' ho' hs' hf' hat'; clear hn')
  go_ret
  refine ⟨⟨a', n', cap'⟩, rfl, ho', ?_⟩
  exact ((Below.refl _ _).alloc (Nat.le_refl _) _).trans (hf'.below (by simp) (fun k hk => by simp [Value.ownBlock] at hk; omega))
set_option maxRecDepth 100000 in
set_option maxHeartbeats 1000000 in
theorem readKey_any (sk sp : SlR) (key proof root : List UInt8) (w : World) (hr : root.length = 8) (hk : BS w sk key) (hp : BS w sp proof) (hpc : sp.n ≤ sp.cap) :
  Calls Try.prog 38 #[dV root, .slice sk.a sk.n sk.cap, .slice sp.a sp.n sp.cap] w (rrPost w (blkOf sp) (rrd root key key proof)) := by
 obtain ⟨d0, d1, d2, d3, d4, d5, d6, d7, rfl⟩ := list8 root hr
 have hA : Below w.heap.size w (w.alloc (.cells #[.int .u8 (d0.toNat : Int), .int .u8 (d1.toNat : Int), .int .u8 (d2.toNat : Int), .int .u8 (d3.toNat : Int), .int .u8 (d4.toNat : Int), .int .u8 (d5.toNat : Int), .int .u8 (d6.toNat : Int), .int .u8 (d7.toNat : Int)] 45)) := (Below.refl _ _).alloc (Nat.le_refl _) _
 have HRR : Hid (Calls _ _ _ _ _) := readRange_any sk sk sp key key proof [d0, d1, d2, d3, d4, d5, d6, d7] _ rfl (hk.below hA) (hk.below hA) (hp.below hA) hpc (Or.inr rfl)
 rw [show dV [d0, d1, d2, d3, d4, d5, d6, d7] = .agg #[.int .u8 (d0.toNat : Int), .int .u8 (d1.toNat : Int), .int .u8 (d2.toNat : Int), .int .u8 (d3.toNat : Int), .int .u8 (d4.toNat : Int), .int .u8 (d5.toNat : Int), .int .u8 (d6.toNat : Int), .int .u8 (d7.toNat : Int)] from rfl] at HRR ⊢
 have k0 : (w.alloc (.cells #[.int .u8 (d0.toNat : Int), .int .u8 (d1.toNat : Int), .int .u8 (d2.toNat : Int), .int .u8 (d3.toNat : Int), .int .u8 (d4.toNat : Int), .int .u8 (d5.toNat : Int), .int .u8 (d6.toNat : Int), .int .u8 (d7.toNat : Int)] 45)).cell? ⟨w.heap.size, 0, none⟩ = some (.int .u8 (d0.toNat : Int)) := (RowV.new w 45 ([d0, d1, d2, d3, d4, d5, d6, d7].map u8c)).cell 0 (by simp)
 have k1 : (w.alloc (.cells #[.int .u8 (d0.toNat : Int), .int .u8 (d1.toNat : Int), .int .u8 (d2.toNat : Int), .int .u8 (d3.toNat : Int), .int .u8 (d4.toNat : Int), .int .u8 (d5.toNat : Int), .int .u8 (d6.toNat : Int), .int .u8 (d7.toNat : Int)] 45)).cell? ⟨w.heap.size, 1, none⟩ = some (.int .u8 (d1.toNat : Int)) := (RowV.new w 45 ([d0, d1, d2, d3, d4, d5, d6, d7].map u8c)).cell 1 (by simp)
 have k2 : (w.alloc (.cells #[.int .u8 (d0.toNat : Int), .int .u8 (d1.toNat : Int), .int .u8 (d2.toNat : Int), .int .u8 (d3.toNat : Int), .int .u8 (d4.toNat : Int), .int .u8 (d5.toNat : Int), .int .u8 (d6.toNat : Int), .int .u8 (d7.toNat : Int)] 45)).cell? ⟨w.heap.size, 2, none⟩ = some (.int .u8 (d2.toNat : Int)) := (RowV.new w 45 ([d0, d1, d2, d3, d4, d5, d6, d7].map u8c)).cell 2 (by simp)
 have k3 : (w.alloc (.cells #[.int .u8 (d0.toNat : Int), .int .u8 (d1.toNat : Int), .int .u8 (d2.toNat : Int), .int .u8 (d3.toNat : Int), .int .u8 (d4.toNat : Int), .int .u8 (d5.toNat : Int), .int .u8 (d6.toNat : Int), .int .u8 (d7.toNat : Int)] 45)).cell? ⟨w.heap.size, 3, none⟩ = some (.int .u8 (d3.toNat : Int)) := (RowV.new w 45 ([d0, d1, d2, d3, d4, d5, d6, d7].map u8c)).cell 3 (by simp)
 have k4 : (w.alloc (.cells #[.int .u8 (d0.toNat : Int), .int .u8 (d1.toNat : Int), .int .u8 (d2.toNat : Int), .int .u8 (d3.toNat : Int), .int .u8 (d4.toNat : Int), .int .u8 (d5.toNat : Int), .int .u8 (d6.toNat : Int), .int .u8 (d7.toNat : Int)] 45)).cell? ⟨w.heap.size, 4, none⟩ = some (.int .u8 (d4.toNat : Int)) := (RowV.new w 45 ([d0, d1, d2, d3, d4, d5, d6, d7].map u8c)).cell 4 (by simp)
 have k5 : (w.alloc (.cells #[.int .u8 (d0.toNat : Int), .int .u8 (d1.toNat : Int), .int .u8 (d2.toNat : Int), .int .u8 (d3.toNat : Int), .int .u8 (d4.toNat : Int), .int .u8 (d5.toNat : Int), .int .u8 (d6.toNat : Int), .int .u8 (d7.toNat : Int)] 45)).cell? ⟨w.heap.size, 5, none⟩ = some (.int .u8 (d5.toNat : Int)) := (RowV.new w 45 ([d0, d1, d2, d3, d4, d5, d6, d7].map u8c)).cell 5 (by simp)
 have k6 : (w.alloc (.cells #[.int .u8 (d0.toNat : Int), .int .u8 (d1.toNat : Int), .int .u8 (d2.toNat : Int), .int .u8 (d3.toNat : Int), .int .u8 (d4.toNat : Int), .int .u8 (d5.toNat : Int), .int .u8 (d6.toNat : Int), .int .u8 (d7.toNat : Int)] 45)).cell? ⟨w.heap.size, 6, none⟩ = some (.int .u8 (d6.toNat : Int)) := (RowV.new w 45 ([d0, d1, d2, d3, d4, d5, d6, d7].map u8c)).cell 6 (by simp)
 have k7 : (w.alloc (.cells #[.int .u8 (d0.toNat : Int), .int .u8 (d1.toNat : Int), .int .u8 (d2.toNat : Int), .int .u8 (d3.toNat : Int), .int .u8 (d4.toNat : Int), .int .u8 (d5.toNat : Int), .int .u8 (d6.toNat : Int), .int .u8 (d7.toNat : Int)] 45)).cell? ⟨w.heap.size, 7, none⟩ = some (.int .u8 (d7.toNat : Int)) := (RowV.new w 45 ([d0, d1, d2, d3, d4, d5, d6, d7].map u8c)).cell 7 (by simp)
 have HA : Hid (Below w.heap.size w (w.alloc (.cells #[.int .u8 (d0.toNat : Int), .int .u8 (d1.toNat : Int), .int .u8 (d2.toNat : Int), .int .u8 (d3.toNat : Int), .int .u8 (d4.toNat : Int), .int .u8 (d5.toNat : Int), .int .u8 (d6.toNat : Int), .int .u8 (d7.toNat : Int)] 45))) := hA
 clear hr hk hp hpc hA
 generalize rrd [d0, d1, d2, d3, d4, d5, d6, d7] key key proof = R at *
 go_enter Try.func38, Try.ntmps38
 go_wp2_with fail
 refine HRR.out.mono ?_
 rintro e w1 ⟨hb1, hm⟩
 have HB1 : Hid (Below w.heap.size w w1) := HA.out.trans (hb1.mono (by simp))
 cases R with
 | none =>
  obtain rfl : e = _ := hm
  go_wp2
  go_ret2
  exact ⟨HB1.out, rfl⟩
 | some es =>
  obtain ⟨v, ys, rfl, hen⟩ := hm
  unfold SlR.val
  go_wp2
  go_ret2
  exact ⟨HB1.out, v, ys, rfl, hen.toBase (by simp)⟩
end Go.Proofs.Ytekegfbjbainhaa


namespace Go.Proofs.Ytekegfbjbainhaa
open Go.RowKit
attribute [local go_sem ↓] Go.wp_at_zero Go.wp_at_succ
def chkPP (w : World) (q : Nat × Option (List UInt8)) (e : Ending) (w' : World) : Prop := ∃ v : SlR, e = .returned (.tuple #[.agg #[.bool q.2.isSome, v.val], .int .i64 (q.1 : Int)]) ∧ Below w.heap.size w w' ∧ OwnB w' w.heap.size v.val (q.2.getD [])
set_option maxRecDepth 100000 in
set_option maxHeartbeats 4000000 in
theorem checkP_any (sk sp : SlR) (key proof root : List UInt8) (w : World) (hr : root.length = 8) (hk : BS w sk key) (hp : BS w sp proof) (hpc : sp.n ≤ sp.cap) (hkm : key.length ≤ maxLen) :
  Calls Try.prog 16 #[dV root, sk.val, sp.val] w (chkPP w (chkR root key proof)) := by
 obtain ⟨d0, d1, d2, d3, d4, d5, d6, d7, rfl⟩ := list8 root hr
 have hB2 : Below w.heap.size w ((w.alloc (.cells #[.int .u8 (d0.toNat : Int), .int .u8 (d1.toNat : Int), .int .u8 (d2.toNat : Int), .int .u8 (d3.toNat : Int), .int .u8 (d4.toNat : Int), .int .u8 (d5.toNat : Int), .int .u8 (d6.toNat : Int), .int .u8 (d7.toNat : Int)] 45)).alloc (.cells #[.bool false, .slice none 0 0] 40)) := ((Below.refl _ _).alloc (Nat.le_refl _) _).alloc (by simp) _
 have HKF : Hid (Calls _ _ _ _ _) := isKey_any sk.a sk.n sk.cap ((w.alloc (.cells #[.int .u8 (d0.toNat : Int), .int .u8 (d1.toNat : Int), .int .u8 (d2.toNat : Int), .int .u8 (d3.toNat : Int), .int .u8 (d4.toNat : Int), .int .u8 (d5.toNat : Int), .int .u8 (d6.toNat : Int), .int .u8 (d7.toNat : Int)] 45)).alloc (.cells #[.bool false, .slice none 0 0] 40)) (by rw [hk.n]; exact hkm)
 have hkb : (decide (1 ≤ sk.n) && decide (sk.n ≤ 12)) = keyOk key := by rw [hk.n]; rfl
 rw [hkb] at HKF
 rw [show dV [d0, d1, d2, d3, d4, d5, d6, d7] = .agg #[.int .u8 (d0.toNat : Int), .int .u8 (d1.toNat : Int), .int .u8 (d2.toNat : Int), .int .u8 (d3.toNat : Int), .int .u8 (d4.toNat : Int), .int .u8 (d5.toNat : Int), .int .u8 (d6.toNat : Int), .int .u8 (d7.toNat : Int)] from rfl]
 unfold SlR.val
 have HB2 : Hid (Below w.heap.size w ((w.alloc (.cells #[.int .u8 (d0.toNat : Int), .int .u8 (d1.toNat : Int), .int .u8 (d2.toNat : Int), .int .u8 (d3.toNat : Int), .int .u8 (d4.toNat : Int), .int .u8 (d5.toNat : Int), .int .u8 (d6.toNat : Int), .int .u8 (d7.toNat : Int)] 45)).alloc (.cells #[.bool false, .slice none 0 0] 40))) := hB2
 have HD0 : Hid (RowV ((w.alloc (.cells #[.int .u8 (d0.toNat : Int), .int .u8 (d1.toNat : Int), .int .u8 (d2.toNat : Int), .int .u8 (d3.toNat : Int), .int .u8 (d4.toNat : Int), .int .u8 (d5.toNat : Int), .int .u8 (d6.toNat : Int), .int .u8 (d7.toNat : Int)] 45)).alloc (.cells #[.bool false, .slice none 0 0] 40)) w.heap.size 45 ([d0, d1, d2, d3, d4, d5, d6, d7].map u8c)) := (RowV.new w 45 ([d0, d1, d2, d3, d4, d5, d6, d7].map u8c)).alloc _
 have HA0 : Hid (RowV ((w.alloc (.cells #[.int .u8 (d0.toNat : Int), .int .u8 (d1.toNat : Int), .int .u8 (d2.toNat : Int), .int .u8 (d3.toNat : Int), .int .u8 (d4.toNat : Int), .int .u8 (d5.toNat : Int), .int .u8 (d6.toNat : Int), .int .u8 (d7.toNat : Int)] 45)).alloc (.cells #[.bool false, .slice none 0 0] 40)) (w.heap.size + 1) 40 [.bool false, .slice none 0 0]) := RowV.new_at _ _ _ _ (by simp)
 have HK : Hid (BS ((w.alloc (.cells #[.int .u8 (d0.toNat : Int), .int .u8 (d1.toNat : Int), .int .u8 (d2.toNat : Int), .int .u8 (d3.toNat : Int), .int .u8 (d4.toNat : Int), .int .u8 (d5.toNat : Int), .int .u8 (d6.toNat : Int), .int .u8 (d7.toNat : Int)] 45)).alloc (.cells #[.bool false, .slice none 0 0] 40)) sk key) := hk.below hB2
 have HRK : Hid (Calls _ _ _ _ _) := readKey_any sk sp key proof [d0, d1, d2, d3, d4, d5, d6, d7] ((w.alloc (.cells #[.int .u8 (d0.toNat : Int), .int .u8 (d1.toNat : Int), .int .u8 (d2.toNat : Int), .int .u8 (d3.toNat : Int), .int .u8 (d4.toNat : Int), .int .u8 (d5.toNat : Int), .int .u8 (d6.toNat : Int), .int .u8 (d7.toNat : Int)] 45)).alloc (.cells #[.bool false, .slice none 0 0] 40)) rfl (hk.below hB2) (hp.below hB2) hpc
 rw [show dV [d0, d1, d2, d3, d4, d5, d6, d7] = .agg #[.int .u8 (d0.toNat : Int), .int .u8 (d1.toNat : Int), .int .u8 (d2.toNat : Int), .int .u8 (d3.toNat : Int), .int .u8 (d4.toNat : Int), .int .u8 (d5.toNat : Int), .int .u8 (d6.toNat : Int), .int .u8 (d7.toNat : Int)] from rfl] at HRK
 clear hk hp hpc hkm hkb hr hB2
 obtain ⟨q, hq⟩ : ∃ q, chkR [d0, d1, d2, d3, d4, d5, d6, d7] key proof = q := ⟨_, rfl⟩
 rw [hq]
 have HQ : Hid (chkR [d0, d1, d2, d3, d4, d5, d6, d7] key proof = q) := hq
 clear hq
 go_enter Try.func16, Try.ntmps16
 go_upto_region 1 with fail
 generalize (w.alloc (.cells #[.int .u8 (d0.toNat : Int), .int .u8 (d1.toNat : Int), .int .u8 (d2.toNat : Int), .int .u8 (d3.toNat : Int), .int .u8 (d4.toNat : Int), .int .u8 (d5.toNat : Int), .int .u8 (d6.toNat : Int), .int .u8 (d7.toNat : Int)] 45)).alloc (.cells #[.bool false, .slice none 0 0] 40) = W at *
 cases hkf : keyOk key with
 | false =>
  rw [hkf] at HKF
  have HQ1 : Hid (q = (1, none)) := by unfold Hid; rw [← HQ.out]; unfold chkR; rw [if_neg (by rw [hkf]; simp)]
  have a0 := HA0.out.cell 0 (by simp)
  have a1 := HA0.out.cell 1 (by simp)
  have f0 := HA0.out.frozen 0
  have f1 := HA0.out.frozen 1
  simp only [List.getElem_cons_zero, List.getElem_cons_succ] at a0 a1
  go_wp2_with (go_at_call 36; refine HKF.out.mono ?_; rintro r w1 ⟨rfl, hw1⟩; obtain rfl : W = w1 := hw1.symm; clear hw1)
  have hf : Frame (fun k => k = w.heap.size + 1) W ((W.setCell ⟨w.heap.size + 1, 0, none⟩ (.bool false)).setCell ⟨w.heap.size + 1, 1, none⟩ (.slice none 0 0)) := ((Frame.refl (fun k => k = w.heap.size + 1) W).setCell (p := ⟨w.heap.size + 1, 0, none⟩) rfl _).setCell (p := ⟨w.heap.size + 1, 1, none⟩) rfl _
  exact ret_agg2 (k := 6) (k2 := 7) (cs := [.bool false, .slice none 0 0]) rfl rfl rfl (by simpa using (RowV.set HA0.out 0 (.bool false)).set 1 (.slice none 0 0)) Try.underlying40 rfl Try.sizeAnswer rfl (by rw [HQ1.out]; exact ⟨⟨none, 0, 0⟩, rfl, HB2.out.trans (hf.below HB2.out.size (fun k hk => by omega)), World.ownsRow_nil _ _ _ _⟩)
 | true =>
  rw [hkf] at HKF
  have HQ1 : Hid (q = match checkF [d0, d1, d2, d3, d4, d5, d6, d7] key proof with
    | none => (5, none)
    | some a => (0, a)) := by unfold Hid; rw [← HQ.out]; unfold chkR; rw [if_pos hkf]; cases checkF [d0, d1, d2, d3, d4, d5, d6, d7] key proof <;> rfl
  have k0 : W.cell? ⟨w.heap.size, 0, none⟩ = some (.int .u8 (d0.toNat : Int)) := HD0.out.cell 0 (by simp)
  have k1 : W.cell? ⟨w.heap.size, 1, none⟩ = some (.int .u8 (d1.toNat : Int)) := HD0.out.cell 1 (by simp)
  have k2 : W.cell? ⟨w.heap.size, 2, none⟩ = some (.int .u8 (d2.toNat : Int)) := HD0.out.cell 2 (by simp)
  have k3 : W.cell? ⟨w.heap.size, 3, none⟩ = some (.int .u8 (d3.toNat : Int)) := HD0.out.cell 3 (by simp)
  have k4 : W.cell? ⟨w.heap.size, 4, none⟩ = some (.int .u8 (d4.toNat : Int)) := HD0.out.cell 4 (by simp)
  have k5 : W.cell? ⟨w.heap.size, 5, none⟩ = some (.int .u8 (d5.toNat : Int)) := HD0.out.cell 5 (by simp)
  have k6 : W.cell? ⟨w.heap.size, 6, none⟩ = some (.int .u8 (d6.toNat : Int)) := HD0.out.cell 6 (by simp)
  have k7 : W.cell? ⟨w.heap.size, 7, none⟩ = some (.int .u8 (d7.toNat : Int)) := HD0.out.cell 7 (by simp)
  go_wp2_with (go_at_call 36; refine HKF.out.mono ?_; rintro r w1 ⟨rfl, hw1⟩; obtain rfl : W = w1 := hw1.symm; clear hw1)
  refine HRK.out.mono ?_
  rintro e w3 ⟨hb3, hm⟩
  have HA3 : Hid (RowV w3 (w.heap.size + 1) 40 [.bool false, .slice none 0 0]) := RowV.below HA0.out HA0.out.lt hb3
  have HB3 : Hid (Below w.heap.size w w3) := HB2.out.trans (hb3.mono HB2.out.size)
  have HK3 : Hid (BS w3 sk key) := HK.out.below hb3
  have HW3 : Hid (w.heap.size ≤ W.heap.size) := HB2.out.size
  have HFA : Hid (∀ (wx : World) (v v' : Value), Below w3.heap.size w3 wx → RowV ((wx.setCell ⟨w.heap.size + 1, 0, none⟩ v).setCell ⟨w.heap.size + 1, 1, none⟩ v') (w.heap.size + 1) 40 [v, v'] ∧ Below w.heap.size w ((wx.setCell ⟨w.heap.size + 1, 0, none⟩ v).setCell ⟨w.heap.size + 1, 1, none⟩ v') ∧ Frame (fun k => k = w.heap.size + 1) wx ((wx.setCell ⟨w.heap.size + 1, 0, none⟩ v).setCell ⟨w.heap.size + 1, 1, none⟩ v')) := fun wx v v' hx => by
   have hf : Frame (fun k => k = w.heap.size + 1) wx ((wx.setCell ⟨w.heap.size + 1, 0, none⟩ v).setCell ⟨w.heap.size + 1, 1, none⟩ v') := ((Frame.refl (fun k => k = w.heap.size + 1) wx).setCell (p := ⟨w.heap.size + 1, 0, none⟩) rfl _).setCell (p := ⟨w.heap.size + 1, 1, none⟩) rfl _
   have hb := HB3.out.trans (hx.mono HB3.out.size)
   exact ⟨by simpa using (RowV.set (RowV.below HA3.out HA3.out.lt hx) 0 v).set 1 v', hb.trans (hf.below hb.size (fun k hk => by omega)), hf⟩
  clear k0 k1 k2 k3 k4 k5 k6 k7 HRK HKF hb3 HA0 HD0 HK
  rcases rrd_key [d0, d1, d2, d3, d4, d5, d6, d7] key proof with ⟨hcn, hrn⟩ | ⟨es, hre, hrise, h60, h12, hcf⟩
  ·rw [hrn] at hm
   obtain rfl : e = _ := hm
   have HQ5 : Hid (q = (5, none)) := by unfold Hid; rw [HQ1.out, hcn]
   have a0 := HA3.out.cell 0 (by simp)
   have a1 := HA3.out.cell 1 (by simp)
   have f0 := HA3.out.frozen 0
   have f1 := HA3.out.frozen 1
   simp only [List.getElem_cons_zero, List.getElem_cons_succ] at a0 a1
   clear hcn hrn
   go_wp2
   obtain ⟨h1, h2, h3⟩ := HFA.out w3 (.bool false) (.slice none 0 0) (Below.refl _ _)
   exact ret_agg2 (k := 6) (k2 := 7) (cs := [.bool false, .slice none 0 0]) rfl rfl rfl h1 Try.underlying40 rfl Try.sizeAnswer rfl (by rw [HQ5.out]; exact ⟨⟨none, 0, 0⟩, rfl, h2, World.ownsRow_nil _ _ _ _⟩)
  ·rw [hre] at hm
   obtain ⟨v, ys, rfl, hen⟩ := hm
   have HQ0 : Hid (q = (0, if thereB es key = true then some (es.getD (placeN es key) it0).more else none)) := by unfold Hid; rw [HQ1.out, hcf, ← find_place hrise key]
   have hvn : v.n = ys.length := (SlV.ofOwn (s := v) hen.own).2
   have HFI : Hid (Calls _ _ _ _ _) := find_any v ys es sk key w3 hvn hen.len.symm (by rw [hen.len]; exact h60) (SlV.ofOwn (s := v) hen.own).1 (fun i h1 h2 => ⟨(hen.en i h1 h2).key.bs, ((hen.en i h1 h2).low rfl).1.bs, ((hen.en i h1 h2).low rfl).2⟩) hrise HK3.out
   have HEN : Hid (EnsL 0 w3 (blkOf sp) W.heap.size v ys es) := hen
   have H60 : Hid (es.length ≤ 60) := h60
   have H12 : Hid (∀ x ∈ es, x.more.length ≤ 12) := h12
   have HVN : Hid (v.n = ys.length) := hvn
   clear hre hrise h60 h12 hcf hen hvn
   unfold SlR.val
   unfold SlR.val at HFI
   go_wp2_with fail
   refine HFI.out.mono ?_
   rintro e w4 ⟨rfl, hb4⟩
   have HA4 : Hid (RowV w4 (w.heap.size + 1) 40 [.bool false, .slice none 0 0]) := RowV.below HA3.out HA3.out.lt hb4
   cases hth : thereB es key with
   | false =>
    have HQ5 : Hid (q = (0, none)) := by unfold Hid; rw [HQ0.out, hth]; rfl
    have a0 := HA4.out.cell 0 (by simp)
    have a1 := HA4.out.cell 1 (by simp)
    have f0 := HA4.out.frozen 0
    have f1 := HA4.out.frozen 1
    simp only [List.getElem_cons_zero, List.getElem_cons_succ] at a0 a1
    go_wp2
    obtain ⟨h1, h2, h3⟩ := HFA.out w4 (.bool false) (.slice none 0 0) hb4
    exact ret_agg2 (k := 6) (k2 := 7) (cs := [.bool false, .slice none 0 0]) rfl rfl rfl h1 Try.underlying40 rfl Try.sizeAnswer rfl (by rw [HQ5.out]; exact ⟨⟨none, 0, 0⟩, rfl, h2, World.ownsRow_nil _ _ _ _⟩)
   | true =>
    have hplt := thereB_lt hth
    have HQ5 : Hid (q = (0, some es[placeN es key].more)) := by
     unfold Hid; rw [HQ0.out, hth, if_pos rfl, List.getD_eq_getElem?_getD, List.getElem?_eq_getElem hplt]; rfl
    have HEN4 := HEN.out.below hb4
    have hyx : placeN es key < ys.length := by rw [HEN.out.len]; exact hplt
    obtain ⟨b, o, hca, hbb, hrg⟩ := SlE.range (SlV.ofOwn (s := v) HEN4.own).1 HEN4.d8 _ hyx
    have hen := HEN4.en _ hyx hplt
    have hm12 := H12.out _ (List.getElem_mem hplt)
    have hpI : (placeN es key : Int) < v.n := by rw [HVN.out]; omega
    generalize es[placeN es key].more = mo at *
    generalize es[placeN es key].key = kk at *
    generalize ys[placeN es key] = y at *
    generalize placeN es key = p at *
    have c1 : w4.cell? ⟨b, o + p * 10 + 1, none⟩ = some (.slice y.v.a y.v.n y.v.cap) := hrg 1 _ rfl
    have HCL : Hid (Calls _ _ _ _ _) := cloneO_any y.v mo w4 (hen.low rfl).1.bs (by omega)
    have HB4 : Hid (Below w3.heap.size w3 w4) := hb4
    obtain ⟨va, vn, vc⟩ := v
    simp only at hca hpI
    subst hca
    unfold SlR.val at HCL
    clear hrg hen HEN4 hyx hplt hth HFI hb4 hm12
    go_wp2_with fail
    refine HCL.out.mono ?_
    rintro e w5 ⟨s5, rfl, ho5, hb5⟩
    have HB5 : Hid (Below w3.heap.size w3 w5) := HB4.out.trans (hb5.mono HB4.out.size)
    have HA5 : Hid (RowV w5 (w.heap.size + 1) 40 [.bool false, .slice none 0 0]) := RowV.below HA4.out HA4.out.lt hb5
    have a0 := HA5.out.cell 0 (by simp)
    have a1 := HA5.out.cell 1 (by simp)
    have f0 := HA5.out.frozen 0
    have f1 := HA5.out.frozen 1
    simp only [List.getElem_cons_zero, List.getElem_cons_succ] at a0 a1
    have HO5 : Hid (OwnB w5 w.heap.size s5.val mo) := owns_base ho5 (fun k hk => by have := (ho5.lt k hk).1; have := HB3.out.size; have := HB4.out.size; omega)
    clear ho5 hb5 c1
    go_wp2
    obtain ⟨h1, h2, h3⟩ := HFA.out w5 (.bool true) (.slice s5.a s5.n s5.cap) HB5.out
    exact ret_agg2 (k := 6) (k2 := 7) (cs := [.bool true, .slice s5.a s5.n s5.cap]) rfl rfl rfl h1 Try.underlying40 rfl Try.sizeAnswer rfl (by rw [HQ5.out]; exact ⟨s5, rfl, h2, owns_frame HO5.out h3 (fun k hk e => owns_ne HO5.out HA5.out (by decide) (by rw [hk, e]))⟩)
end Go.Proofs.Ytekegfbjbainhaa


namespace Go.Proofs.Ytekegfbjbainhaa
open Go.RowKit
attribute [local go_sem ↓] Go.wp_at_zero Go.wp_at_succ
theorem owns_apart {w : World} {base base' e e' size size' n n' : Nat} {v v' : Value} {xs xs' : List Value} (h : w.ownsRow base e size v n xs) (h' : w.ownsRow base' e' size' v' n' xs') (hne : e ≠ e') : ∀ k, v.ownBlock = some k → v'.ownBlock ≠ some k := fun k hk hk' => by
 rcases h.2 with ⟨hv, _⟩ | ⟨g, cap, cur, hv, hg, hb, _⟩
 ·rw [hv] at hk; simp [Value.ownBlock] at hk
 ·rcases h'.2 with ⟨hv', _⟩ | ⟨g', cap', cur', hv', hg', hb', _⟩
  ·rw [hv'] at hk'; simp [Value.ownBlock] at hk'
  ·rw [hv] at hk; rw [hv'] at hk'
   simp [Value.ownBlock] at hk hk'
   subst hk; subst hk'
   rw [hb] at hb'
   simp at hb'
   exact hne hb'.2
end Go.Proofs.Ytekegfbjbainhaa
