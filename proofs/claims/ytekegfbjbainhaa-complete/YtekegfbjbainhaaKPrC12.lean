
import Derived.Test.YtekegfbjbainhaaKJoin20
set_option linter.unusedVariables false
set_option linter.unusedSimpArgs false
namespace Go.Proofs.Ytekegfbjbainhaa
open Go.RowKit
attribute [local go_sem ↓] Go.wp_at_zero Go.wp_at_succ
theorem chkF_ok (key : List UInt8) : ∀ (lv : Nat) (its : List ItR) (r : List UInt8) (l : Nat) (is : List ItR) (r' : List UInt8), PageOk lv its → chkF key lv its r = some ((l, is), r') → PageOk l is
 | 0, its, r, l, is, r', h, e => by
  have e' : some ((0, its), r) = some ((l, is), r') := e
  simp only [Option.some.injEq, Prod.mk.injEq] at e'
  obtain ⟨⟨rfl, rfl⟩, rfl⟩ := e'
  exact h
 | lv + 1, its, r, l, is, r', h, e => by
  unfold chkF at e
  split at e
  ·split at e
   ·cases e
   ·rename_i l2 its2 r2 hp
    split at e
    ·rename_i hl
     subst hl
     exact chkF_ok key _ _ _ _ _ _ (pgO_ok hp) e
    ·cases e
  ·simp only [Option.some.injEq, Prod.mk.injEq] at e
   obtain ⟨⟨rfl, rfl⟩, rfl⟩ := e
   exact h
theorem find_place {its : List ItR} (hr : RiseK its) (key : List UInt8) : (its.find? (fun x => x.key == key)).map (·.more) = if thereB its key = true then some (its.getD (placeN its key) it0).more else none := by
 have hpl := rising_place its key hr
 by_cases hlt : placeN its key < its.length
 ·have hth : thereB its key = (its[placeN its key].key == key) := by unfold thereB; rw [List.getElem?_eq_getElem hlt]; rfl
  have hgd : its.getD (placeN its key) it0 = its[placeN its key] := by rw [List.getD_eq_getElem?_getD, List.getElem?_eq_getElem hlt]; rfl
  cases he : its[placeN its key].key == key with
  | true =>
   rw [hth, he, if_pos rfl, hgd]
   have : its.find? (fun x => x.key == key) = some its[placeN its key] := by
    rw [List.find?_eq_some_iff_getElem]
    refine ⟨he, placeN its key, hlt, rfl, fun j hj => ?_⟩
    have h1 := hpl j (by omega)
    have h2 : lessK key its[j] = true := by rw [h1]; simp [hj]
    unfold lessK at h2
    simp only [Bool.not_eq_true', beq_eq_false_iff_ne]
    intro e; rw [e] at h2; exact absurd h2 (by rw [less_irrefl]; simp)
   rw [this]; rfl
  | false =>
   rw [hth, he, if_neg (by simp)]
   have : its.find? (fun x => x.key == key) = none := by
    rw [List.find?_eq_none]
    intro x hx e
    obtain ⟨j, hj, rfl⟩ := List.mem_iff_getElem.1 hx
    have hje : its[j].key = key := by simpa using e
    have h1 := hpl j hj
    have hnl : lessK key its[j] = false := by unfold lessK; rw [hje]; exact less_irrefl key
    rw [hnl] at h1
    have hge : placeN its key ≤ j := by
     by_cases g : j < placeN its key
     ·simp [g] at h1
     ·omega
    by_cases g : j = placeN its key
    ·subst g; rw [hje] at he; simp at he
    ·have hp := List.pairwise_iff_getElem.1 hr (placeN its key) j hlt hj (by omega)
     have h3 := hpl (placeN its key) hlt
     have h4 : lessK key its[placeN its key] = false := by rw [h3]; simp
     unfold lessK at h4
     rw [hje] at hp
     rw [h4] at hp; cases hp
   rw [this]; rfl
 ·have hth : thereB its key = false := by unfold thereB; rw [List.getElem?_eq_none (by omega)]; rfl
  rw [hth, if_neg (by simp)]
  have : its.find? (fun x => x.key == key) = none := by
   rw [List.find?_eq_none]
   intro x hx e
   obtain ⟨j, hj, rfl⟩ := List.mem_iff_getElem.1 hx
   have hje : its[j].key = key := by simpa using e
   have h1 := hpl j hj
   have hnl : lessK key its[j] = false := by unfold lessK; rw [hje]; exact less_irrefl key
   rw [hnl] at h1
   have : j < placeN its key := by omega
   simp [this] at h1
  rw [this]; rfl
theorem rrd_key (root key proof : List UInt8) : (checkF root key proof = none ∧ rrd root key key proof = none) ∨ ∃ es, rrd root key key proof = some es ∧ RiseK es ∧ es.length ≤ 60 ∧ (∀ x ∈ es, x.more.length ≤ 12) ∧ checkF root key proof = some ((es.find? (fun x => x.key == key)).map (·.more)) := by
 unfold checkF rrd rngRd
 cases hp : pgO (some proof) root with
 | none => exact Or.inl ⟨rfl, rfl⟩
 | some q =>
  obtain ⟨⟨lv, its⟩, r⟩ := q
  have hok := pgO_ok hp
  simp only
  rw [chk_read key lv its r hok.rise]
  cases hc : chkF key lv its r with
  | none => exact Or.inl ⟨rfl, rfl⟩
  | some p =>
   obtain ⟨⟨l, is⟩, r'⟩ := p
   have hok2 := chkF_ok key lv its r l is r' hok hc
   simp only [Option.map_some, ansF]
   by_cases hr : r' = []
   ·subst hr
    by_cases hl : l = 0
    ·subst hl
     exact Or.inr ⟨is, by simp, hok2.rise, hok2.len, hok2.low rfl, by simp⟩
    ·exact Or.inr ⟨[], by simp [hl], List.Pairwise.nil, by simp, fun x hx => (by cases hx), by simp [hl]⟩
   ·exact Or.inl ⟨by simp [hr], by simp [hr]⟩
set_option maxRecDepth 100000 in
set_option maxHeartbeats 1000000 in
theorem cloneO_any (s : SlR) (l : List UInt8) (w : World) (h : BS w s l) (hl : l.length ≤ 1000) :
  Calls Try.prog 40 #[s.val] w fun e w' => ∃ s' : SlR, e = .returned (.slice s'.a s'.n s'.cap) ∧ OwnB w' w.heap.size s'.val l ∧ Below w.heap.size w w' := by
 obtain ⟨a, n, cap⟩ := s
 obtain ⟨hs, hn, hnil, _⟩ := h
 simp only at hs hn hnil
 unfold SlR.val
 have he := fun w => run_eql_slice_nil (P := Try.prog) w 35 5 a n cap Try.underlying35
 cases a with
 | none =>
  obtain rfl : l = [] := by
   cases l with
   | nil => rfl
   | cons y r => obtain ⟨b, o, ha, _⟩ := hs 0 (by simp); cases ha
  obtain rfl : n = 0 := by simpa using hn
  obtain rfl := hnil rfl
  clear hs hn hnil hl
  go_enter Try.func40, Try.ntmps40
  go_wp2
  go_ret
  exact ⟨⟨none, 0, 0⟩, rfl, World.ownsRow_nil _ _ _ _, Below.refl _ _⟩
 | some x =>
  have hb1 : OwnB (w.alloc (.cells #[] 5)) w.heap.size (.slice (some ⟨w.heap.size, 0, none⟩) 0 0) [] := OwnB.built w w.heap.size [] (Nat.le_refl _) (by simp [maxLen])
  have hs1 : SlB (w.alloc (.cells #[] 5)) (some x) l := hs.below ((Below.refl _ _).alloc (Nat.le_refl _) _) (Nat.le_refl _)
  have HN : Hid (n = l.length) := hn
  clear hn hs
  go_enter Try.func40, Try.ntmps40
  go_wp2_with (at_builtin; refine wp_appendB (by rfl) (.tmp 5) (.tmp 6) (by rfl) w.heap.size _ [] (by rfl) hb1 (some x) n cap l (by rfl) HN.out hs1 (fun h => by cases h) (by simp; omega) (by simp) ?_; intro a' n' cap' w4 hn' ho' hs' hf' hat'; clear hn')
  go_ret
  refine ⟨⟨a', n', cap'⟩, rfl, ho', ?_⟩
  exact ((Below.refl _ _).alloc (Nat.le_refl _) _).trans (hf'.below (by simp) (fun k hk => by simp [Value.ownBlock] at hk; omega))
set_option maxRecDepth 100000 in
set_option maxHeartbeats 1000000 in
theorem readKey_any (sk sp : SlR) (key proof root : List UInt8) (w : World) (hr : root.length = 8) (hk : BS w sk key) (hp : BS w sp proof) (hpc : sp.n ≤ sp.cap) (hM : proof.length ≤ 1000000000) :
  Calls Try.prog 38 #[dV root, .slice sk.a sk.n sk.cap, .slice sp.a sp.n sp.cap] w (rrPost w (blkOf sp) (rrd root key key proof)) := by
 obtain ⟨d0, d1, d2, d3, d4, d5, d6, d7, rfl⟩ := list8 root hr
 have hA : Below w.heap.size w (w.alloc (.cells #[.int .u8 (d0.toNat : Int), .int .u8 (d1.toNat : Int), .int .u8 (d2.toNat : Int), .int .u8 (d3.toNat : Int), .int .u8 (d4.toNat : Int), .int .u8 (d5.toNat : Int), .int .u8 (d6.toNat : Int), .int .u8 (d7.toNat : Int)] 45)) := (Below.refl _ _).alloc (Nat.le_refl _) _
 have HRR : Hid (Calls _ _ _ _ _) := readRange_any sk sk sp key key proof [d0, d1, d2, d3, d4, d5, d6, d7] _ rfl (hk.below hA) (hk.below hA) (hp.below hA) hpc hM
 rw [show dV [d0, d1, d2, d3, d4, d5, d6, d7] = .agg #[.int .u8 (d0.toNat : Int), .int .u8 (d1.toNat : Int), .int .u8 (d2.toNat : Int), .int .u8 (d3.toNat : Int), .int .u8 (d4.toNat : Int), .int .u8 (d5.toNat : Int), .int .u8 (d6.toNat : Int), .int .u8 (d7.toNat : Int)] from rfl] at HRR ⊢
 have k0 : (w.alloc (.cells #[.int .u8 (d0.toNat : Int), .int .u8 (d1.toNat : Int), .int .u8 (d2.toNat : Int), .int .u8 (d3.toNat : Int), .int .u8 (d4.toNat : Int), .int .u8 (d5.toNat : Int), .int .u8 (d6.toNat : Int), .int .u8 (d7.toNat : Int)] 45)).cell? ⟨w.heap.size, 0, none⟩ = some (.int .u8 (d0.toNat : Int)) := (RowV.new w 45 ([d0, d1, d2, d3, d4, d5, d6, d7].map u8c)).cell 0 (by simp)
 have k1 : (w.alloc (.cells #[.int .u8 (d0.toNat : Int), .int .u8 (d1.toNat : Int), .int .u8 (d2.toNat : Int), .int .u8 (d3.toNat : Int), .int .u8 (d4.toNat : Int), .int .u8 (d5.toNat : Int), .int .u8 (d6.toNat : Int), .int .u8 (d7.toNat : Int)] 45)).cell? ⟨w.heap.size, 1, none⟩ = some (.int .u8 (d1.toNat : Int)) := (RowV.new w 45 ([d0, d1, d2, d3, d4, d5, d6, d7].map u8c)).cell 1 (by simp)
 have k2 : (w.alloc (.cells #[.int .u8 (d0.toNat : Int), .int .u8 (d1.toNat : Int), .int .u8 (d2.toNat : Int), .int .u8 (d3.toNat : Int), .int .u8 (d4.toNat : Int), .int .u8 (d5.toNat : Int), .int .u8 (d6.toNat : Int), .int .u8 (d7.toNat : Int)] 45)).cell? ⟨w.heap.size, 2, none⟩ = some (.int .u8 (d2.toNat : Int)) := (RowV.new w 45 ([d0, d1, d2, d3, d4, d5, d6, d7].map u8c)).cell 2 (by simp)
 have k3 : (w.alloc (.cells #[.int .u8 (d0.toNat : Int), .int .u8 (d1.toNat : Int), .int .u8 (d2.toNat : Int), .int .u8 (d3.toNat : Int), .int .u8 (d4.toNat : Int), .int .u8 (d5.toNat : Int), .int .u8 (d6.toNat : Int), .int .u8 (d7.toNat : Int)] 45)).cell? ⟨w.heap.size, 3, none⟩ = some (.int .u8 (d3.toNat : Int)) := (RowV.new w 45 ([d0, d1, d2, d3, d4, d5, d6, d7].map u8c)).cell 3 (by simp)
 have k4 : (w.alloc (.cells #[.int .u8 (d0.toNat : Int), .int .u8 (d1.toNat : Int), .int .u8 (d2.toNat : Int), .int .u8 (d3.toNat : Int), .int .u8 (d4.toNat : Int), .int .u8 (d5.toNat : Int), .int .u8 (d6.toNat : Int), .int .u8 (d7.toNat : Int)] 45)).cell? ⟨w.heap.size, 4, none⟩ = some (.int .u8 (d4.toNat : Int)) := (RowV.new w 45 ([d0, d1, d2, d3, d4, d5, d6, d7].map u8c)).cell 4 (by simp)
 have k5 : (w.alloc (.cells #[.int .u8 (d0.toNat : Int), .int .u8 (d1.toNat : Int), .int .u8 (d2.toNat : Int), .int .u8 (d3.toNat : Int), .int .u8 (d4.toNat : Int), .int .u8 (d5.toNat : Int), .int .u8 (d6.toNat : Int), .int .u8 (d7.toNat : Int)] 45)).cell? ⟨w.heap.size, 5, none⟩ = some (.int .u8 (d5.toNat : Int)) := (RowV.new w 45 ([d0, d1, d2, d3, d4, d5, d6, d7].map u8c)).cell 5 (by simp)
 have k6 : (w.alloc (.cells #[.int .u8 (d0.toNat : Int), .int .u8 (d1.toNat : Int), .int .u8 (d2.toNat : Int), .int .u8 (d3.toNat : Int), .int .u8 (d4.toNat : Int), .int .u8 (d5.toNat : Int), .int .u8 (d6.toNat : Int), .int .u8 (d7.toNat : Int)] 45)).cell? ⟨w.heap.size, 6, none⟩ = some (.int .u8 (d6.toNat : Int)) := (RowV.new w 45 ([d0, d1, d2, d3, d4, d5, d6, d7].map u8c)).cell 6 (by simp)
 have k7 : (w.alloc (.cells #[.int .u8 (d0.toNat : Int), .int .u8 (d1.toNat : Int), .int .u8 (d2.toNat : Int), .int .u8 (d3.toNat : Int), .int .u8 (d4.toNat : Int), .int .u8 (d5.toNat : Int), .int .u8 (d6.toNat : Int), .int .u8 (d7.toNat : Int)] 45)).cell? ⟨w.heap.size, 7, none⟩ = some (.int .u8 (d7.toNat : Int)) := (RowV.new w 45 ([d0, d1, d2, d3, d4, d5, d6, d7].map u8c)).cell 7 (by simp)
 have HA : Hid (Below w.heap.size w (w.alloc (.cells #[.int .u8 (d0.toNat : Int), .int .u8 (d1.toNat : Int), .int .u8 (d2.toNat : Int), .int .u8 (d3.toNat : Int), .int .u8 (d4.toNat : Int), .int .u8 (d5.toNat : Int), .int .u8 (d6.toNat : Int), .int .u8 (d7.toNat : Int)] 45))) := hA
 clear hr hk hp hpc hM hA
 generalize rrd [d0, d1, d2, d3, d4, d5, d6, d7] key key proof = R at *
 go_enter Try.func38, Try.ntmps38
 go_wp2_with fail
 refine HRR.out.mono ?_
 rintro e w1 ⟨hb1, hm⟩
 have HB1 : Hid (Below w.heap.size w w1) := HA.out.trans (hb1.mono (by simp))
 cases R with
 | none =>
  obtain rfl : e = _ := hm
  go_wp2
  go_ret2
  exact ⟨HB1.out, rfl⟩
 | some es =>
  obtain ⟨v, ys, rfl, hen⟩ := hm
  unfold SlR.val
  go_wp2
  go_ret2
  exact ⟨HB1.out, v, ys, rfl, hen.toBase (by simp)⟩
end Go.Proofs.Ytekegfbjbainhaa
