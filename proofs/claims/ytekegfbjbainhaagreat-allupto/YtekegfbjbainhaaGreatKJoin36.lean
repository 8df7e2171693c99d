import Derived.Test.YtekegfbjbainhaaGreatKJoin35
import Derived.Laws.BitsAllLaws
import Derived.Deep.RegionHeld3
import Derived.Deep.RegionHeldLaw
import Derived.Deep.DeepCutAuto
set_option linter.unusedVariables false
set_option linter.unusedSimpArgs false

namespace Go.Proofs.YtekegfbjbainhaaGreat
open Go.RowKit
attribute [local go_sem ↓] Go.wp_at_zero Go.wp_at_succ
set_option maxRecDepth 100000 in
set_option maxHeartbeats 2000000 in
theorem turned_no (v : SlR) (L : List UInt8) (p : Int) (s : ByteArray) (base : Nat) (w : World) (ho : OwnB w base v.val L) (hL : L.length ≤ 1000000000) (h : L.length = 0 ∨ s.toList.isEmpty = true) :
  Calls Tryz.prog 56 #[v.val, .int .i64 p, .string s] w fun e w' => e = .returned (.string ⟨L.toArray⟩) ∧ w' = w := by
 obtain ⟨hs, hn, hnil⟩ := OwnB.sl (a := v.a) (n := v.n) (cap := v.cap) ho
 have hc := run_string_SlB (P := Tryz.prog) w 38 9 5 v.a v.n v.cap _ Tryz.underlying38 Tryz.underlying5 Tryz.underlying9 hn hs hnil
 have hnI : (v.n : Int) ≤ 1000000000 := by rw [hn]; omega
 unfold SlR.val
 rw [hn] at hc hnI ⊢
 clear ho hs hnil
 by_cases h0 : L.length = 0
 ·rw [h0] at hc ⊢
  go_enter Tryz.func56, Tryz.ntmps56
  go_wp2
  go_ret
  exact ⟨rfl, rfl⟩
 ·have hemp : s.toList.isEmpty = true := by
   rcases h with h | h
   ·exact absurd h h0
   ·exact h
  have hv : (0 : Int) < L.length := by omega
  go_enter Tryz.func56, Tryz.ntmps56
  go_wp2
  go_ret
  exact ⟨rfl, rfl⟩
set_option maxRecDepth 100000 in
set_option maxHeartbeats 2000000 in
theorem turned_yes (v : SlR) (L : List UInt8) (p : Int) (s : ByteArray) (base : Nat) (w : World) (ho : OwnB w base v.val L) (hL : L.length ≤ 1000000000) (h0 : 0 < L.length) (hemp : s.toList.isEmpty = false) (hp1 : -9223372036854775808 ≤ p) (hp2 : p ≤ 9223372036854775807) :
  Calls Tryz.prog 56 #[v.val, .int .i64 p, .string s] w fun e w' => ∃ L' : List UInt8, L'.length = L.length ∧ e = .returned (.string ⟨L'.toArray⟩) ∧ Frame (fun k => v.val.ownBlock = some k) w w' := by
 obtain ⟨hs, hn, hnil⟩ := OwnB.sl (a := v.a) (n := v.n) (cap := v.cap) ho
 have hnI : (v.n : Int) ≤ 1000000000 := by rw [hn]; omega
 have hv : (0 : Int) < v.n := by omega
 have HPK : Hid (∀ W, Calls Tryz.prog 20 #[.int .i64 p, .int .i64 (v.n : Int)] W fun e w' => e = .returned (.int .i64 (pickN p v.n : Int)) ∧ w' = W) := fun W => pick_any p v.n W hp1 hp2 (by omega) (by unfold maxLen; omega)
 have hi : pickN p v.n < L.length := by have := pickN_lt p v.n (by omega); omega
 have hiI : (pickN p v.n : Int) < v.n := by omega
 generalize pickN p v.n = i at *
 obtain ⟨va, vn, vc⟩ := v
 have hcp := owns_cap (a := va) (n' := vn) (cap := vc) ho
 obtain ⟨g, hva, hgb, hgw⟩ : ∃ g, va = some ⟨g, 0, none⟩ ∧ base ≤ g ∧ g < w.heap.size := by
  rcases hcp.2.2.2 with ⟨_, hz, _⟩ | hx
  ·omega
  ·exact hx
 subst hva
 unfold SlR.val at ho ⊢
 simp only at ho hnI hv HPK hiI hn ⊢
 subst hn
 have hcell : w.cell? ⟨g, i, none⟩ = some (.int .u8 (L[i].toNat : Int)) := by
  have hcell := World.ownsRow.cellAt ho i (by omega)
  rw [List.getElem?_map, List.getElem?_eq_getElem hi] at hcell
  exact hcell
 have hfr := World.ownsRow.frozenAt ho i
 have hsz : 0 < s.size := by
  cases hd : s.data.toList with
  | nil => rw [Lib.toList_data, hd] at hemp; cases hemp
  | cons x r =>
   have : s.data.toList.length = s.size := by rw [Array.length_toList]; rfl
   rw [hd, List.length_cons] at this; omega
 have hszI : (0 : Int) < s.size := by omega
 have HX : Value.int .u8 (bits BinOp.xor IntKind.u8 (L[i].toNat : Int) (s[0].toNat : Int)) = u8c (L[i] ^^^ s[0]) := by
  rw [u8_xor_nat _ _ (UInt8.toNat_lt _) (UInt8.toNat_lt _)]
  unfold u8c
  rw [UInt8.toNat_xor]
 have ho' : OwnB (w.setCell ⟨g, i, none⟩ (u8c (L[i] ^^^ s[0]))) base (.slice (some ⟨g, 0, none⟩) L.length vc) (L.set i (L[i] ^^^ s[0])) := by
  have := (World.ownsRow.stored ho i (u8c (L[i] ^^^ s[0]))).1
  unfold OwnB
  rw [List.map_set, List.length_set]
  exact this
 have hf' : Frame (fun k => (Value.slice (some ⟨g, 0, none⟩) L.length vc).ownBlock = some k) w (w.setCell ⟨g, i, none⟩ (u8c (L[i] ^^^ s[0]))).drew := by
  have h1 : Frame (fun k => (Value.slice (some ⟨g, 0, none⟩) L.length vc).ownBlock = some k) w (w.setCell ⟨g, i, none⟩ (u8c (L[i] ^^^ s[0]))) := (Frame.refl (fun k => (Value.slice (some ⟨g, 0, none⟩) L.length vc).ownBlock = some k) w).setCell (p := ⟨g, i, none⟩) rfl _
  have h2 : Below (w.setCell ⟨g, i, none⟩ (u8c (L[i] ^^^ s[0]))).heap.size (w.setCell ⟨g, i, none⟩ (u8c (L[i] ^^^ s[0]))) (w.setCell ⟨g, i, none⟩ (u8c (L[i] ^^^ s[0]))).drew := ⟨rfl, rfl, rfl, Nat.le_refl _, fun _ _ => rfl⟩
  exact h1.trans (Frame.of_below_all h2)
 obtain ⟨hs', hn', hnil'⟩ := OwnB.sl ho'
 have hc := run_string_SlB (P := Tryz.prog) (w.setCell ⟨g, i, none⟩ (u8c (L[i] ^^^ s[0]))).drew 38 9 5 (some ⟨g, 0, none⟩) L.length vc (L.set i (L[i] ^^^ s[0])) Tryz.underlying38 Tryz.underlying5 Tryz.underlying9 hn' hs' hnil'
 rw [← HX] at hc hf'
 have HF : Hid (Frame _ w _) := hf'
 have HL : Hid ((L.set i (L[i] ^^^ s[0])).length = L.length) := List.length_set
 generalize L.set i (L[i] ^^^ s[0]) = L' at *
 clear ho' hs' hn' hnil' hf' HX ho hcp hs hnil
 go_enter Tryz.func56, Tryz.ntmps56
 go_wp2_with fail
 refine (HPK.out _).mono ?_
 rintro e w1 ⟨rfl, rfl⟩
 go_wp2_with fail
 go_region
 go_wp2
 go_ret
 exact ⟨L', HL.out, rfl, HF.out⟩
theorem turned_any (v : SlR) (L : List UInt8) (p : Int) (s : ByteArray) (base : Nat) (w : World) (ho : OwnB w base v.val L) (hL : L.length ≤ 1000000000) (hp1 : -9223372036854775808 ≤ p) (hp2 : p ≤ 9223372036854775807) :
  Calls Tryz.prog 56 #[v.val, .int .i64 p, .string s] w fun e w' => ∃ L' : List UInt8, L'.length = L.length ∧ e = .returned (.string ⟨L'.toArray⟩) ∧ Frame (fun k => v.val.ownBlock = some k) w w' := by
 by_cases h : L.length = 0 ∨ s.toList.isEmpty = true
 ·refine (turned_no v L p s base w ho hL h).mono ?_
  rintro e w' ⟨rfl, rfl⟩
  exact ⟨L, rfl, rfl, Frame.refl _ _⟩
 ·have h1 : ¬ L.length = 0 := fun e => h (Or.inl e)
  have h2 : s.toList.isEmpty = false := by
   cases hh : s.toList.isEmpty with
   | true => exact absurd (Or.inr hh) h
   | false => rfl
  exact turned_yes v L p s base w ho hL (by omega) h2 hp1 hp2
end Go.Proofs.YtekegfbjbainhaaGreat


namespace Go.Proofs.YtekegfbjbainhaaGreat
open Go.RowKit
theorem commitC_length (e n : Nat) (r s : List UInt8) (hr : r.length = 8) (hs : s.length = 8) : (commitC e r n s).length = 18 := by
 simp [commitC, hr, hs]
theorem comsF_length : ∀ (n : Nat) (rl : List (List UInt8)), n ≤ rl.length → (∀ r ∈ rl, r.length = 8) → (comsF n rl).length = n * 18
 | 0, _, _, _ => rfl
 | n + 1, rl, h, hr => by
  unfold comsF
  have hg : (rl.getD n []).length = 8 := by
   rw [List.getD_eq_getElem?_getD, List.getElem?_eq_getElem (by omega)]
   exact hr _ (List.getElem_mem _)
  rw [List.length_append, comsF_length n rl (by omega) hr, commitC_length _ _ _ _ hg (sumF_length 41 _)]
  omega
theorem comsF_get : ∀ (n : Nat) (rl : List (List UInt8)) (k j : Nat), n ≤ rl.length → (∀ r ∈ rl, r.length = 8) → k < n → j < 18 → (comsF n rl)[k * 18 + j]? = (commitC k (rl.getD k []) (k + 1) (sumF 42 (rl.take (k + 1))))[j]?
 | 0, _, _, _, _, _, hk, _ => absurd hk (Nat.not_lt_zero _)
 | n + 1, rl, k, j, h, hr, hk, hj => by
  unfold comsF
  have hl := comsF_length n rl (by omega) hr
  by_cases hkn : k < n
  ·rw [List.getElem?_append_left (by omega)]
   exact comsF_get n rl k j (by omega) hr hkn hj
  ·obtain rfl : k = n := by omega
   rw [List.getElem?_append_right (by omega), hl, Nat.add_sub_cancel_left]
theorem coms_root (rl : List (List UInt8)) (hr : ∀ r ∈ rl, r.length = 8) (k j : Nat) (hk : k < rl.length) (hj : j < 8) : (comsC rl)[k * 18 + 1 + j]? = (rl[k].map u8c)[j]? := by
 unfold comsC
 rw [Nat.add_assoc, comsF_get rl.length rl k (1 + j) (Nat.le_refl _) hr hk (by omega)]
 have e : rl.getD k [] = rl[k] := by rw [List.getD_eq_getElem?_getD, List.getElem?_eq_getElem hk]; rfl
 have h8 := hr _ (List.getElem_mem hk)
 rw [e]
 unfold commitC
 rw [List.append_assoc, List.append_assoc, Nat.add_comm 1 j, List.singleton_append, List.getElem?_cons_succ, List.getElem?_append_left (by simp; omega)]
theorem rootOf_length (nd : Nd) : (rootOf nd).length = 8 := digB_length _
theorem done_root {w : World} {d : PairD} (h : PairOk w d) (k : Nat) (hk : k < d.tds.length) : d.done.n = d.tds.length ∧ ∃ (g o : Nat) (x0 x1 x2 x3 x4 x5 x6 x7 : UInt8), d.done.a = some ⟨g, o, none⟩ ∧ g < w.heap.size ∧ d.done.val.ownBlock = some g ∧
  w.cell? ⟨g, o + k * 18 + 1, none⟩ = some (u8c x0) ∧ w.cell? ⟨g, o + k * 18 + 1 + 1, none⟩ = some (u8c x1) ∧ w.cell? ⟨g, o + k * 18 + 1 + 2, none⟩ = some (u8c x2) ∧ w.cell? ⟨g, o + k * 18 + 1 + 3, none⟩ = some (u8c x3) ∧ w.cell? ⟨g, o + k * 18 + 1 + 4, none⟩ = some (u8c x4) ∧ w.cell? ⟨g, o + k * 18 + 1 + 5, none⟩ = some (u8c x5) ∧ w.cell? ⟨g, o + k * 18 + 1 + 6, none⟩ = some (u8c x6) ∧ w.cell? ⟨g, o + k * 18 + 1 + 7, none⟩ = some (u8c x7) := by
 obtain ⟨hsl, hn⟩ := SlV.ofOwn (s := d.done) h.lay.hdone
 have hc := owns_cap (a := d.done.a) (n' := d.done.n) (cap := d.done.cap) h.lay.hdone
 have hr : ∀ r ∈ d.tds.map rootOf, r.length = 8 := fun r hr => by
  obtain ⟨nd, _, rfl⟩ := List.mem_map.1 hr
  exact rootOf_length nd
 have hkr : k < (d.tds.map rootOf).length := by simpa using hk
 obtain ⟨x0, x1, x2, x3, x4, x5, x6, x7, hx⟩ := list8 (d.tds.map rootOf)[k] (hr _ (List.getElem_mem hkr))
 rw [h.dc] at hsl
 obtain ⟨g, ha, hg0⟩ : ∃ g, d.done.a = some ⟨g, 0, none⟩ ∧ g < w.heap.size := by
  rcases hc.2.2.2 with ⟨_, hz, _⟩ | ⟨g, hg, _, hlt⟩
  ·have := h.dl; omega
  ·exact ⟨g, hg, hlt⟩
 have hcell : ∀ j, j < 8 → w.cell? ⟨g, 0 + k * 18 + 1 + j, none⟩ = ([x0, x1, x2, x3, x4, x5, x6, x7].map u8c)[j]? := fun j hj => by
  have hv := coms_root (d.tds.map rootOf) hr k j hkr hj
  rw [hx] at hv
  have hlt : k * 18 + 1 + j < (comsC (d.tds.map rootOf)).length := by
   unfold comsC
   rw [comsF_length _ _ (Nat.le_refl _) hr]
   omega
  obtain ⟨b, o, e, _, hcl⟩ := hsl (k * 18 + 1 + j) hlt
  rw [ha] at e
  cases e
  rw [← hv, List.getElem?_eq_getElem hlt, ← hcl]
  congr 2
  omega
 refine ⟨by rw [hn, h.dl], g, 0, x0, x1, x2, x3, x4, x5, x6, x7, ha, hg0, by unfold SlR.val; rw [ha]; rfl, hcell 0 (by omega), hcell 1 (by omega), hcell 2 (by omega), hcell 3 (by omega), hcell 4 (by omega), hcell 5 (by omega), hcell 6 (by omega), hcell 7 (by omega)⟩
end Go.Proofs.YtekegfbjbainhaaGreat


namespace Go.Proofs.YtekegfbjbainhaaGreat
open Go.RowKit
attribute [local go_sem ↓] Go.wp_at_zero Go.wp_at_succ
theorem prvB_short {pp : List (List ItR)} (h : ∀ p ∈ pp, PastR p) (e : Int) (key : List UInt8) : (prvB pp e key).length ≤ 1000000 := by
 unfold prvB
 split
 ·exact prf_short (pastAt_R h e) _ _
 ·simp
theorem rngB_short {pp : List (List ItR)} (h : ∀ p ∈ pp, PastR p) (e : Int) (fr tu : List UInt8) : (rngB pp e fr tu).length ≤ 1000000 := by
 unfold rngB
 split
 ·exact prf_short (pastAt_R h e) _ _
 ·simp
def StepK (mr mg mh : Nat) (wb : Nat) (ps : SlR) (ds : List PairD) (B : BookD) (w : World) (e : Ending) (w' : World) : Prop :=
 e = .returned (.bool true) ∧ ∃ B' : BookD, LawK w' wb ps ds B' ∧ B'.rs.length ≤ B.rs.length + mr ∧ B'.gs.length ≤ B.gs.length + mg ∧ B'.hs.length ≤ B.hs.length + mh ∧ Below wb w w'
theorem LawK.frameBelow {w W : World} {wb : Nat} {ps : SlR} {ds : List PairD} {B : BookD} (h : LawK w wb ps ds B) (hf : Frame (fun k => k = wb ∨ B.F k) w W) : Below wb w W :=
 hf.below (Nat.le_of_lt (RowV.lt h.law.row)) (fun k hk => by
  rcases hk with rfl | hk
  ·exact Nat.le_refl _
  ·exact Nat.le_of_lt (h.low k hk).1)
theorem LawK.keepCell {w W : World} {wb : Nat} {ps : SlR} {ds : List PairD} {B : BookD} {d : PairD} (h : LawK w wb ps ds B) (hd : d ∈ ds) (hf : Frame (fun k => k = wb ∨ B.F k) w W) {k : Nat} (hk : d.F k) (o : Nat) : W.cell? ⟨k, o, none⟩ = w.cell? ⟨k, o, none⟩ :=
 World.cell?_of_block (hf.block k ((h.law.ok d hd).lay.lt k hk) (fun e => by
  rcases e with e | e
  ·have := (h.law.low d hd k hk).1; omega
  ·exact (h.low k e).2.2 d hd hk))
theorem LawK.keepOther {w W : World} {wb : Nat} {ps : SlR} {ds : List PairD} {B : BookD} (h : LawK w wb ps ds B) (hf : Frame (fun k => k = wb ∨ B.F k) w W) {k : Nat} (hk : k < w.heap.size) (h1 : k ≠ wb) (h2 : ¬ B.F k) (o : Nat) : W.cell? ⟨k, o, none⟩ = w.cell? ⟨k, o, none⟩ :=
 World.cell?_of_block (hf.block k hk (fun e => e.elim h1 h2))
set_option maxRecDepth 100000 in
set_option maxHeartbeats 1000000 in
theorem asked_none (cs : List Value) (wb : Nat) (ps : SlR) (ds : List PairD) (B : BookD) (d : PairD) (w : World) (h : LawK w wb ps ds B) (hd : d ∈ ds) (h0 : d.tds.length = 0) :
  Calls Tryz.prog 23 #[.pointer (some ⟨wb, 0, none⟩), .agg cs.toArray, .pointer (some ⟨d.pb, 0, none⟩)] w (StepK 0 0 0 wb ps ds B w) := by
 have hdk := h.law.ok d hd
 have HA : Hid (Below w.heap.size w (w.alloc (.cells cs.toArray 43))) := (Below.refl _ _).alloc (Nat.le_refl _) _
 have hpb : d.pb < w.heap.size := RowV.lt hdk.lay.row
 have hdn : d.done.n = 0 := by
  obtain ⟨_, hn⟩ := SlV.ofOwn (s := d.done) hdk.lay.hdone
  rw [hn, hdk.dl, h0]
 have r2 : w.cell? ⟨d.pb, 2, none⟩ = some (.slice d.done.a 0 d.done.cap) := by
  have : w.cell? ⟨d.pb, 2, none⟩ = some (.slice d.done.a d.done.n d.done.cap) := RowV.cell hdk.lay.row 2 (by simp)
  rw [hdn] at this; exact this
 have HH : Hid (LawK w wb ps ds B) := h
 clear h hdk hdn
 go_enter Tryz.func23, Tryz.ntmps23
 go_wp2
 go_ret
 exact ⟨rfl, B, HH.out.below HA.out, by omega, by omega, by omega, HA.out.mono (Nat.le_of_lt (RowV.lt HH.out.law.row))⟩
set_option maxRecDepth 100000 in
set_option maxHeartbeats 4000000 in
theorem asked_key (cs : List Value) (ob oc : Int) (s t u : ByteArray) (wb : Nat) (ps : SlR) (ds : List PairD) (B : BookD) (d : PairD) (w : World) (h : LawK w wb ps ds B) (hd : d ∈ ds) (h0 : 0 < d.tds.length) (k0 : cs[0]? = some (.int .i64 14)) (k2 : cs[2]? = some (.int .i64 ob)) (k3 : cs[3]? = some (.int .i64 oc)) (k4 : cs[4]? = some (.string s)) (k5 : cs[5]? = some (.string t)) (k6 : cs[6]? = some (.string u))
  (hb1 : -9223372036854775808 ≤ ob) (hb2 : ob ≤ 9223372036854775807) (hc1 : -9223372036854775808 ≤ oc) (hc2 : oc ≤ 9223372036854775807) (hs : s.size ≤ 140737488351232) (ht : t.size ≤ 140737488351232) (hn : B.rs.length ≤ 1190000000000) :
  Calls Tryz.prog 23 #[.pointer (some ⟨wb, 0, none⟩), .agg cs.toArray, .pointer (some ⟨d.pb, 0, none⟩)] w (StepK 2 0 0 wb ps ds B w) := by
 have hdk := h.law.ok d hd
 have hsm : s.data.toList.length ≤ maxLen := by simp; unfold maxLen; omega
 have HSM : Hid (s.data.toList.length ≤ maxLen) := hsm
 have hpb : d.pb < w.heap.size := RowV.lt hdk.lay.row
 have hwb : wb < w.heap.size := RowV.lt h.law.row
 have hkl := pickN_lt ob d.tds.length h0
 have HPK : Hid (∀ W, Calls Tryz.prog 20 #[.int .i64 ob, .int .i64 (d.tds.length : Int)] W fun e w' => e = .returned (.int .i64 (pickN ob d.tds.length : Int)) ∧ w' = W) := fun W => pick_any ob _ W hb1 hb2 h0 (by have := hdk.t40; unfold maxLen; omega)
 obtain ⟨hdn, g, o, x0, x1, x2, x3, x4, x5, x6, x7, hga, hgw, hgo, y0, y1, y2, y3, y4, y5, y6, y7⟩ := done_root hdk _ hkl
 have r2 : w.cell? ⟨d.pb, 2, none⟩ = some (.slice (some ⟨g, o, none⟩) d.tds.length d.done.cap) := by
  have : w.cell? ⟨d.pb, 2, none⟩ = some (.slice d.done.a d.done.n d.done.cap) := RowV.cell hdk.lay.row 2 (by simp)
  rw [hdn, hga] at this; exact this
 have r1 : w.cell? ⟨d.pb, 1, none⟩ = some (.pointer (some ⟨d.rb, 0, none⟩)) := RowV.cell hdk.lay.row 1 (by simp)
 have h40 : d.tds.length ≤ 40 := hdk.t40
 have HFP : Hid (d.F d.pb) := Or.inl (Or.inl rfl)
 have HFG : Hid (d.F g) := Or.inl (Or.inr hgo)
 have HDD : Hid (d ∈ ds) := hd
 have HH : Hid (LawK w wb ps ds B) := h
 have HDK : Hid (PairOk w d) := hdk
 have HN : Hid (B.rs.length ≤ 1190000000000) := hn
 have HSH : Hid (∀ k : Nat, (prvB d.pp k s.data.toList).length ≤ 1000000) := fun k => prvB_short hdk.lay.pastR _ _
 clear hsm h hdk hd hn hdn hga hgo
 generalize pickN ob d.tds.length = k at *
 unfold u8c at y0 y1 y2 y3 y4 y5 y6 y7
 have hnI : (0 : Int) < d.tds.length := by omega
 have hn40 : (d.tds.length : Int) ≤ 40 := by omega
 have hkI : (k : Int) < d.tds.length := by omega
 have hn0 : ((d.tds.length : Int) == 0) = false := by rw [Bool.eq_false_iff]; simp only [ne_eq, beq_iff_eq]; omega
 generalize d.tds.length = N at *
 go_enter Tryz.func23, Tryz.ntmps23
 go_wp2
 go_quiet (first | (go_at_call 20; exact Calls.quiet_of_same (HPK.out _)))
 have HBq : Hid (Below w.heap.size w ((w.alloc (.cells cs.toArray 43)).drewN nq)) := by
  have hb := (Below.refl w.heap.size w).alloc (Nat.le_refl _) (.cells cs.toArray 43)
  exact ⟨hb.os, hb.tape, hb.output, hb.size, hb.block⟩
 have hW1 : w.heap.size < ((w.alloc (.cells cs.toArray 43)).drewN nq).heap.size := by
  show w.heap.size < (w.alloc (.cells cs.toArray 43)).heap.size
  simp
 have c0 : ((w.alloc (.cells cs.toArray 43)).drewN nq).cell? ⟨w.heap.size, 0, none⟩ = some (.int .i64 14) := by simp [go_sem, k0]
 have c3 : ((w.alloc (.cells cs.toArray 43)).drewN nq).cell? ⟨w.heap.size, 3, none⟩ = some (.int .i64 oc) := by simp [go_sem, k3]
 have c4 : ((w.alloc (.cells cs.toArray 43)).drewN nq).cell? ⟨w.heap.size, 4, none⟩ = some (.string s) := by simp [go_sem, k4]
 have c5 : ((w.alloc (.cells cs.toArray 43)).drewN nq).cell? ⟨w.heap.size, 5, none⟩ = some (.string t) := by simp [go_sem, k5]
 have c6 : ((w.alloc (.cells cs.toArray 43)).drewN nq).cell? ⟨w.heap.size, 6, none⟩ = some (.string u) := by simp [go_sem, k6]
 have c2 : ((w.alloc (.cells cs.toArray 43)).drewN nq).cell? ⟨w.heap.size, 2, none⟩ = some (.int .i64 ob) := by simp [go_sem, k2]
 generalize (w.alloc (.cells cs.toArray 43)).drewN nq = w1 at *
 have hold : ∀ (b q : Nat), b < w.heap.size → w1.cell? ⟨b, q, none⟩ = w.cell? ⟨b, q, none⟩ := fun b q hb => HBq.out.cell (p := ⟨b, q, none⟩) hb
 rw [← hold _ _ hpb] at r1 r2
 rw [← hold _ _ hgw] at y0 y1 y2 y3 y4 y5 y6 y7
 have HP1 := HDK.out.lay.below HBq.out
 have hcv := fun w => run_bytes_of_string (P := Tryz.prog) w 9 38 5 s Tryz.underlying9 Tryz.underlying38 Tryz.underlying5
 have HREF : Hid (∀ (W : World) (a' : Option Addr) (n' cap' : Nat), Below w1.heap.size w1 W → BS W ⟨a', n', cap'⟩ s.data.toList → Calls Tryz.prog 47 #[.pointer (some ⟨d.rb, 0, none⟩), .int .i64 (k : Int), .slice a' n' cap'] W fun r w' => ∃ v' : SlR, r = .returned (.tuple #[.slice v'.a v'.n v'.cap, .int .i64 (prvE d.pp.length k s.data.toList : Int)]) ∧ OwnB w' W.heap.size v'.val (prvB d.pp k s.data.toList) ∧ Below W.heap.size W w') := fun W a' n' cap' hb hbs => by
  have hr := ref_prove d.rb d.now d.past d.roots d.nl d.pastL d.rl k ⟨a', n', cap'⟩ s.data.toList W (HP1.below hb).ref (by rw [HDK.out.pl]; exact HDK.out.t40) (fun q hq => HP1.pastR _ (by rw [← HDK.out.pst]; exact List.mem_map_of_mem hq)) hbs HSM.out
  rw [HDK.out.pst] at hr
  exact hr
 have hpb1 : d.pb < w1.heap.size := by omega
 have hg1 : g < w1.heap.size := by omega
 have HHD : Hid (∀ (b q : Nat), b < w.heap.size → w1.cell? ⟨b, q, none⟩ = w.cell? ⟨b, q, none⟩) := hold
 clear HP1 hold
 go_wp2
 go_cut [8, 9] (fun bv fv wx => ∃ v4 : SlR, bv = .slice v4.a v4.n v4.cap ∧ fv = .int .i64 (prvE d.pp.length k s.data.toList : Int) ∧ Hid (Below w1.heap.size w1 wx) ∧ Hid (OwnB wx w1.heap.size v4.val (prvB d.pp k s.data.toList)))
 case first =>
  go_region_held_law (fun W => W.cell? ⟨d.pb, 1, none⟩ = some (.pointer (some ⟨d.rb, 0, none⟩)) ∧ W.cell? ⟨w.heap.size, 4, none⟩ = some (.string s)) (go_keep)
   ((go_at_call 47; refine (HREF.out _ _ _ _ (by repeat' (first | (with_reducible exact Below.refl _ _) | (with_reducible refine Below.drew ?_) | (with_reducible refine Below.alloc ?_ ?_ _) | omega | (simp only [World.size_alloc, World.size_drew]; omega))) (by repeat' (first | (with_reducible exact BS.ofString _ _ _ _ _) | (with_reducible refine BS.drew ?_))) ).mono ?_; rintro r w4 ⟨v4, rfl, ho4, hb4⟩; have HB4 : Hid (Below w1.heap.size w1 w4) := Below.trans (by repeat' (first | (with_reducible exact Below.refl _ _) | (with_reducible refine Below.drew ?_) | (with_reducible refine Below.alloc ?_ ?_ _) | omega | (simp only [World.size_alloc, World.size_drew]; omega))) (Below.mono hb4 (by simp)); have HO4 : Hid (OwnB w4 w1.heap.size v4.val (prvB d.pp k s.data.toList)) := owns_base ho4 (fun k hk => (by have h1 := (ho4.lt k hk).1; simp at h1; omega)); clear ho4 hb4; have e1 : w4.cell? ⟨d.pb, 1, none⟩ = some (.pointer (some ⟨d.rb, 0, none⟩)) := (by rw [HB4.out.cell (p := ⟨d.pb, 1, none⟩) (by show d.pb < w1.heap.size; omega)]; exact r1); have e4 : w4.cell? ⟨w.heap.size, 4, none⟩ = some (.string s) := (by rw [HB4.out.cell (p := ⟨w.heap.size, 4, none⟩) (by show w.heap.size < w1.heap.size; omega)]; exact c4)))
  all_goals
   go_wp2
   go_meet
   exact ⟨v4, rfl, rfl, HB4, HO4⟩
 case rest =>
  obtain ⟨v4, rfl, rfl, HB4, HO4⟩ := hcut
  have hbc := HB4.out
  have HLN : Hid ((prvB d.pp k s.data.toList).length ≤ 1000000) := HSH.out k
  have keepc : ∀ (b q : Nat), b < w1.heap.size → wc.cell? ⟨b, q, none⟩ = w1.cell? ⟨b, q, none⟩ := fun b q hb => hbc.cell (p := ⟨b, q, none⟩) hb
  have e3 := (keepc _ 3 hW1).trans c3
  have e6 := (keepc _ 6 hW1).trans c6
  have HT : Hid (Calls _ _ _ _ _) := turned_any v4 (prvB d.pp k s.data.toList) oc u w1.heap.size wc HO4.out (by have := HLN.out; omega) hc1 hc2
  unfold SlR.val at HT
  clear HREF
  go_wp2_with fail
  refine HT.out.mono ?_
  rintro e w5 ⟨L', hL', rfl, hf5⟩
  have HB5 : Hid (Below w1.heap.size w1 w5) := hbc.trans (hf5.below hbc.size (fun k hk => (HO4.out.lt k hk).1))
  have keep5 : ∀ (b q : Nat), b < w1.heap.size → w5.cell? ⟨b, q, none⟩ = w1.cell? ⟨b, q, none⟩ := fun b q hb => HB5.out.cell (p := ⟨b, q, none⟩) hb
  rw [← keep5 _ _ hpb1] at r2
  rw [← keep5 _ _ hg1] at y0 y1 y2 y3 y4 y5 y6 y7
  rw [← keep5 _ _ hW1] at c4 c5
  have hz5 := HB5.out.size
  have HBW : Hid (Below w.heap.size w w5) := HBq.out.trans (HB5.out.mono HBq.out.size)
  have HBD : Hid (Below w.heap.size w w5.drew) := ⟨HBW.out.os, HBW.out.tape, HBW.out.output, HBW.out.size, HBW.out.block⟩
  have HK5 : Hid (LawK w5.drew wb ps ds B) := HH.out.below HBD.out
  have hpf : (ByteArray.mk L'.toArray).size ≤ 1000000 := by
   show L'.toArray.size ≤ 1000000
   have := HLN.out
   simp; omega
  have HC : Hid (Calls _ _ _ _ _) := world_check [x0, x1, x2, x3, x4, x5, x6, x7] s ⟨L'.toArray⟩ wb ps ds B w5.drew HK5.out rfl hs (by omega) (by have := HN.out; omega)
  have HPF : Hid ((ByteArray.mk L'.toArray).size ≤ 1000000) := hpf
  unfold dV u8c at HC
  simp only [List.map_cons, List.map_nil] at HC
  generalize ByteArray.mk L'.toArray = pf at *
  have HNW : Hid (w.heap.size ≠ wb) := by unfold Hid; omega
  have HWSHK5 : Hid (w.heap.size < w5.heap.size) := by unfold Hid; omega
  have HNBHK5 : Hid (¬ B.F w.heap.size) := fun e => by have := HH.out.lt _ e; omega
  have ap := r2
  have a0 := y0
  have a1 := y1
  have a2 := y2
  have a3 := y3
  have a4 := y4
  have a5 := y5
  have a6 := y6
  have a7 := y7
  have aS := c4
  have aT := c5
  clear HT hL' hf5 e3 e6 keepc keep5 hbc HO4 HB4 hpf c0 c2 c3 c6 hcv r1 r2 y0 y1 y2 y3 y4 y5 y6 y7 c4 c5 HHD HPK HSM HDK
  go_wp2
  go_region_held3 (fun W => W.cell? ⟨d.pb, 2, none⟩ = some (.slice (some ⟨g, o, none⟩) N d.done.cap) ∧ W.cell? ⟨g, o + k * 18 + 1, none⟩ = some (.int .u8 (x0.toNat : Int)) ∧ W.cell? ⟨g, o + k * 18 + 1 + 1, none⟩ = some (.int .u8 (x1.toNat : Int)) ∧ W.cell? ⟨g, o + k * 18 + 1 + 2, none⟩ = some (.int .u8 (x2.toNat : Int)) ∧ W.cell? ⟨g, o + k * 18 + 1 + 3, none⟩ = some (.int .u8 (x3.toNat : Int)) ∧ W.cell? ⟨g, o + k * 18 + 1 + 4, none⟩ = some (.int .u8 (x4.toNat : Int)) ∧ W.cell? ⟨g, o + k * 18 + 1 + 5, none⟩ = some (.int .u8 (x5.toNat : Int)) ∧ W.cell? ⟨g, o + k * 18 + 1 + 6, none⟩ = some (.int .u8 (x6.toNat : Int)) ∧ W.cell? ⟨g, o + k * 18 + 1 + 7, none⟩ = some (.int .u8 (x7.toNat : Int)) ∧ W.cell? ⟨w.heap.size, 4, none⟩ = some (.string s) ∧ W.cell? ⟨w.heap.size, 5, none⟩ = some (.string t)) (go_keep)
   ((go_at_call 11; refine HC.out.mono ?_; rintro r w6 ⟨rfl, bs1, r1, g1, gg, g2⟩; have bp : w6.cell? ⟨d.pb, 2, none⟩ = _ := (HK5.out.keepCell HDD.out g2 HFP.out 2).trans ap; have b0 : w6.cell? ⟨g, (o + k * 18 + 1), none⟩ = _ := (HK5.out.keepCell HDD.out g2 HFG.out (o + k * 18 + 1)).trans a0; have b1 : w6.cell? ⟨g, (o + k * 18 + 1 + 1), none⟩ = _ := (HK5.out.keepCell HDD.out g2 HFG.out (o + k * 18 + 1 + 1)).trans a1; have b2 : w6.cell? ⟨g, (o + k * 18 + 1 + 2), none⟩ = _ := (HK5.out.keepCell HDD.out g2 HFG.out (o + k * 18 + 1 + 2)).trans a2; have b3 : w6.cell? ⟨g, (o + k * 18 + 1 + 3), none⟩ = _ := (HK5.out.keepCell HDD.out g2 HFG.out (o + k * 18 + 1 + 3)).trans a3; have b4 : w6.cell? ⟨g, (o + k * 18 + 1 + 4), none⟩ = _ := (HK5.out.keepCell HDD.out g2 HFG.out (o + k * 18 + 1 + 4)).trans a4; have b5 : w6.cell? ⟨g, (o + k * 18 + 1 + 5), none⟩ = _ := (HK5.out.keepCell HDD.out g2 HFG.out (o + k * 18 + 1 + 5)).trans a5; have b6 : w6.cell? ⟨g, (o + k * 18 + 1 + 6), none⟩ = _ := (HK5.out.keepCell HDD.out g2 HFG.out (o + k * 18 + 1 + 6)).trans a6; have b7 : w6.cell? ⟨g, (o + k * 18 + 1 + 7), none⟩ = _ := (HK5.out.keepCell HDD.out g2 HFG.out (o + k * 18 + 1 + 7)).trans a7; have bS : w6.cell? ⟨w.heap.size, 4, none⟩ = _ := (HK5.out.keepOther g2 (by exact HWSHK5.out) HNW.out HNBHK5.out 4).trans aS; have bT : w6.cell? ⟨w.heap.size, 5, none⟩ = _ := (HK5.out.keepOther g2 (by exact HWSHK5.out) HNW.out HNBHK5.out 5).trans aT))
  all_goals
   have HK6 : Hid (LawK w6.drew wb ps ds (B.addB bs1 r1)) := g1.below ⟨rfl, rfl, rfl, Nat.le_refl _, fun _ _ => rfl⟩
   have HF6 : Hid (Below wb w w6) := (HBD.out.mono (Nat.le_of_lt hwb)).trans (HK5.out.frameBelow g2)
   have HZ6 := g2.size
   have HWSHK6 : Hid (w.heap.size < w6.heap.size) := Nat.lt_of_lt_of_le HWSHK5.out g2.size
   have HNBHK6 : Hid (¬ (B.addB bs1 r1).F w.heap.size) := fun e => HNBHK5.out (gg _ e HWSHK5.out)
   have HC2 : Hid (Calls _ _ _ _ _) := world_check [x0, x1, x2, x3, x4, x5, x6, x7] t pf wb ps ds (B.addB bs1 r1) w6.drew HK6.out rfl ht (by have := HPF.out; omega) (by have := HN.out; simp [BookD.addB]; omega)
   unfold dV u8c at HC2
   simp only [List.map_cons, List.map_nil] at HC2
   clear HC g1 g2 gg ap a0 a1 a2 a3 a4 a5 a6 a7 aS aT HZ6
   go_wp2
   go_region_held3 (fun W => W.cell? ⟨d.pb, 2, none⟩ = some (.slice (some ⟨g, o, none⟩) N d.done.cap) ∧ W.cell? ⟨g, o + k * 18 + 1, none⟩ = some (.int .u8 (x0.toNat : Int)) ∧ W.cell? ⟨g, o + k * 18 + 1 + 1, none⟩ = some (.int .u8 (x1.toNat : Int)) ∧ W.cell? ⟨g, o + k * 18 + 1 + 2, none⟩ = some (.int .u8 (x2.toNat : Int)) ∧ W.cell? ⟨g, o + k * 18 + 1 + 3, none⟩ = some (.int .u8 (x3.toNat : Int)) ∧ W.cell? ⟨g, o + k * 18 + 1 + 4, none⟩ = some (.int .u8 (x4.toNat : Int)) ∧ W.cell? ⟨g, o + k * 18 + 1 + 5, none⟩ = some (.int .u8 (x5.toNat : Int)) ∧ W.cell? ⟨g, o + k * 18 + 1 + 6, none⟩ = some (.int .u8 (x6.toNat : Int)) ∧ W.cell? ⟨g, o + k * 18 + 1 + 7, none⟩ = some (.int .u8 (x7.toNat : Int)) ∧ W.cell? ⟨w.heap.size, 4, none⟩ = some (.string s) ∧ W.cell? ⟨w.heap.size, 5, none⟩ = some (.string t)) (go_keep)
    ((go_at_call 11; refine HC2.out.mono ?_; rintro r w7 ⟨rfl, bs2, r2, g1, gg, g2⟩; have dp : w7.cell? ⟨d.pb, 2, none⟩ = _ := (HK6.out.keepCell HDD.out g2 HFP.out 2).trans bp; have d0 : w7.cell? ⟨g, (o + k * 18 + 1), none⟩ = _ := (HK6.out.keepCell HDD.out g2 HFG.out (o + k * 18 + 1)).trans b0; have d1 : w7.cell? ⟨g, (o + k * 18 + 1 + 1), none⟩ = _ := (HK6.out.keepCell HDD.out g2 HFG.out (o + k * 18 + 1 + 1)).trans b1; have d2 : w7.cell? ⟨g, (o + k * 18 + 1 + 2), none⟩ = _ := (HK6.out.keepCell HDD.out g2 HFG.out (o + k * 18 + 1 + 2)).trans b2; have d3 : w7.cell? ⟨g, (o + k * 18 + 1 + 3), none⟩ = _ := (HK6.out.keepCell HDD.out g2 HFG.out (o + k * 18 + 1 + 3)).trans b3; have d4 : w7.cell? ⟨g, (o + k * 18 + 1 + 4), none⟩ = _ := (HK6.out.keepCell HDD.out g2 HFG.out (o + k * 18 + 1 + 4)).trans b4; have d5 : w7.cell? ⟨g, (o + k * 18 + 1 + 5), none⟩ = _ := (HK6.out.keepCell HDD.out g2 HFG.out (o + k * 18 + 1 + 5)).trans b5; have d6 : w7.cell? ⟨g, (o + k * 18 + 1 + 6), none⟩ = _ := (HK6.out.keepCell HDD.out g2 HFG.out (o + k * 18 + 1 + 6)).trans b6; have d7 : w7.cell? ⟨g, (o + k * 18 + 1 + 7), none⟩ = _ := (HK6.out.keepCell HDD.out g2 HFG.out (o + k * 18 + 1 + 7)).trans b7; have dS : w7.cell? ⟨w.heap.size, 4, none⟩ = _ := (HK6.out.keepOther g2 (by exact HWSHK6.out) HNW.out HNBHK6.out 4).trans bS; have dT : w7.cell? ⟨w.heap.size, 5, none⟩ = _ := (HK6.out.keepOther g2 (by exact HWSHK6.out) HNW.out HNBHK6.out 5).trans bT))
   all_goals
    have HK7 : Hid (LawK w7 wb ps ds ((B.addB bs1 r1).addB bs2 r2)) := g1
    have HF7 : Hid (Below wb w w7) := HF6.out.trans (by
     have hq := HK6.out.frameBelow g2
     exact ⟨hq.os, hq.tape, hq.output, hq.size, hq.block⟩)
    clear g1 gg g2 HC2
    go_wp2
    go_ret
    exact ⟨rfl, _, HK7.out, by simp [BookD.addB], by simp [BookD.addB], by simp [BookD.addB], HF7.out⟩
end Go.Proofs.YtekegfbjbainhaaGreat


namespace Go.Proofs.YtekegfbjbainhaaGreat
open Go.RowKit
attribute [local go_sem ↓] Go.wp_at_zero Go.wp_at_succ
set_option maxRecDepth 100000 in
set_option maxHeartbeats 4000000 in
theorem asked_range (cs : List Value) (ob oc : Int) (s t u : ByteArray) (wb : Nat) (ps : SlR) (ds : List PairD) (B : BookD) (d : PairD) (w : World) (h : LawK w wb ps ds B) (hd : d ∈ ds) (h0 : 0 < d.tds.length) (k0 : cs[0]? = some (.int .i64 15)) (k2 : cs[2]? = some (.int .i64 ob)) (k3 : cs[3]? = some (.int .i64 oc)) (k4 : cs[4]? = some (.string s)) (k5 : cs[5]? = some (.string t)) (k6 : cs[6]? = some (.string u))
  (hb1 : -9223372036854775808 ≤ ob) (hb2 : ob ≤ 9223372036854775807) (hc1 : -9223372036854775808 ≤ oc) (hc2 : oc ≤ 9223372036854775807) (hs : s.size ≤ 140737488351232) (ht : t.size ≤ 140737488351232) (hn : B.rs.length ≤ 1190000000000) (hh : B.hs.length ≤ 1200000000000) :
  Calls Tryz.prog 23 #[.pointer (some ⟨wb, 0, none⟩), .agg cs.toArray, .pointer (some ⟨d.pb, 0, none⟩)] w (StepK 2000000 0 1 wb ps ds B w) := by
 have hdk := h.law.ok d hd
 have hsm : s.data.toList.length ≤ maxLen := by simp; unfold maxLen; omega
 have HSM : Hid (s.data.toList.length ≤ maxLen) := hsm
 have HTM : Hid (t.data.toList.length ≤ maxLen) := by unfold Hid; simp; unfold maxLen; omega
 have hpb : d.pb < w.heap.size := RowV.lt hdk.lay.row
 have hwb : wb < w.heap.size := RowV.lt h.law.row
 have hkl := pickN_lt ob d.tds.length h0
 have HPK : Hid (∀ W, Calls Tryz.prog 20 #[.int .i64 ob, .int .i64 (d.tds.length : Int)] W fun e w' => e = .returned (.int .i64 (pickN ob d.tds.length : Int)) ∧ w' = W) := fun W => pick_any ob _ W hb1 hb2 h0 (by have := hdk.t40; unfold maxLen; omega)
 obtain ⟨hdn, g, o, x0, x1, x2, x3, x4, x5, x6, x7, hga, hgw, hgo, y0, y1, y2, y3, y4, y5, y6, y7⟩ := done_root hdk _ hkl
 have r2 : w.cell? ⟨d.pb, 2, none⟩ = some (.slice (some ⟨g, o, none⟩) d.tds.length d.done.cap) := by
  have : w.cell? ⟨d.pb, 2, none⟩ = some (.slice d.done.a d.done.n d.done.cap) := RowV.cell hdk.lay.row 2 (by simp)
  rw [hdn, hga] at this; exact this
 have r1 : w.cell? ⟨d.pb, 1, none⟩ = some (.pointer (some ⟨d.rb, 0, none⟩)) := RowV.cell hdk.lay.row 1 (by simp)
 have h40 : d.tds.length ≤ 40 := hdk.t40
 have HFP : Hid (d.F d.pb) := Or.inl (Or.inl rfl)
 have HFG : Hid (d.F g) := Or.inl (Or.inr hgo)
 have HDD : Hid (d ∈ ds) := hd
 have HH : Hid (LawK w wb ps ds B) := h
 have HDK : Hid (PairOk w d) := hdk
 have HN : Hid (B.rs.length ≤ 1190000000000 ∧ B.hs.length ≤ 1200000000000) := ⟨hn, hh⟩
 have HSH : Hid (∀ k : Nat, (rngB d.pp k s.data.toList t.data.toList).length ≤ 1000000) := fun k => rngB_short hdk.lay.pastR _ _ _
 clear hsm h hdk hd hn hh hdn hga hgo
 generalize pickN ob d.tds.length = k at *
 unfold u8c at y0 y1 y2 y3 y4 y5 y6 y7
 have hnI : (0 : Int) < d.tds.length := by omega
 have hn40 : (d.tds.length : Int) ≤ 40 := by omega
 have hkI : (k : Int) < d.tds.length := by omega
 have hn0 : ((d.tds.length : Int) == 0) = false := by rw [Bool.eq_false_iff]; simp only [ne_eq, beq_iff_eq]; omega
 generalize d.tds.length = N at *
 go_enter Tryz.func23, Tryz.ntmps23
 go_wp2
 go_quiet (first | (go_at_call 20; exact Calls.quiet_of_same (HPK.out _)))
 have HBq : Hid (Below w.heap.size w ((w.alloc (.cells cs.toArray 43)).drewN nq)) := by
  have hb := (Below.refl w.heap.size w).alloc (Nat.le_refl _) (.cells cs.toArray 43)
  exact ⟨hb.os, hb.tape, hb.output, hb.size, hb.block⟩
 have hW1 : w.heap.size < ((w.alloc (.cells cs.toArray 43)).drewN nq).heap.size := by
  show w.heap.size < (w.alloc (.cells cs.toArray 43)).heap.size
  simp
 have c0 : ((w.alloc (.cells cs.toArray 43)).drewN nq).cell? ⟨w.heap.size, 0, none⟩ = some (.int .i64 15) := by simp [go_sem, k0]
 have c3 : ((w.alloc (.cells cs.toArray 43)).drewN nq).cell? ⟨w.heap.size, 3, none⟩ = some (.int .i64 oc) := by simp [go_sem, k3]
 have c4 : ((w.alloc (.cells cs.toArray 43)).drewN nq).cell? ⟨w.heap.size, 4, none⟩ = some (.string s) := by simp [go_sem, k4]
 have c5 : ((w.alloc (.cells cs.toArray 43)).drewN nq).cell? ⟨w.heap.size, 5, none⟩ = some (.string t) := by simp [go_sem, k5]
 have c6 : ((w.alloc (.cells cs.toArray 43)).drewN nq).cell? ⟨w.heap.size, 6, none⟩ = some (.string u) := by simp [go_sem, k6]
 have c2 : ((w.alloc (.cells cs.toArray 43)).drewN nq).cell? ⟨w.heap.size, 2, none⟩ = some (.int .i64 ob) := by simp [go_sem, k2]
 generalize (w.alloc (.cells cs.toArray 43)).drewN nq = w1 at *
 have hold : ∀ (b q : Nat), b < w.heap.size → w1.cell? ⟨b, q, none⟩ = w.cell? ⟨b, q, none⟩ := fun b q hb => HBq.out.cell (p := ⟨b, q, none⟩) hb
 rw [← hold _ _ hpb] at r1 r2
 rw [← hold _ _ hgw] at y0 y1 y2 y3 y4 y5 y6 y7
 have HP1 := HDK.out.lay.below HBq.out
 have hcv := fun w => run_bytes_of_string (P := Tryz.prog) w 9 38 5 s Tryz.underlying9 Tryz.underlying38 Tryz.underlying5
 have hcu := fun w => run_bytes_of_string (P := Tryz.prog) w 9 38 5 t Tryz.underlying9 Tryz.underlying38 Tryz.underlying5
 have HREF : Hid (∀ (W : World) (a' : Option Addr) (n' cap' : Nat) (a'' : Option Addr) (n'' cap'' : Nat), Below w1.heap.size w1 W → BS W ⟨a', n', cap'⟩ s.data.toList → BS W ⟨a'', n'', cap''⟩ t.data.toList → Calls Tryz.prog 49 #[.pointer (some ⟨d.rb, 0, none⟩), .int .i64 (k : Int), .slice a' n' cap', .slice a'' n'' cap''] W fun r w' => ∃ v' : SlR, r = .returned (.tuple #[.slice v'.a v'.n v'.cap, .int .i64 (rngE d.pp.length k s.data.toList t.data.toList : Int)]) ∧ OwnB w' W.heap.size v'.val (rngB d.pp k s.data.toList t.data.toList) ∧ Below W.heap.size W w') := fun W a' n' cap' a'' n'' cap'' hb hbs hbt => by
  have hr := ref_range d.rb d.now d.past d.roots d.nl d.pastL d.rl k ⟨a', n', cap'⟩ ⟨a'', n'', cap''⟩ s.data.toList t.data.toList W (HP1.below hb).ref (by rw [HDK.out.pl]; exact HDK.out.t40) (fun q hq => HP1.pastR _ (by rw [← HDK.out.pst]; exact List.mem_map_of_mem hq)) hbs hbt HSM.out HTM.out
  rw [HDK.out.pst] at hr
  exact hr
 have hpb1 : d.pb < w1.heap.size := by omega
 have hg1 : g < w1.heap.size := by omega
 have HHD : Hid (∀ (b q : Nat), b < w.heap.size → w1.cell? ⟨b, q, none⟩ = w.cell? ⟨b, q, none⟩) := hold
 clear HP1 hold
 go_wp2
 go_cut [13, 14] (fun bv fv wx => ∃ v4 : SlR, bv = .slice v4.a v4.n v4.cap ∧ fv = .int .i64 (rngE d.pp.length k s.data.toList t.data.toList : Int) ∧ Hid (Below w1.heap.size w1 wx) ∧ Hid (OwnB wx w1.heap.size v4.val (rngB d.pp k s.data.toList t.data.toList)))
 case first =>
  go_region_held_law (fun W => W.cell? ⟨d.pb, 1, none⟩ = some (.pointer (some ⟨d.rb, 0, none⟩)) ∧ W.cell? ⟨w.heap.size, 4, none⟩ = some (.string s) ∧ W.cell? ⟨w.heap.size, 5, none⟩ = some (.string t)) (go_keep)
   ((go_at_call 49; refine (HREF.out _ _ _ _ _ _ _ (by repeat' (first | (with_reducible exact Below.refl _ _) | (with_reducible refine Below.drew ?_) | (with_reducible refine Below.alloc ?_ ?_ _) | omega | (simp only [World.size_alloc, World.size_drew]; omega))) (by repeat' (first | (with_reducible refine bs_ofString _ _ _ _ _ _ ?_; simp) | (with_reducible refine BS.drew ?_) | (with_reducible refine bs_alloc ?_ _))) (by repeat' (first | (with_reducible refine bs_ofString _ _ _ _ _ _ ?_; simp) | (with_reducible refine BS.drew ?_) | (with_reducible refine bs_alloc ?_ _)))).mono ?_; rintro r w4 ⟨v4, rfl, ho4, hb4⟩; have HB4 : Hid (Below w1.heap.size w1 w4) := Below.trans (by repeat' (first | (with_reducible exact Below.refl _ _) | (with_reducible refine Below.drew ?_) | (with_reducible refine Below.alloc ?_ ?_ _) | omega | (simp only [World.size_alloc, World.size_drew]; omega))) (Below.mono hb4 (by simp; omega)); have HO4 : Hid (OwnB w4 w1.heap.size v4.val (rngB d.pp k s.data.toList t.data.toList)) := owns_base ho4 (fun k hk => (by have h1 := (ho4.lt k hk).1; simp at h1; omega)); clear ho4 hb4; have e1 : w4.cell? ⟨d.pb, 1, none⟩ = some (.pointer (some ⟨d.rb, 0, none⟩)) := (by rw [HB4.out.cell (p := ⟨d.pb, 1, none⟩) (by show d.pb < w1.heap.size; omega)]; exact r1); have e4 : w4.cell? ⟨w.heap.size, 4, none⟩ = some (.string s) := (by rw [HB4.out.cell (p := ⟨w.heap.size, 4, none⟩) (by show w.heap.size < w1.heap.size; omega)]; exact c4); have e5 : w4.cell? ⟨w.heap.size, 5, none⟩ = some (.string t) := (by rw [HB4.out.cell (p := ⟨w.heap.size, 5, none⟩) (by show w.heap.size < w1.heap.size; omega)]; exact c5)))
  all_goals
   go_wp2
   go_meet
   exact ⟨v4, rfl, rfl, HB4, HO4⟩
 case rest =>
  obtain ⟨v4, rfl, rfl, HB4, HO4⟩ := hcut
  have hbc := HB4.out
  have HLN : Hid ((rngB d.pp k s.data.toList t.data.toList).length ≤ 1000000) := HSH.out k
  have keepc : ∀ (b q : Nat), b < w1.heap.size → wc.cell? ⟨b, q, none⟩ = w1.cell? ⟨b, q, none⟩ := fun b q hb => hbc.cell (p := ⟨b, q, none⟩) hb
  have HT : Hid (Calls _ _ _ _ _) := turned_any v4 (rngB d.pp k s.data.toList t.data.toList) oc u w1.heap.size wc.drew (owns_below HO4.out ⟨rfl, rfl, rfl, Nat.le_refl _, fun _ _ => rfl⟩) (by have := HLN.out; omega) hc1 hc2
  have HOL : Hid (∀ k', v4.val.ownBlock = some k' → w1.heap.size ≤ k') := fun k' hk' => (HO4.out.lt k' hk').1
  unfold SlR.val at HT HOL
  rw [← keepc _ _ hpb1] at r2
  rw [← keepc _ _ hg1] at y0 y1 y2 y3 y4 y5 y6 y7
  rw [← keepc _ _ hW1] at c3 c4 c5 c6
  have HNW : Hid (w.heap.size ≠ wb) := by unfold Hid; omega
  have HNB : Hid (¬ B.F w.heap.size) := fun e => by have := HH.out.lt _ e; omega
  have HZC : Hid (w1.heap.size ≤ wc.heap.size) := hbc.size
  have HCK : Hid (∀ (W : World) (pf : ByteArray), LawK W wb ps ds B → pf.size ≤ 1000000 → Calls Tryz.prog 37 #[.pointer (some ⟨wb, 0, none⟩), dV [x0, x1, x2, x3, x4, x5, x6, x7], .string s, .string t, .string pf] W fun e w' => e = .returned (.bool true) ∧ ∃ B' : BookD, LawK w' wb ps ds B' ∧ B'.rs.length ≤ B.rs.length + 2000000 ∧ B'.gs = B.gs ∧ B'.hs.length = B.hs.length + 1 ∧ Frame (fun k => k = wb ∨ B.F k) W w') := fun W pf hW hpf => by
   refine (world_checks [x0, x1, x2, x3, x4, x5, x6, x7] s t pf wb ps ds B W hW rfl hs ht (by omega) (by have := HN.out.1; omega) HN.out.2).mono ?_
   rintro e w' ⟨h0, B', h1, h2, h3⟩
   exact ⟨h0, B', h1, by omega, h3⟩
  unfold dV u8c at HCK
  simp only [List.map_cons, List.map_nil] at HCK
  clear HREF hbc keepc HO4 c0 c2 hcv hcu r1 HHD HPK HSM HTM HDK
  go_wp2
  go_region_held3 (fun W => W.cell? ⟨d.pb, 2, none⟩ = some (.slice (some ⟨g, o, none⟩) N d.done.cap) ∧ W.cell? ⟨g, o + k * 18 + 1, none⟩ = some (.int .u8 (x0.toNat : Int)) ∧ W.cell? ⟨g, o + k * 18 + 1 + 1, none⟩ = some (.int .u8 (x1.toNat : Int)) ∧ W.cell? ⟨g, o + k * 18 + 1 + 2, none⟩ = some (.int .u8 (x2.toNat : Int)) ∧ W.cell? ⟨g, o + k * 18 + 1 + 3, none⟩ = some (.int .u8 (x3.toNat : Int)) ∧ W.cell? ⟨g, o + k * 18 + 1 + 4, none⟩ = some (.int .u8 (x4.toNat : Int)) ∧ W.cell? ⟨g, o + k * 18 + 1 + 5, none⟩ = some (.int .u8 (x5.toNat : Int)) ∧ W.cell? ⟨g, o + k * 18 + 1 + 6, none⟩ = some (.int .u8 (x6.toNat : Int)) ∧ W.cell? ⟨g, o + k * 18 + 1 + 7, none⟩ = some (.int .u8 (x7.toNat : Int)) ∧ W.cell? ⟨w.heap.size, 3, none⟩ = some (.int .i64 oc) ∧ W.cell? ⟨w.heap.size, 4, none⟩ = some (.string s) ∧ W.cell? ⟨w.heap.size, 5, none⟩ = some (.string t) ∧ W.cell? ⟨w.heap.size, 6, none⟩ = some (.string u)) (go_keep)
   ((first
    | (go_at_call 56; refine HT.out.mono ?_; rintro r w5 ⟨L', hL', rfl, hf5⟩; have HB5 : Hid (Below w1.heap.size wc w5) := (by have hq := hf5.below (B := w1.heap.size) (by exact HZC.out) (fun k hk => HOL.out k hk); exact ⟨hq.os, hq.tape, hq.output, hq.size, hq.block⟩); have HKE : ∀ (b q : Nat), b < w1.heap.size → w5.cell? ⟨b, q, none⟩ = wc.cell? ⟨b, q, none⟩ := (fun b q hb => HB5.out.cell (p := ⟨b, q, none⟩) hb); have bP : w5.cell? ⟨d.pb, 2, none⟩ = _ := (HKE _ 2 hpb1).trans r2; have b0 : w5.cell? ⟨g, (o + k * 18 + 1), none⟩ = _ := (HKE _ _ hg1).trans y0; have b1 : w5.cell? ⟨g, (o + k * 18 + 1 + 1), none⟩ = _ := (HKE _ _ hg1).trans y1; have b2 : w5.cell? ⟨g, (o + k * 18 + 1 + 2), none⟩ = _ := (HKE _ _ hg1).trans y2; have b3 : w5.cell? ⟨g, (o + k * 18 + 1 + 3), none⟩ = _ := (HKE _ _ hg1).trans y3; have b4 : w5.cell? ⟨g, (o + k * 18 + 1 + 4), none⟩ = _ := (HKE _ _ hg1).trans y4; have b5 : w5.cell? ⟨g, (o + k * 18 + 1 + 5), none⟩ = _ := (HKE _ _ hg1).trans y5; have b6 : w5.cell? ⟨g, (o + k * 18 + 1 + 6), none⟩ = _ := (HKE _ _ hg1).trans y6; have b7 : w5.cell? ⟨g, (o + k * 18 + 1 + 7), none⟩ = _ := (HKE _ _ hg1).trans y7; have bC3 : w5.cell? ⟨w.heap.size, 3, none⟩ = _ := (HKE _ 3 hW1).trans c3; have bC4 : w5.cell? ⟨w.heap.size, 4, none⟩ = _ := (HKE _ 4 hW1).trans c4; have bC5 : w5.cell? ⟨w.heap.size, 5, none⟩ = _ := (HKE _ 5 hW1).trans c5; have bC6 : w5.cell? ⟨w.heap.size, 6, none⟩ = _ := (HKE _ 6 hW1).trans c6)
    | (go_at_call 37; have HBW : Hid (Below w.heap.size w w5) := (HBq.out.trans ((HB4.out.trans HB5.out).mono HBq.out.size)); have HK5 : Hid (LawK w5 wb ps ds B) := HH.out.below HBW.out; have HWS : Hid (w.heap.size < w5.heap.size) := Nat.lt_of_lt_of_le hW1 (HB4.out.trans HB5.out).size; refine (HCK.out _ _ HK5.out (by show L'.toArray.size ≤ 1000000; have := HLN.out; simp; omega)).mono ?_; rintro r w6 ⟨rfl, B', g1, g2, g3, g4, g5⟩; have dP : w6.cell? ⟨d.pb, 2, none⟩ = _ := (HK5.out.keepCell HDD.out g5 HFP.out 2).trans bP; have d0 : w6.cell? ⟨g, (o + k * 18 + 1), none⟩ = _ := (HK5.out.keepCell HDD.out g5 HFG.out (o + k * 18 + 1)).trans b0; have d1 : w6.cell? ⟨g, (o + k * 18 + 1 + 1), none⟩ = _ := (HK5.out.keepCell HDD.out g5 HFG.out (o + k * 18 + 1 + 1)).trans b1; have d2 : w6.cell? ⟨g, (o + k * 18 + 1 + 2), none⟩ = _ := (HK5.out.keepCell HDD.out g5 HFG.out (o + k * 18 + 1 + 2)).trans b2; have d3 : w6.cell? ⟨g, (o + k * 18 + 1 + 3), none⟩ = _ := (HK5.out.keepCell HDD.out g5 HFG.out (o + k * 18 + 1 + 3)).trans b3; have d4 : w6.cell? ⟨g, (o + k * 18 + 1 + 4), none⟩ = _ := (HK5.out.keepCell HDD.out g5 HFG.out (o + k * 18 + 1 + 4)).trans b4; have d5 : w6.cell? ⟨g, (o + k * 18 + 1 + 5), none⟩ = _ := (HK5.out.keepCell HDD.out g5 HFG.out (o + k * 18 + 1 + 5)).trans b5; have d6 : w6.cell? ⟨g, (o + k * 18 + 1 + 6), none⟩ = _ := (HK5.out.keepCell HDD.out g5 HFG.out (o + k * 18 + 1 + 6)).trans b6; have d7 : w6.cell? ⟨g, (o + k * 18 + 1 + 7), none⟩ = _ := (HK5.out.keepCell HDD.out g5 HFG.out (o + k * 18 + 1 + 7)).trans b7; have dC3 : w6.cell? ⟨w.heap.size, 3, none⟩ = _ := (HK5.out.keepOther g5 (by exact HWS.out) HNW.out HNB.out 3).trans bC3; have dC4 : w6.cell? ⟨w.heap.size, 4, none⟩ = _ := (HK5.out.keepOther g5 (by exact HWS.out) HNW.out HNB.out 4).trans bC4; have dC5 : w6.cell? ⟨w.heap.size, 5, none⟩ = _ := (HK5.out.keepOther g5 (by exact HWS.out) HNW.out HNB.out 5).trans bC5; have dC6 : w6.cell? ⟨w.heap.size, 6, none⟩ = _ := (HK5.out.keepOther g5 (by exact HWS.out) HNW.out HNB.out 6).trans bC6)))
  all_goals
   have HK6 : Hid (LawK w6 wb ps ds B') := g1
   have HF6 : Hid (Below wb w w6) := (HBW.out.mono (Nat.le_of_lt hwb)).trans (HK5.out.frameBelow g5)
   have HG6 : Hid (B'.rs.length ≤ B.rs.length + 2000000 ∧ B'.gs.length ≤ B.gs.length + 0 ∧ B'.hs.length ≤ B.hs.length + 1) := ⟨g2, by rw [g3]; omega, by omega⟩
   clear g1 g2 g3 g4 g5
   go_wp2
   go_ret
   exact ⟨rfl, B', HK6.out, HG6.out.1, HG6.out.2.1, HG6.out.2.2, HF6.out⟩
end Go.Proofs.YtekegfbjbainhaaGreat
