import Derived.Test.YtekegfbjbainhaaGreatKJoin24
import Derived.Test.YtekegfbjbainhaaGreatKJoin15
import Derived.Test.YtekegfbjbainhaaGreatKJoin20
import Derived.Test.YtekegfbjbainhaaGreatKJoin19
import Derived.Deep.RegionHeld3
import Derived.Deep.RegionHeldLaw
import Derived.Deep.DeepCutAuto
set_option linter.unusedVariables false
set_option linter.unusedSimpArgs false

namespace Go.Proofs.YtekegfbjbainhaaGreat
open Go.RowKit
theorem tmod_nat (y n : Nat) : Int.tmod (y : Int) (n : Int) = ((y % n : Nat) : Int) := by
 rw [Int.tmod_eq_emod_of_nonneg (by omega)]; simp
def pickN (x : Int) (n : Nat) : Nat := (if x < 0 then (-(x + 1)).toNat else x.toNat) % n
theorem pickN_lt (x : Int) (n : Nat) (h : 1 ≤ n) : pickN x n < n := Nat.mod_lt _ (by omega)
set_option maxRecDepth 100000 in
theorem pick_any (x : Int) (n : Nat) (w : World) (h1 : -9223372036854775808 ≤ x) (h2 : x ≤ 9223372036854775807) (hn : 1 ≤ n) (hm : n ≤ maxLen) :
  Calls Tryz.prog 20 #[.int .i64 x, .int .i64 (n : Int)] w fun e w' => e = .returned (.int .i64 (pickN x n : Int)) ∧ w' = w := by
 unfold maxLen at hm
 have hn0 : ((n : Int) == 0) = false := by simp; omega
 have hn1 : ((n : Int) == -1) = false := by simp
 by_cases hx : x < 0
 ·have e1 : IntKind.i64.wrap (x + 1) = x + 1 := by simp only [IntKind.wrap_i64]; omega
  have e2 : IntKind.i64.wrap (-(x + 1)) = -(x + 1) := by simp only [IntKind.wrap_i64]; omega
  have HI : Hid (Int.tmod (-(x + 1)) n = (pickN x n : Int)) := by
   unfold Hid pickN
   rw [if_pos hx]
   obtain ⟨y, hy⟩ : ∃ y : Nat, -(x + 1) = (y : Int) := ⟨(-(x + 1)).toNat, by omega⟩
   rw [hy]; exact tmod_nat y n
  go_enter Tryz.func20, Tryz.ntmps20
  go_wp2
  go_ret
  refine ⟨?_, rfl⟩
  rw [← HI.out]
  simp [Int.neg_tmod]
 ·obtain ⟨y, rfl⟩ : ∃ y : Nat, x = (y : Int) := ⟨x.toNat, by omega⟩
  have HI : Hid ((pickN (y : Int) n : Int) = ((y % n : Nat) : Int)) := by
   unfold Hid pickN
   rw [if_neg hx]; simp
  go_enter Tryz.func20, Tryz.ntmps20
  go_wp2
  go_ret
  refine ⟨?_, rfl⟩
  rw [HI.out]
  simp
set_option maxRecDepth 100000 in
set_option maxHeartbeats 1000000 in
theorem step_store {B : BkV} (cs : List Value) (wb : Nat) (ps : SlR) (ds : List PairD) (w : World) (h : LawAt B w wb ps ds) (hlen : cs.length = 24) (k0 : cs[0]? = some (.int .i64 2)) (hn : ds.length + 1 ≤ 17592186044416) :
  Calls Tryz.prog 12 #[.pointer (some ⟨wb, 0, none⟩), .agg cs.toArray] w fun e w' => e = .returned (.bool true) ∧ (∃ ps' d, LawAt B w' wb ps' (ds ++ [d]) ∧ (∀ k, d.F k → w.heap.size ≤ k) ∧ (∀ k, ps'.val.ownBlock = some k → ps.val.ownBlock = some k ∨ w.heap.size ≤ k)) ∧ Frame (fun k => k = wb ∨ ps.val.ownBlock = some k) w w' := by
 obtain ⟨d, hd1, hd2⟩ := Tryz.rowOp
 have hsz : Hid ((Tryz.prog.info? 43).map (·.size) = some cs.length) := by rw [hlen]; exact Tryz.sizeOp
 have HD : Hid (Tryz.prog.underlying 43 = some d) := hd1
 have HD2 : Hid (d.isRow = true) := hd2
 have HL : Hid (cs.length = 24) := hlen
 have hb : Below w.heap.size w (w.alloc (.cells cs.toArray 43)) := (Below.refl _ _).alloc (Nat.le_refl _) _
 have HF : Hid (Calls _ _ _ _ _) := free_store cs wb ps ds _ (h.below hb) k0 hn
 clear hd1 hd2 hlen
 go_enter Tryz.func12, Tryz.ntmps12
 go_wp2_with (refine wpList_load_mid (by rfl) 43 (.tmp 3) (by rfl) w.heap.size 0 (by rfl) cs d (rangeAt_new w cs 43) HD.out HD2.out hsz.out ?_)
 refine HF.out.mono ?_
 rintro e w1 ⟨rfl, ⟨ps', dn, h1, h3, h4⟩, h2⟩
 have hbz := hb.size
 have H1 : Hid (LawAt B w1 wb ps' (ds ++ [dn])) := h1
 have H3 : Hid (∀ k, dn.F k → w.heap.size ≤ k) := fun k hk => by have := h3 k hk; omega
 have H4 : Hid (∀ k, ps'.val.ownBlock = some k → ps.val.ownBlock = some k ∨ w.heap.size ≤ k) := fun k hk => by
  rcases h4 k hk with g | g
  ·exact Or.inl g
  ·exact Or.inr (by omega)
 clear h1 h3 h4 hbz
 go_wp2
 go_ret
 exact ⟨rfl, ⟨ps', dn, H1.out, H3.out, H4.out⟩, Frame.into (Frame.of_below_all hb) h2 (fun k _ e => e)⟩
set_option maxRecDepth 100000 in
set_option maxHeartbeats 1000000 in
theorem step_none {B : BkV} (cs : List Value) (kk : Int) (wb : Nat) (ps : SlR) (w : World) (h : LawAt B w wb ps []) (k0 : cs[0]? = some (.int .i64 kk)) (hk : kk = 3 ∨ kk = 4 ∨ kk = 5) :
  Calls Tryz.prog 12 #[.pointer (some ⟨wb, 0, none⟩), .agg cs.toArray] w fun e w' => e = .returned (.bool true) ∧ Below w.heap.size w w' := by
 have hwb : wb < w.heap.size := RowV.lt h.row
 have hpn : ps.n = 0 := (owns_cap (a := ps.a) (n' := ps.n) (cap := ps.cap) h.own).1
 have r0 : w.cell? ⟨wb, 0, none⟩ = some (.slice ps.a 0 ps.cap) := by
  have : w.cell? ⟨wb, 0, none⟩ = some (.slice ps.a ps.n ps.cap) := RowV.cell h.row 0 (by simp)
  rw [hpn] at this; exact this
 clear hpn h
 have HB : Hid (Below w.heap.size w (w.alloc (.cells cs.toArray 43))) := (Below.refl _ _).alloc (Nat.le_refl _) _
 rcases hk with rfl | rfl | rfl
 all_goals
  go_enter Tryz.func12, Tryz.ntmps12
  go_wp2
  go_ret
  exact ⟨rfl, HB.out⟩
set_option maxRecDepth 100000 in
set_option maxHeartbeats 1000000 in
theorem step_pair {B : BkV} (cs : List Value) (kk oa : Int) (wb : Nat) (ps : SlR) (ds : List PairD) (w : World) (h : LawAt B w wb ps ds) (hlen : cs.length = 24) (k0 : cs[0]? = some (.int .i64 kk)) (hk : kk = 3 ∨ kk = 4 ∨ kk = 5) (k1 : cs[1]? = some (.int .i64 oa)) (ha1 : -9223372036854775808 ≤ oa) (ha2 : oa ≤ 9223372036854775807) (hn : 1 ≤ ds.length)
  (hst : ∀ (W : World) (d : PairD), PairOk W d → Calls Tryz.prog 21 #[.pointer (some ⟨wb, 0, none⟩), .agg cs.toArray, .pointer (some ⟨d.pb, 0, none⟩)] W fun e w' => e = .returned (.bool true) ∧ Stepped d W w') :
  Calls Tryz.prog 12 #[.pointer (some ⟨wb, 0, none⟩), .agg cs.toArray] w fun e w' => e = .returned (.bool true) ∧ ∃ (W : World) (d : PairD), d ∈ ds ∧ Below w.heap.size w W ∧ Stepped d W w' ∧ ∃ i : Nat, ds[i]? = some d := by
 obtain ⟨d, hd1, hd2⟩ := Tryz.rowOp
 have hsz : Hid ((Tryz.prog.info? 43).map (·.size) = some cs.length) := by rw [hlen]; exact Tryz.sizeOp
 have HD : Hid (Tryz.prog.underlying 43 = some d) := hd1
 have HD2 : Hid (d.isRow = true) := hd2
 have HL : Hid (cs.length = 24) := hlen
 have HB : Hid (Below w.heap.size w (w.alloc (.cells cs.toArray 43))) := (Below.refl _ _).alloc (Nat.le_refl _) _
 have hwb : wb < w.heap.size := RowV.lt h.row
 have r0 : w.cell? ⟨wb, 0, none⟩ = some (.slice ps.a ps.n ps.cap) := RowV.cell h.row 0 (by simp)
 obtain ⟨hpn, hpc, hpm, hpa⟩ := owns_cap (a := ps.a) (n' := ps.n) (cap := ps.cap) h.own
 obtain ⟨g, hg, hglt⟩ : ∃ g, ps.a = some ⟨g, 0, none⟩ ∧ g < w.heap.size := by
  rcases hpa with ⟨_, h0, _⟩ | ⟨g, hg, _, hlt⟩
  ·omega
  ·exact ⟨g, hg, hlt⟩
 rw [hg] at r0
 have hpm' : ps.n ≤ maxLen := by omega
 obtain ⟨dd, hdd, hcd⟩ : ∃ d, ds[pickN oa ps.n]? = some d ∧ w.cell? ⟨g, pickN oa ps.n, none⟩ = some (.pointer (some ⟨d.pb, 0, none⟩)) := by
  have hi' : pickN oa ps.n < ds.length := by have := pickN_lt oa ps.n (by omega); omega
  refine ⟨ds[pickN oa ps.n], List.getElem?_eq_getElem hi', ?_⟩
  have hsl : SlV w ps.a (ds.map (fun d => ptrV d.pb)) := (SlV.ofOwn h.own).1
  obtain ⟨b, o, e, _, hc⟩ := hsl (pickN oa ps.n) (by simpa using hi')
  rw [hg] at e; cases e
  rw [Nat.zero_add] at hc
  rw [hc]; simp [ptrV]
 have HDD : Hid (ds[pickN oa ps.n]? = some dd) := hdd
 have hiI : (pickN oa ps.n : Int) < ps.n := by have := pickN_lt oa ps.n (by omega); omega
 have HPK : Hid (∀ W, Calls Tryz.prog 20 #[.int .i64 oa, .int .i64 (ps.n : Int)] W fun e w' => e = .returned (.int .i64 (pickN oa ps.n : Int)) ∧ w' = W) := fun W => pick_any oa ps.n W ha1 ha2 (by omega) hpm'
 generalize pickN oa ps.n = i at *
 have hn1 : 1 ≤ ps.n := by omega
 have hpmI : (ps.n : Int) ≤ 9223372036854775807 := by unfold maxLen at hpm; omega
 have hn0 : ((ps.n : Int) == 0) = false := by simp; omega
 have HOK : Hid (∀ d ∈ ds, PairOk w d) := h.ok
 have HST : Hid (∀ (W : World) (d : PairD), PairOk W d → _) := hst
 clear hd1 hd2 hlen hpn hpc hpm hpa hst hn hdd hpm'
 rcases hk with rfl | rfl | rfl
 all_goals
  go_enter Tryz.func12, Tryz.ntmps12
  go_wp2
  go_quiet (first | (go_at_call 20; exact Calls.quiet_of_same (HPK.out _)))
  have HBq : Hid (Below w.heap.size w ((w.alloc (.cells cs.toArray 43)).drewN nq)) := by
   have hb := HB.out
   exact ⟨hb.os, hb.tape, hb.output, hb.size, hb.block⟩
  go_wp2_with (refine wpList_load_mid (by rfl) 43 (.tmp 3) (by rfl) w.heap.size 0 (by rfl) cs d (by exact rangeAt_new w cs 43) HD.out HD2.out hsz.out ?_)
  refine (HST.out _ dd ((HOK.out dd (List.mem_of_getElem? HDD.out)).frame (Frame.of_below_all (S := fun _ => False) HBq.out) (fun _ _ e => e))).mono ?_
  rintro e w1 ⟨rfl, hs1⟩
  go_wp2
  go_ret
  exact ⟨rfl, _, dd, List.mem_of_getElem? HDD.out, HBq.out, hs1, i, HDD.out⟩
end Go.Proofs.YtekegfbjbainhaaGreat


namespace Go.Proofs.YtekegfbjbainhaaGreat
open Go.RowKit
set_option maxRecDepth 100000 in
set_option maxHeartbeats 800000 in
theorem plays_n (a : Option Addr) (n cap kb : Nat) (k0 : Int) (ks : List Int) (f : Nat → OpR) (w : World) (Inv : Nat → World → Prop) (Ok : OpR → Prop) (hn : n ≤ maxLen) (hs : ScriptAt w a n f) (hok : ∀ i, i < n → Ok (f i))
  (hkb : kb < w.heap.size) (hkl : (k0 :: ks).length ≤ maxLen) (hk : KindsAt w kb (k0 :: ks))
  (hI0 : Inv 0 (w.alloc (.cells #[.slice none 0 0, .slice none 0 0, .slice none 0 0, .slice none 0 0] 34)))
  (hIB : ∀ q wr, Inv q wr → Below w.heap.size w wr) (hId : ∀ q wr m, Inv q wr → Inv q (wr.drewN m)) (hIm : ∀ q wr, Inv q wr → Inv (q + 1) wr)
  (hstep0 : ∀ wr, Inv 0 wr → Calls Tryz.prog 12 #[.pointer (some ⟨w.heap.size, 0, none⟩), .agg #[.int .i64 k0, .int .i64 0, .int .i64 0, .int .i64 0, .string ⟨#[99, 97, 105, 114, 110]⟩, .string ⟨#[]⟩, .string ⟨#[]⟩, .int .u8 0, .int .u8 0, .int .u8 0, .int .u8 0, .int .u8 0, .int .u8 0, .int .u8 0, .int .u8 0,
   .int .u8 0, .int .u8 0, .int .u8 0, .int .u8 0, .int .u8 0, .int .u8 0, .int .u8 0, .int .u8 0, .slice none 0 0]] wr fun e w' => e = .returned (.bool true) ∧ Inv 1 w')
  (hstep : ∀ q wr o, q ≤ n → Inv q wr → Ok o → o.kind ∈ k0 :: ks → o.s.size ≤ 140737488351232 → o.t.size ≤ 140737488351232 → o.u.size ≤ 140737488351232 →
   Calls Tryz.prog 12 #[.pointer (some ⟨w.heap.size, 0, none⟩), .agg o.cells.toArray] wr fun e w' => e = .returned (.bool true) ∧ Inv (q + 1) w')
  (hlooks : ∀ q wr, Inv q wr → Calls Tryz.prog 13 #[.pointer (some ⟨w.heap.size, 1, none⟩)] wr fun e w' => e = .returned (.bool true) ∧ Inv q w') :
  Calls Tryz.prog 9 #[.slice a n cap, .slice (some ⟨kb, 0, none⟩) (k0 :: ks).length (k0 :: ks).length] w fun e w' => e = .returned (.bool true) ∧ ∃ q, Inv q w' := by
 have H0 : Hid (∀ wr, Inv 0 wr → _) := hstep0
 have H1 : Hid (∀ q wr o, q ≤ n → Inv q wr → _) := hstep
 have H2 : Hid (∀ q wr, Inv q wr → _) := hlooks
 have HB : Hid (∀ q wr, Inv q wr → _) := hIB
 have HD : Hid (∀ q wr m, Inv q wr → _) := hId
 have HM0 : Hid (∀ q wr, Inv q wr → Inv (q + 1) wr) := hIm
 clear hstep0 hstep hlooks hIB hId hIm
 have hkc := hk 0 (by simp)
 have HK : Hid (KindsAt w kb (k0 :: ks)) := hk
 have HKL : Hid ((k0 :: ks).length ≤ maxLen) := hkl
 simp only [List.getElem_cons_zero] at hkc
 unfold maxLen at hn hkl
 have hkl1 : (1 : Int) ≤ ((k0 :: ks).length : Int) := by simp; omega
 generalize hL : (k0 :: ks) = L at *
 have HL : Hid (k0 :: ks = L) := hL
 clear hL hk
 go_enter Tryz.func9, Tryz.ntmps9
 go_wp2_with fail
 refine (H0.out _ hI0).mono ?_
 rintro e w1 ⟨rfl, hI1⟩
 go_wp2
 go_loopw [6, 7, 8, 9] (fun ok i _ _ wr => ∃ k : Nat, k ≤ n ∧ i = .int .i64 k ∧ ok = .bool true ∧ Inv (k + 1) wr) (fun _ i _ _ _ => n - (intOf i).toNat)
 case atStart => exact ⟨0, by omega, by simp, by simp, hI1⟩
 case round =>
  obtain ⟨k, hkn, rfl, rfl, hI⟩ := hrel
  by_cases hlt : k < n
  ·obtain ⟨b, o, rfl, hb, hr, hs1, hs2, hs3⟩ := hs k hlt
   have hB := HB.out _ _ hI
   have hr2 : wr.rangeAt b (o + k * 24) (f k).cells := fun j v hv => by rw [hB.cell (p := ⟨b, o + k * 24 + j, none⟩) hb]; exact hr j v hv
   have kc := hr2 0 (.int .i64 (f k).kind) rfl
   rw [Nat.add_zero] at kc
   have HR : Hid (wr.rangeAt b (o + k * 24) (f k).cells) := hr2
   clear hr2
   go_wp2
   go_loopw [8, 9] (fun inn j w' => ∃ (q m : Nat), q ≤ L.length ∧ j = .int .i64 q ∧ inn = .bool ((L.take q).any (fun y => (f k).kind == y)) ∧ w' = wr.drewN m) (fun _ j _ => L.length - (intOf j).toNat)
   case atStart => exact ⟨0, 0, by omega, by simp, by simp, rfl⟩
   case round =>
    obtain ⟨q, m, hq, rfl, rfl, rfl⟩ := hrel
    by_cases hqlt : q < L.length
    ·have hkq : wr.cell? ⟨kb, q, none⟩ = some (.int .i64 L[q]) := by rw [hB.cell (p := ⟨kb, q, none⟩) hkb]; exact HK.out q hqlt
     have HS : Hid (_ = _) := any_snoc L q hqlt (f k).kind
     generalize (L.take q).any (fun y => (f k).kind == y) = inn at *
     cases inn
     ·go_wp2
      go_quiet (fail)
      go_wp2
      refine ⟨⟨q + 1, m + nq, by omega, by go_num, by rw [HS.out, Bool.false_or], rfl⟩, by simp [intOf]; omega⟩
     ·go_wp2
      go_quiet (fail)
      go_wp2
      refine ⟨⟨q + 1, m + nq, by omega, by go_num, by rw [HS.out, Bool.true_or], rfl⟩, by simp [intOf]; omega⟩
    ·have HE : Hid ((L.take q).any (fun y => (f k).kind == y) = L.any (fun y => (f k).kind == y)) := by
      unfold Hid; rw [List.take_of_length_le (by omega)]
     rw [HE.out]
     have hID := HD.out _ _ m hI
     have HM : Hid (L.any (fun y => (f k).kind == y) = true → (f k).kind ∈ L) := fun h => by
      obtain ⟨y, hy, he⟩ := List.any_eq_true.1 h
      rw [beq_iff_eq] at he
      rw [he]; exact hy
     generalize hany : L.any (fun y => (f k).kind == y) = bin at *
     have HA : Hid (L.any (fun y => (f k).kind == y) = bin) := hany
     clear hany
     cases bin
     ·go_wp2
      refine ⟨⟨k + 1, by omega, by go_num, by simp, HM0.out _ _ hID⟩, by simp [intOf]; omega⟩
     ·obtain ⟨d, hd1, hd2⟩ := Tryz.rowOp
      have hmem : Hid ((f k).kind ∈ L) := HM.out rfl
      clear HM
      have hsz : Hid ((Tryz.prog.info? 43).map (·.size) = some (f k).cells.length) := Tryz.sizeOp
      have HD1 : Hid (Tryz.prog.underlying 43 = some d) := hd1
      have HD2 : Hid (d.isRow = true) := hd2
      clear hd1 hd2
      go_wp2_with (refine wpList_load_mid (by rfl) 43 (.tmp 50) (by rfl) b (o + k * 24) (by rfl) (f k).cells d (by exact HR.out) HD1.out HD2.out hsz.out ?_)
      refine (H1.out _ _ (f k) (by omega) hID (hok k hlt) hmem.out hs1 hs2 hs3).mono ?_
      rintro e w2 ⟨rfl, hI2⟩
      go_wp2_with fail
      refine (H2.out _ _ hI2).mono ?_
      rintro e w3 ⟨rfl, hI3⟩
      go_wp2
      refine ⟨⟨k + 1, by omega, by go_num, by simp, hI3⟩, by simp [intOf]; omega⟩
  ·go_wp2
   go_ret
   exact ⟨rfl, _, hI⟩
end Go.Proofs.YtekegfbjbainhaaGreat


namespace Go.Proofs.YtekegfbjbainhaaGreat
open Go.RowKit
def StoredOk (cs : List Value) : Prop := ∀ (p : Value) (W : World) (d : PairD), PairOk W d → Calls Tryz.prog 21 #[p, .agg cs.toArray, .pointer (some ⟨d.pb, 0, none⟩)] W fun e w' => e = .returned (.bool true) ∧ Stepped d W w'
end Go.Proofs.YtekegfbjbainhaaGreat


namespace Go.Proofs.YtekegfbjbainhaaGreat
open Go.RowKit
end Go.Proofs.YtekegfbjbainhaaGreat


namespace Go.Proofs.YtekegfbjbainhaaGreat
open Go.RowKit
attribute [local go_sem ↓] Go.wp_at_zero Go.wp_at_succ
end Go.Proofs.YtekegfbjbainhaaGreat


namespace Go.Proofs.YtekegfbjbainhaaGreat
open Go.RowKit
attribute [local go_sem ↓] Go.wp_at_zero Go.wp_at_succ
end Go.Proofs.YtekegfbjbainhaaGreat


namespace Go.Proofs.YtekegfbjbainhaaGreat
open Go.RowKit
end Go.Proofs.YtekegfbjbainhaaGreat


namespace Go.Proofs.YtekegfbjbainhaaGreat
open Go.RowKit
end Go.Proofs.YtekegfbjbainhaaGreat


namespace Go.Proofs.YtekegfbjbainhaaGreat
open Go.RowKit
theorem bk_range {w : World} {base e : Nat} {bs : SlR} {rs : List BkR} (h : w.ownsRow base e 5 bs.val rs.length (bksF 0 rs)) : bs.n = rs.length ∧ ∀ k (hk : k < rs.length), ∃ b o, bs.a = some ⟨b, o, none⟩ ∧ b < w.heap.size ∧ w.rangeAt b (o + k * 5) (bkC rs[k] k) := by
 obtain ⟨hsl, hbn⟩ := SlV.ofOwn (s := bs) h
 refine ⟨hbn, fun k hk => ?_⟩
 obtain ⟨b, o, ha, hb, _⟩ := hsl (k * 5) (by rw [bksF_length]; omega)
 refine ⟨b, o, ha, hb, fun j v hv => ?_⟩
 have hj : j < 5 := by
  have := (List.getElem?_eq_some_iff.1 hv).1
  simpa [bkC] using this
 have hg := bksF_get 0 rs k hk j hj
 rw [Nat.zero_add] at hg
 obtain ⟨b', o', ha', _, hc⟩ := hsl (k * 5 + j) (by rw [bksF_length]; omega)
 rw [ha] at ha'
 cases ha'
 rw [show o + k * 5 + j = o + (k * 5 + j) by omega, hc]
 rw [hv] at hg
 rw [List.getElem?_eq_getElem (by rw [bksF_length]; omega)] at hg
 exact hg
theorem range_below {w wr : World} {b o n : Nat} {l : List Value} (hb : Below w.heap.size w wr) (hbb : b < w.heap.size) (h : w.rangeAt b o l) : wr.rangeAt b o l := fun j v hv => by
 rw [hb.cell (p := ⟨b, o + j, none⟩) hbb]
 exact h j v hv
theorem Tryz.sizeDigests : (Tryz.prog.info? 62).map (·.size) = some 5 := by kernel_rfl
theorem Tryz.sizeEntries : (Tryz.prog.info? 65).map (·.size) = some 5 := by kernel_rfl
set_option maxRecDepth 100000 in
set_option maxHeartbeats 4000000 in
theorem looks_all (wb : Nat) (ps bs ds es : SlR) (rs gs : List BkR) (hs : List EBk) (w : World) (hW : RowV w wb 34 [ps.val, bs.val, ds.val, es.val]) (hB : BkAt w bs rs) (hD : BdAt w ds gs) (hE : BeAt w es hs) (hn : rs.length ≤ 1200000000000) (hg : gs.length ≤ 1200000000000) (hh : hs.length ≤ 1200000000000) :
  Calls Tryz.prog 13 #[.pointer (some ⟨wb, 1, none⟩)] w fun e w' => e = .returned (.bool true) ∧ Below w.heap.size w w' := by
 obtain ⟨hbn, hbr⟩ := bk_range hB.own
 obtain ⟨hdn, hdr⟩ := bk_range hD.own
 have hel : hs.length = (hs.map (·.r)).length := by simp
 obtain ⟨hen, her⟩ := bk_range (rs := hs.map (·.r)) (by rw [← hel]; exact hE.own)
 rw [← hel] at hen
 have hnI : (bs.n : Int) ≤ 1200000000000 := by rw [hbn]; omega
 have hdI : (ds.n : Int) ≤ 1200000000000 := by rw [hdn]; omega
 have heI : (es.n : Int) ≤ 1200000000000 := by rw [hen]; omega
 have HN : Hid (bs.n = rs.length) := hbn
 have HND : Hid (ds.n = gs.length) := hdn
 have HNE : Hid (es.n = hs.length) := hen
 have HW : Hid (RowV w wb 34 [ps.val, bs.val, ds.val, es.val]) := hW
 have HB : Hid (BkAt w bs rs) := hB
 have HD : Hid (BdAt w ds gs) := hD
 have HE : Hid (BeAt w es hs) := hE
 have HL : Hid (rs.length ≤ 1200000000000 ∧ gs.length ≤ 1200000000000 ∧ hs.length ≤ 1200000000000) := ⟨hn, hg, hh⟩
 have HRG : Hid (∀ k (hk : k < rs.length), ∃ b o, bs.a = some ⟨b, o, none⟩ ∧ b < w.heap.size ∧ w.rangeAt b (o + k * 5) (bkC rs[k] k)) := hbr
 have HRD : Hid (∀ k (hk : k < gs.length), ∃ b o, ds.a = some ⟨b, o, none⟩ ∧ b < w.heap.size ∧ w.rangeAt b (o + k * 5) (bkC gs[k] k)) := hdr
 have HRE : Hid (∀ k (hk : k < hs.length), ∃ b o, es.a = some ⟨b, o, none⟩ ∧ b < w.heap.size ∧ w.rangeAt b (o + k * 5) (bkC hs[k].r k)) := fun k hk => by
  have := her k (by simpa using hk)
  simpa using this
 clear hbn hdn hen hbr hdr her hel hW hB hD hE hn hg hh
 go_enter Tryz.func13, Tryz.ntmps13
 go_wp2
 go_loopw [3, 4, 5] (fun ok i _ wr => ∃ k : Nat, k ≤ bs.n ∧ i = .int .i64 k ∧ ok = .bool true ∧ Below w.heap.size w wr) (fun _ i _ _ => bs.n - (intOf i).toNat)
 case atStart => exact ⟨0, by omega, by simp, by simp, Below.refl _ _⟩
 case round =>
  obtain ⟨k, hk, rfl, rfl, hb⟩ := hrel
  have hWr := HW.out.below HW.out.lt hb
  have c1 : wr.cell? ⟨wb, 1, none⟩ = some (.slice bs.a bs.n bs.cap) := hWr.cell 1 (by simp)
  by_cases hlt : k < bs.n
  ·have hltI : (k : Int) < bs.n := by omega
   have hkl : k < rs.length := by have := HN.out; omega
   obtain ⟨b, o, ha, hbb, hrg⟩ := HRG.out k hkl
   have HST : Hid (Calls _ _ _ _ _) := still_any rs[k] k wr (((HB.out.ok k hkl).frame (Frame.of_below_all (S := fun _ => False) hb) (fun _ _ e => e))) (by have := HL.out.1; omega)
   have HRG' : Hid (wr.rangeAt b (o + k * 5) (bkC rs[k] k)) := range_below (n := 0) hb hbb hrg
   have HSZ : Hid ((Tryz.prog.info? 60).map (·.size) = some (bkC rs[k] k).length) := Tryz.sizeBytes
   rw [ha] at c1
   clear hrg hWr
   go_wp2_with (first
    | (refine wpList_load_mid (by rfl) 60 (.tmp 24) (by rfl) b (o + k * 5) (by rfl) (bkC rs[k] k) _ HRG'.out Tryz.underlying60 (by rfl) HSZ.out ?_)
    | (go_at_call 24; refine HST.out.mono ?_; rintro e w2 ⟨rfl, hb2⟩))
   refine ⟨⟨k + 1, by omega, by go_num, by simp, hb.trans (hb2.mono hb.size)⟩, by simp [intOf]; omega⟩
  ·have hltI : ¬ (k : Int) < bs.n := by omega
   clear hWr
   have HBA : Hid (Below w.heap.size w wr) := hb
   clear hb
   go_wp2
   go_loopw [3, 6, 7] (fun ok i _ wr => ∃ k : Nat, k ≤ ds.n ∧ i = .int .i64 k ∧ ok = .bool true ∧ Below w.heap.size w wr) (fun _ i _ _ => ds.n - (intOf i).toNat)
   case atStart => exact ⟨0, by omega, by simp, by simp, HBA.out⟩
   case round =>
    clear hk hltI hlt c1
    rename_i k0 _ _ _ _ _
    clear HBA
    obtain ⟨k, hk, rfl, rfl, hb⟩ := hrel
    have hWr := HW.out.below HW.out.lt hb
    have c1 : wr.cell? ⟨wb, 2, none⟩ = some (.slice ds.a ds.n ds.cap) := hWr.cell 2 (by simp)
    by_cases hlt : k < ds.n
    ·have hltI : (k : Int) < ds.n := by omega
     have hkl : k < gs.length := by have := HND.out; omega
     obtain ⟨b, o, ha, hbb, hrg⟩ := HRD.out k hkl
     have HST : Hid (Calls _ _ _ _ _) := stillD_any gs[k] k wr (((HD.out.ok k hkl).frame (Frame.of_below_all (S := fun _ => False) hb) (fun _ _ e => e))) (by have := HL.out.2.1; omega)
     have HRG' : Hid (wr.rangeAt b (o + k * 5) (bkC gs[k] k)) := range_below (n := 0) hb hbb hrg
     have HSZ : Hid ((Tryz.prog.info? 62).map (·.size) = some (bkC gs[k] k).length) := Tryz.sizeDigests
     rw [ha] at c1
     clear hrg hWr
     go_wp2_with (first
      | (refine wpList_load_mid (by rfl) 62 (.tmp 45) (by rfl) b (o + k * 5) (by rfl) (bkC gs[k] k) _ HRG'.out Tryz.underlying62 (by rfl) HSZ.out ?_)
      | (go_at_call 25; refine HST.out.mono ?_; rintro e w2 ⟨rfl, hb2⟩))
     refine ⟨⟨k + 1, by omega, by go_num, by simp, hb.trans (hb2.mono hb.size)⟩, by simp [intOf]; omega⟩
    ·have hltI : ¬ (k : Int) < ds.n := by omega
     clear hWr
     have HBA : Hid (Below w.heap.size w wr) := hb
     clear hb
     go_wp2
     go_loopw [3, 8, 9] (fun ok i _ wr => ∃ k : Nat, k ≤ es.n ∧ i = .int .i64 k ∧ ok = .bool true ∧ Below w.heap.size w wr) (fun _ i _ _ => es.n - (intOf i).toNat)
     case atStart => exact ⟨0, by omega, by simp, by simp, HBA.out⟩
     case round =>
      clear hk hltI hlt c1 HBA
      obtain ⟨k, hk, rfl, rfl, hb⟩ := hrel
      have hWr := HW.out.below HW.out.lt hb
      have c1 : wr.cell? ⟨wb, 3, none⟩ = some (.slice es.a es.n es.cap) := hWr.cell 3 (by simp)
      by_cases hlt : k < es.n
      ·have hltI : (k : Int) < es.n := by omega
       have hkl : k < hs.length := by have := HNE.out; omega
       obtain ⟨b, o, ha, hbb, hrg⟩ := HRE.out k hkl
       have HST : Hid (Calls _ _ _ _ _) := stillE_any hs[k].r k hs[k].kb wr (((HE.out.ok k hkl).1.frame (Frame.of_below_all (S := fun _ => False) hb) (fun _ _ e => e))) (((HE.out.ok k hkl).2.frame (Frame.of_below_all (S := fun _ => False) hb) (fun e => e))) (by have := HL.out.2.2; omega)
       have HRG' : Hid (wr.rangeAt b (o + k * 5) (bkC hs[k].r k)) := range_below (n := 0) hb hbb hrg
       have HSZ : Hid ((Tryz.prog.info? 65).map (·.size) = some (bkC hs[k].r k).length) := Tryz.sizeEntries
       rw [ha] at c1
       clear hrg hWr
       go_wp2_with (first
        | (refine wpList_load_mid (by rfl) 65 (.tmp 66) (by rfl) b (o + k * 5) (by rfl) (bkC hs[k].r k) _ HRG'.out Tryz.underlying65 (by rfl) HSZ.out ?_)
        | (go_at_call 26; refine HST.out.mono ?_; rintro e w2 ⟨rfl, hb2⟩))
       refine ⟨⟨k + 1, by omega, by go_num, by simp, hb.trans (hb2.mono hb.size)⟩, by simp [intOf]; omega⟩
      ·have hltI : ¬ (k : Int) < es.n := by omega
       clear hWr
       go_wp2
       go_ret
       exact ⟨rfl, hb⟩
end Go.Proofs.YtekegfbjbainhaaGreat


namespace Go.Proofs.YtekegfbjbainhaaGreat
open Go.RowKit
end Go.Proofs.YtekegfbjbainhaaGreat


namespace Go.Proofs.YtekegfbjbainhaaGreat
open Go.RowKit
structure BookD where
 bs : SlR
 dg : SlR
 es : SlR
 rs : List BkR
 gs : List BkR
 hs : List EBk
def BookD.F (B : BookD) (k : Nat) : Prop := bookF B.bs B.rs k ∨ bookF B.dg B.gs k ∨ bookE B.es B.hs k
def BookD.V (B : BookD) : BkV := (B.bs.val, B.dg.val, B.es.val)
structure LawK (w : World) (wb : Nat) (ps : SlR) (ds : List PairD) (B : BookD) : Prop where
 law : LawAt B.V w wb ps ds
 bk : BkAt w B.bs B.rs
 bd : BdAt w B.dg B.gs
 be : BeAt w B.es B.hs
 low : ∀ k, B.F k → wb < k ∧ ps.val.ownBlock ≠ some k ∧ ∀ d ∈ ds, ¬ d.F k
 ap1 : ∀ k, bookF B.bs B.rs k → ¬ bookF B.dg B.gs k
 ap2 : ∀ k, bookE B.es B.hs k → ¬ bookF B.bs B.rs k ∧ ¬ bookF B.dg B.gs k
theorem LawK.row {w : World} {wb : Nat} {ps : SlR} {ds : List PairD} {B : BookD} (h : LawK w wb ps ds B) : RowV w wb 34 [ps.val, B.bs.val, B.dg.val, B.es.val] := h.law.row
theorem LawK.frame {w W : World} {S : Nat → Prop} {wb : Nat} {ps : SlR} {ds : List PairD} {B : BookD} (h : LawK w wb ps ds B) (hf : Frame S w W) (h1 : ¬ S wb) (h2 : ∀ k, ps.val.ownBlock = some k → ¬ S k) (h3 : ∀ d ∈ ds, ∀ k, d.F k → ¬ S k) (h4 : ∀ k, B.F k → ¬ S k) : LawK W wb ps ds B :=
 ⟨h.law.frame hf h1 h2 h3, h.bk.frame hf (fun k hk => h4 k (Or.inl hk)), h.bd.frame hf (fun k hk => h4 k (Or.inr (Or.inl hk))), h.be.frame hf (fun k hk => h4 k (Or.inr (Or.inr hk))), h.low, h.ap1, h.ap2⟩
theorem LawK.below {w W : World} {wb : Nat} {ps : SlR} {ds : List PairD} {B : BookD} (h : LawK w wb ps ds B) (hb : Below w.heap.size w W) : LawK W wb ps ds B := h.frame (Frame.of_below_all (S := fun _ => False) hb) (fun e => e) (fun _ _ e => e) (fun _ _ _ _ e => e) (fun _ _ e => e)
theorem LawK.lt {w : World} {wb : Nat} {ps : SlR} {ds : List PairD} {B : BookD} (h : LawK w wb ps ds B) : ∀ k, B.F k → k < w.heap.size := fun k hk => by
 rcases hk with hk | hk | hk
 ·exact h.bk.lt k hk
 ·exact h.bd.lt k hk
 ·exact h.be.lt k hk
theorem LawK.start {w : World} {wb : Nat} {ps : SlR} {ds : List PairD} (h : LawAt (.slice none 0 0, .slice none 0 0, .slice none 0 0) w wb ps ds) : LawK w wb ps ds ⟨⟨none, 0, 0⟩, ⟨none, 0, 0⟩, ⟨none, 0, 0⟩, [], [], []⟩ := by
 have hn1 : ∀ k, ¬ bookF ⟨none, 0, 0⟩ [] k := fun k hk => by
  rcases hk with hk | ⟨r, hr, _⟩
  ·cases hk
  ·cases hr
 have hn2 : ∀ k, ¬ bookE ⟨none, 0, 0⟩ [] k := fun k hk => by
  rcases hk with hk | ⟨r, hr, _⟩
  ·cases hk
  ·cases hr
 refine ⟨h, BkAt.nil _, BdAt.nil _, BeAt.nil _, fun k hk => ?_, fun k hk => absurd hk (hn1 k), fun k hk => absurd hk (hn2 k)⟩
 rcases hk with hk | hk | hk
 ·exact absurd hk (hn1 k)
 ·exact absurd hk (hn1 k)
 ·exact absurd hk (hn2 k)
theorem LawK.turn {w W W' : World} {S : Nat → Prop} {wb : Nat} {ps : SlR} {ds : List PairD} {B B' : BookD} (h : LawK w wb ps ds B) (hb : Below w.heap.size w W) (hf : Frame S W W') (hS : ∀ k, S k → k = wb ∨ B.F k ∨ w.heap.size ≤ k)
  (hr : RowV W' wb 34 [ps.val, B'.bs.val, B'.dg.val, B'.es.val]) (h1 : BkAt W' B'.bs B'.rs) (h2 : BdAt W' B'.dg B'.gs) (h3 : BeAt W' B'.es B'.hs) (hn : ∀ k, B'.F k → k < w.heap.size → B.F k) (a1 : ∀ k, bookF B'.bs B'.rs k → ¬ bookF B'.dg B'.gs k) (a2 : ∀ k, bookE B'.es B'.hs k → ¬ bookF B'.bs B'.rs k ∧ ¬ bookF B'.dg B'.gs k) :
  LawK W' wb ps ds B' := by
 have hW := h.law.below hb
 have hz := hb.size
 have hno : ∀ d ∈ ds, ∀ k, d.F k → ¬ S k := fun d hd k hk e => by
  rcases hS k e with e | e | e
  ·have := (h.law.low d hd k hk).1; omega
  ·exact (h.low k e).2.2 d hd hk
  ·have := (h.law.ok d hd).lay.lt k hk; omega
 refine ⟨⟨hr, owns_frame hW.own hf (fun k hk e => ?_), fun d hd => (hW.ok d hd).frame hf (hno d hd), h.law.low, h.law.psb, h.law.apart⟩, h1, h2, h3, fun k hk => ?_, a1, a2⟩
 ·rcases hS k e with e | e | e
  ·have := h.law.psb k hk; omega
  ·exact (h.low k e).2.1 hk
  ·have := (h.law.own.lt k hk).2; omega
 ·by_cases hlt : k < w.heap.size
  ·exact h.low k (hn k hk hlt)
  ·refine ⟨by have := RowV.lt h.law.row; omega, fun e => by have := (h.law.own.lt k e).2; omega, fun d hd e => by have := (h.law.ok d hd).lay.lt k e; omega⟩
theorem LawK.new {w w' : World} {wb : Nat} {ps ps' : SlR} {ds : List PairD} {B : BookD} {d : PairD} (h : LawK w wb ps ds B) (h' : LawAt B.V w' wb ps' (ds ++ [d])) (hd : ∀ k, d.F k → w.heap.size ≤ k) (hp : ∀ k, ps'.val.ownBlock = some k → ps.val.ownBlock = some k ∨ w.heap.size ≤ k)
  (hf : Frame (fun k => k = wb ∨ ps.val.ownBlock = some k) w w') : LawK w' wb ps' (ds ++ [d]) B := by
 have hno : ∀ k, B.F k → ¬ (k = wb ∨ ps.val.ownBlock = some k) := fun k hk e => by
  have hl := h.low k hk
  rcases e with e | e
  ·omega
  ·exact hl.2.1 e
 refine ⟨h', h.bk.frame hf (fun k hk => hno k (Or.inl hk)), h.bd.frame hf (fun k hk => hno k (Or.inr (Or.inl hk))), h.be.frame hf (fun k hk => hno k (Or.inr (Or.inr hk))), fun k hk => ?_, h.ap1, h.ap2⟩
 have hl := h.low k hk
 have hlt := h.lt k hk
 refine ⟨hl.1, fun e => ?_, fun x hx hF => ?_⟩
 ·rcases hp k e with e | e
  ·exact hl.2.1 e
  ·omega
 ·rcases List.mem_append.1 hx with hx | hx
  ·exact hl.2.2 x hx hF
  ·simp only [List.mem_singleton] at hx
   subst hx
   have := hd k hF
   omega
theorem LawK.step {w w' : World} {wb : Nat} {ps : SlR} {ds : List PairD} {B : BookD} (h : LawK w wb ps ds B) {i : Nat} {d : PairD} (hi : ds[i]? = some d) (hs : Stepped d w w') : ∃ ds', LawK w' wb ps ds' B ∧ ds'.length = ds.length := by
 obtain ⟨ds', h1, h2, h3⟩ := h.law.step hi hs
 obtain ⟨_, _, _, hf, _⟩ := hs
 have hd : d ∈ ds := List.mem_of_getElem? hi
 have hno : ∀ k, B.F k → ¬ d.F k := fun k hk e => (h.low k hk).2.2 d hd e
 refine ⟨ds', ⟨h1, h.bk.frame hf (fun k hk => hno k (Or.inl hk)), h.bd.frame hf (fun k hk => hno k (Or.inr (Or.inl hk))), h.be.frame hf (fun k hk => hno k (Or.inr (Or.inr hk))), fun k hk => ?_, h.ap1, h.ap2⟩, h2⟩
 have hl := h.low k hk
 have hlt := h.lt k hk
 refine ⟨hl.1, hl.2.1, fun x hx hF => ?_⟩
 rcases h3 x hx k hF with ⟨y, hy, hF'⟩ | hge
 ·exact hl.2.2 y hy hF'
 ·omega
end Go.Proofs.YtekegfbjbainhaaGreat
