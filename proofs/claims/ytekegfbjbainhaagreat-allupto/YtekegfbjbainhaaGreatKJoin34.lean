import Derived.Test.YtekegfbjbainhaaGreatKJoin33
import Derived.Test.YtekegfbjbainhaaGreatKJoin13
import Derived.Test.YtekegfbjbainhaaGreatKJoin27
import Derived.Test.YtekegfbjbainhaaGreatKJoin23
import Derived.Test.YtekegfbjbainhaaGreatKJoin18
import Derived.Deep.RegionHeld3
import Derived.Deep.RegionHeldLaw
import Derived.Deep.DeepCutAuto
import Derived.Test.YtekegfbjbainhaaGreatKJoin29
import Derived.Test.YtekegfbjbainhaaGreatKJoin21
import Derived.Test.YtekegfbjbainhaaGreatKJoin28
import Derived.Test.YtekegfbjbainhaaGreatKJoin22
set_option linter.unusedVariables false
set_option linter.unusedSimpArgs false

namespace Go.Proofs.YtekegfbjbainhaaGreat
open Go.RowKit
theorem tmod_nat (y n : Nat) : Int.tmod (y : Int) (n : Int) = ((y % n : Nat) : Int) := by
 rw [Int.tmod_eq_emod_of_nonneg (by omega)]; simp
def pickN (x : Int) (n : Nat) : Nat := (if x < 0 then (-(x + 1)).toNat else x.toNat) % n
theorem pickN_lt (x : Int) (n : Nat) (h : 1 ≤ n) : pickN x n < n := Nat.mod_lt _ (by omega)
set_option maxRecDepth 100000 in
theorem pick_any (x : Int) (n : Nat) (w : World) (h1 : -9223372036854775808 ≤ x) (h2 : x ≤ 9223372036854775807) (hn : 1 ≤ n) (hm : n ≤ maxLen) :
  Calls Tryz.prog 20 #[.int .i64 x, .int .i64 (n : Int)] w fun e w' => e = .returned (.int .i64 (pickN x n : Int)) ∧ w' = w := by
 unfold maxLen at hm
 have hn0 : ((n : Int) == 0) = false := by simp; omega
 have hn1 : ((n : Int) == -1) = false := by simp
 by_cases hx : x < 0
 ·have e1 : IntKind.i64.wrap (x + 1) = x + 1 := by simp only [IntKind.wrap_i64]; omega
  have e2 : IntKind.i64.wrap (-(x + 1)) = -(x + 1) := by simp only [IntKind.wrap_i64]; omega
  have HI : Hid (Int.tmod (-(x + 1)) n = (pickN x n : Int)) := by
   unfold Hid pickN
   rw [if_pos hx]
   obtain ⟨y, hy⟩ : ∃ y : Nat, -(x + 1) = (y : Int) := ⟨(-(x + 1)).toNat, by omega⟩
   rw [hy]; exact tmod_nat y n
  go_enter Tryz.func20, Tryz.ntmps20
  go_wp2
  go_ret
  refine ⟨?_, rfl⟩
  rw [← HI.out]
  simp [Int.neg_tmod]
 ·obtain ⟨y, rfl⟩ : ∃ y : Nat, x = (y : Int) := ⟨x.toNat, by omega⟩
  have HI : Hid ((pickN (y : Int) n : Int) = ((y % n : Nat) : Int)) := by
   unfold Hid pickN
   rw [if_neg hx]; simp
  go_enter Tryz.func20, Tryz.ntmps20
  go_wp2
  go_ret
  refine ⟨?_, rfl⟩
  rw [HI.out]
  simp
set_option maxRecDepth 100000 in
set_option maxHeartbeats 1000000 in
theorem step_store {B : BkV} (cs : List Value) (wb : Nat) (ps : SlR) (ds : List PairD) (w : World) (h : LawAt B w wb ps ds) (hlen : cs.length = 24) (k0 : cs[0]? = some (.int .i64 2)) (hn : ds.length + 1 ≤ 17592186044416) :
  Calls Tryz.prog 12 #[.pointer (some ⟨wb, 0, none⟩), .agg cs.toArray] w fun e w' => e = .returned (.bool true) ∧ (∃ ps' d, LawAt B w' wb ps' (ds ++ [d]) ∧ (∀ k, d.F k → w.heap.size ≤ k) ∧ (∀ k, ps'.val.ownBlock = some k → ps.val.ownBlock = some k ∨ w.heap.size ≤ k)) ∧ Frame (fun k => k = wb ∨ ps.val.ownBlock = some k) w w' := by
 obtain ⟨d, hd1, hd2⟩ := Tryz.rowOp
 have hsz : Hid ((Tryz.prog.info? 43).map (·.size) = some cs.length) := by rw [hlen]; exact Tryz.sizeOp
 have HD : Hid (Tryz.prog.underlying 43 = some d) := hd1
 have HD2 : Hid (d.isRow = true) := hd2
 have HL : Hid (cs.length = 24) := hlen
 have hb : Below w.heap.size w (w.alloc (.cells cs.toArray 43)) := (Below.refl _ _).alloc (Nat.le_refl _) _
 have HF : Hid (Calls _ _ _ _ _) := free_store cs wb ps ds _ (h.below hb) k0 hn
 clear hd1 hd2 hlen
 go_enter Tryz.func12, Tryz.ntmps12
 go_wp2_with (refine wpList_load_mid (by rfl) 43 (.tmp 3) (by rfl) w.heap.size 0 (by rfl) cs d (rangeAt_new w cs 43) HD.out HD2.out hsz.out ?_)
 refine HF.out.mono ?_
 rintro e w1 ⟨rfl, ⟨ps', dn, h1, h3, h4⟩, h2⟩
 have hbz := hb.size
 have H1 : Hid (LawAt B w1 wb ps' (ds ++ [dn])) := h1
 have H3 : Hid (∀ k, dn.F k → w.heap.size ≤ k) := fun k hk => by have := h3 k hk; omega
 have H4 : Hid (∀ k, ps'.val.ownBlock = some k → ps.val.ownBlock = some k ∨ w.heap.size ≤ k) := fun k hk => by
  rcases h4 k hk with g | g
  ·exact Or.inl g
  ·exact Or.inr (by omega)
 clear h1 h3 h4 hbz
 go_wp2
 go_ret
 exact ⟨rfl, ⟨ps', dn, H1.out, H3.out, H4.out⟩, Frame.into (Frame.of_below_all hb) h2 (fun k _ e => e)⟩
set_option maxRecDepth 100000 in
set_option maxHeartbeats 1000000 in
theorem step_none {B : BkV} (cs : List Value) (kk : Int) (wb : Nat) (ps : SlR) (w : World) (h : LawAt B w wb ps []) (k0 : cs[0]? = some (.int .i64 kk)) (hk : kk = 3 ∨ kk = 4 ∨ kk = 5) :
  Calls Tryz.prog 12 #[.pointer (some ⟨wb, 0, none⟩), .agg cs.toArray] w fun e w' => e = .returned (.bool true) ∧ Below w.heap.size w w' := by
 have hwb : wb < w.heap.size := RowV.lt h.row
 have hpn : ps.n = 0 := (owns_cap (a := ps.a) (n' := ps.n) (cap := ps.cap) h.own).1
 have r0 : w.cell? ⟨wb, 0, none⟩ = some (.slice ps.a 0 ps.cap) := by
  have : w.cell? ⟨wb, 0, none⟩ = some (.slice ps.a ps.n ps.cap) := RowV.cell h.row 0 (by simp)
  rw [hpn] at this; exact this
 clear hpn h
 have HB : Hid (Below w.heap.size w (w.alloc (.cells cs.toArray 43))) := (Below.refl _ _).alloc (Nat.le_refl _) _
 rcases hk with rfl | rfl | rfl
 all_goals
  go_enter Tryz.func12, Tryz.ntmps12
  go_wp2
  go_ret
  exact ⟨rfl, HB.out⟩
set_option maxRecDepth 100000 in
set_option maxHeartbeats 1000000 in
theorem step_pair {B : BkV} (cs : List Value) (kk oa : Int) (wb : Nat) (ps : SlR) (ds : List PairD) (w : World) (h : LawAt B w wb ps ds) (hlen : cs.length = 24) (k0 : cs[0]? = some (.int .i64 kk)) (hk : kk = 3 ∨ kk = 4 ∨ kk = 5) (k1 : cs[1]? = some (.int .i64 oa)) (ha1 : -9223372036854775808 ≤ oa) (ha2 : oa ≤ 9223372036854775807) (hn : 1 ≤ ds.length)
  (hst : ∀ (W : World) (d : PairD), PairOk W d → Calls Tryz.prog 21 #[.pointer (some ⟨wb, 0, none⟩), .agg cs.toArray, .pointer (some ⟨d.pb, 0, none⟩)] W fun e w' => e = .returned (.bool true) ∧ Stepped d W w') :
  Calls Tryz.prog 12 #[.pointer (some ⟨wb, 0, none⟩), .agg cs.toArray] w fun e w' => e = .returned (.bool true) ∧ ∃ (W : World) (d : PairD), d ∈ ds ∧ Below w.heap.size w W ∧ Stepped d W w' ∧ ∃ i : Nat, ds[i]? = some d := by
 obtain ⟨d, hd1, hd2⟩ := Tryz.rowOp
 have hsz : Hid ((Tryz.prog.info? 43).map (·.size) = some cs.length) := by rw [hlen]; exact Tryz.sizeOp
 have HD : Hid (Tryz.prog.underlying 43 = some d) := hd1
 have HD2 : Hid (d.isRow = true) := hd2
 have HL : Hid (cs.length = 24) := hlen
 have HB : Hid (Below w.heap.size w (w.alloc (.cells cs.toArray 43))) := (Below.refl _ _).alloc (Nat.le_refl _) _
 have hwb : wb < w.heap.size := RowV.lt h.row
 have r0 : w.cell? ⟨wb, 0, none⟩ = some (.slice ps.a ps.n ps.cap) := RowV.cell h.row 0 (by simp)
 obtain ⟨hpn, hpc, hpm, hpa⟩ := owns_cap (a := ps.a) (n' := ps.n) (cap := ps.cap) h.own
 obtain ⟨g, hg, hglt⟩ : ∃ g, ps.a = some ⟨g, 0, none⟩ ∧ g < w.heap.size := by
  rcases hpa with ⟨_, h0, _⟩ | ⟨g, hg, _, hlt⟩
  ·omega
  ·exact ⟨g, hg, hlt⟩
 rw [hg] at r0
 have hpm' : ps.n ≤ maxLen := by omega
 obtain ⟨dd, hdd, hcd⟩ : ∃ d, ds[pickN oa ps.n]? = some d ∧ w.cell? ⟨g, pickN oa ps.n, none⟩ = some (.pointer (some ⟨d.pb, 0, none⟩)) := by
  have hi' : pickN oa ps.n < ds.length := by have := pickN_lt oa ps.n (by omega); omega
  refine ⟨ds[pickN oa ps.n], List.getElem?_eq_getElem hi', ?_⟩
  have hsl : SlV w ps.a (ds.map (fun d => ptrV d.pb)) := (SlV.ofOwn h.own).1
  obtain ⟨b, o, e, _, hc⟩ := hsl (pickN oa ps.n) (by simpa using hi')
  rw [hg] at e; cases e
  rw [Nat.zero_add] at hc
  rw [hc]; simp [ptrV]
 have HDD : Hid (ds[pickN oa ps.n]? = some dd) := hdd
 have hiI : (pickN oa ps.n : Int) < ps.n := by have := pickN_lt oa ps.n (by omega); omega
 have HPK : Hid (∀ W, Calls Tryz.prog 20 #[.int .i64 oa, .int .i64 (ps.n : Int)] W fun e w' => e = .returned (.int .i64 (pickN oa ps.n : Int)) ∧ w' = W) := fun W => pick_any oa ps.n W ha1 ha2 (by omega) hpm'
 generalize pickN oa ps.n = i at *
 have hn1 : 1 ≤ ps.n := by omega
 have hpmI : (ps.n : Int) ≤ 9223372036854775807 := by unfold maxLen at hpm; omega
 have hn0 : ((ps.n : Int) == 0) = false := by simp; omega
 have HOK : Hid (∀ d ∈ ds, PairOk w d) := h.ok
 have HST : Hid (∀ (W : World) (d : PairD), PairOk W d → _) := hst
 clear hd1 hd2 hlen hpn hpc hpm hpa hst hn hdd hpm'
 rcases hk with rfl | rfl | rfl
 all_goals
  go_enter Tryz.func12, Tryz.ntmps12
  go_wp2
  go_quiet (first | (go_at_call 20; exact Calls.quiet_of_same (HPK.out _)))
  have HBq : Hid (Below w.heap.size w ((w.alloc (.cells cs.toArray 43)).drewN nq)) := by
   have hb := HB.out
   exact ⟨hb.os, hb.tape, hb.output, hb.size, hb.block⟩
  go_wp2_with (refine wpList_load_mid (by rfl) 43 (.tmp 3) (by rfl) w.heap.size 0 (by rfl) cs d (by exact rangeAt_new w cs 43) HD.out HD2.out hsz.out ?_)
  refine (HST.out _ dd ((HOK.out dd (List.mem_of_getElem? HDD.out)).frame (Frame.of_below_all (S := fun _ => False) HBq.out) (fun _ _ e => e))).mono ?_
  rintro e w1 ⟨rfl, hs1⟩
  go_wp2
  go_ret
  exact ⟨rfl, _, dd, List.mem_of_getElem? HDD.out, HBq.out, hs1, i, HDD.out⟩
end Go.Proofs.YtekegfbjbainhaaGreat


namespace Go.Proofs.YtekegfbjbainhaaGreat
open Go.RowKit
set_option maxRecDepth 100000 in
set_option maxHeartbeats 800000 in
theorem plays_n (a : Option Addr) (n cap kb : Nat) (k0 : Int) (ks : List Int) (f : Nat → OpR) (w : World) (Inv : Nat → World → Prop) (Ok : OpR → Prop) (hn : n ≤ maxLen) (hs : ScriptAt w a n f) (hok : ∀ i, i < n → Ok (f i))
  (hkb : kb < w.heap.size) (hkl : (k0 :: ks).length ≤ maxLen) (hk : KindsAt w kb (k0 :: ks))
  (hI0 : Inv 0 (w.alloc (.cells #[.slice none 0 0, .slice none 0 0, .slice none 0 0, .slice none 0 0] 34)))
  (hIB : ∀ q wr, Inv q wr → Below w.heap.size w wr) (hId : ∀ q wr m, Inv q wr → Inv q (wr.drewN m)) (hIm : ∀ q wr, Inv q wr → Inv (q + 1) wr)
  (hstep0 : ∀ wr, Inv 0 wr → Calls Tryz.prog 12 #[.pointer (some ⟨w.heap.size, 0, none⟩), .agg #[.int .i64 k0, .int .i64 0, .int .i64 0, .int .i64 0, .string ⟨#[99, 97, 105, 114, 110]⟩, .string ⟨#[]⟩, .string ⟨#[]⟩, .int .u8 0, .int .u8 0, .int .u8 0, .int .u8 0, .int .u8 0, .int .u8 0, .int .u8 0, .int .u8 0,
   .int .u8 0, .int .u8 0, .int .u8 0, .int .u8 0, .int .u8 0, .int .u8 0, .int .u8 0, .int .u8 0, .slice none 0 0]] wr fun e w' => e = .returned (.bool true) ∧ Inv 1 w')
  (hstep : ∀ q wr o, q ≤ n → Inv q wr → Ok o → o.kind ∈ k0 :: ks → o.s.size ≤ 140737488351232 → o.t.size ≤ 140737488351232 → o.u.size ≤ 140737488351232 →
   Calls Tryz.prog 12 #[.pointer (some ⟨w.heap.size, 0, none⟩), .agg o.cells.toArray] wr fun e w' => e = .returned (.bool true) ∧ Inv (q + 1) w')
  (hlooks : ∀ q wr, Inv q wr → Calls Tryz.prog 13 #[.pointer (some ⟨w.heap.size, 1, none⟩)] wr fun e w' => e = .returned (.bool true) ∧ Inv q w') :
  Calls Tryz.prog 9 #[.slice a n cap, .slice (some ⟨kb, 0, none⟩) (k0 :: ks).length (k0 :: ks).length] w fun e w' => e = .returned (.bool true) ∧ ∃ q, Inv q w' := by
 have H0 : Hid (∀ wr, Inv 0 wr → _) := hstep0
 have H1 : Hid (∀ q wr o, q ≤ n → Inv q wr → _) := hstep
 have H2 : Hid (∀ q wr, Inv q wr → _) := hlooks
 have HB : Hid (∀ q wr, Inv q wr → _) := hIB
 have HD : Hid (∀ q wr m, Inv q wr → _) := hId
 have HM0 : Hid (∀ q wr, Inv q wr → Inv (q + 1) wr) := hIm
 clear hstep0 hstep hlooks hIB hId hIm
 have hkc := hk 0 (by simp)
 have HK : Hid (KindsAt w kb (k0 :: ks)) := hk
 have HKL : Hid ((k0 :: ks).length ≤ maxLen) := hkl
 simp only [List.getElem_cons_zero] at hkc
 unfold maxLen at hn hkl
 have hkl1 : (1 : Int) ≤ ((k0 :: ks).length : Int) := by simp; omega
 generalize hL : (k0 :: ks) = L at *
 have HL : Hid (k0 :: ks = L) := hL
 clear hL hk
 go_enter Tryz.func9, Tryz.ntmps9
 go_wp2_with fail
 refine (H0.out _ hI0).mono ?_
 rintro e w1 ⟨rfl, hI1⟩
 go_wp2
 go_loopw [6, 7, 8, 9] (fun ok i _ _ wr => ∃ k : Nat, k ≤ n ∧ i = .int .i64 k ∧ ok = .bool true ∧ Inv (k + 1) wr) (fun _ i _ _ _ => n - (intOf i).toNat)
 case atStart => exact ⟨0, by omega, by simp, by simp, hI1⟩
 case round =>
  obtain ⟨k, hkn, rfl, rfl, hI⟩ := hrel
  by_cases hlt : k < n
  ·obtain ⟨b, o, rfl, hb, hr, hs1, hs2, hs3⟩ := hs k hlt
   have hB := HB.out _ _ hI
   have hr2 : wr.rangeAt b (o + k * 24) (f k).cells := fun j v hv => by rw [hB.cell (p := ⟨b, o + k * 24 + j, none⟩) hb]; exact hr j v hv
   have kc := hr2 0 (.int .i64 (f k).kind) rfl
   rw [Nat.add_zero] at kc
   have HR : Hid (wr.rangeAt b (o + k * 24) (f k).cells) := hr2
   clear hr2
   go_wp2
   go_loopw [8, 9] (fun inn j w' => ∃ (q m : Nat), q ≤ L.length ∧ j = .int .i64 q ∧ inn = .bool ((L.take q).any (fun y => (f k).kind == y)) ∧ w' = wr.drewN m) (fun _ j _ => L.length - (intOf j).toNat)
   case atStart => exact ⟨0, 0, by omega, by simp, by simp, rfl⟩
   case round =>
    obtain ⟨q, m, hq, rfl, rfl, rfl⟩ := hrel
    by_cases hqlt : q < L.length
    ·have hkq : wr.cell? ⟨kb, q, none⟩ = some (.int .i64 L[q]) := by rw [hB.cell (p := ⟨kb, q, none⟩) hkb]; exact HK.out q hqlt
     have HS : Hid (_ = _) := any_snoc L q hqlt (f k).kind
     generalize (L.take q).any (fun y => (f k).kind == y) = inn at *
     cases inn
     ·go_wp2
      go_quiet (fail)
      go_wp2
      refine ⟨⟨q + 1, m + nq, by omega, by go_num, by rw [HS.out, Bool.false_or], rfl⟩, by simp [intOf]; omega⟩
     ·go_wp2
      go_quiet (fail)
      go_wp2
      refine ⟨⟨q + 1, m + nq, by omega, by go_num, by rw [HS.out, Bool.true_or], rfl⟩, by simp [intOf]; omega⟩
    ·have HE : Hid ((L.take q).any (fun y => (f k).kind == y) = L.any (fun y => (f k).kind == y)) := by
      unfold Hid; rw [List.take_of_length_le (by omega)]
     rw [HE.out]
     have hID := HD.out _ _ m hI
     have HM : Hid (L.any (fun y => (f k).kind == y) = true → (f k).kind ∈ L) := fun h => by
      obtain ⟨y, hy, he⟩ := List.any_eq_true.1 h
      rw [beq_iff_eq] at he
      rw [he]; exact hy
     generalize hany : L.any (fun y => (f k).kind == y) = bin at *
     have HA : Hid (L.any (fun y => (f k).kind == y) = bin) := hany
     clear hany
     cases bin
     ·go_wp2
      refine ⟨⟨k + 1, by omega, by go_num, by simp, HM0.out _ _ hID⟩, by simp [intOf]; omega⟩
     ·obtain ⟨d, hd1, hd2⟩ := Tryz.rowOp
      have hmem : Hid ((f k).kind ∈ L) := HM.out rfl
      clear HM
      have hsz : Hid ((Tryz.prog.info? 43).map (·.size) = some (f k).cells.length) := Tryz.sizeOp
      have HD1 : Hid (Tryz.prog.underlying 43 = some d) := hd1
      have HD2 : Hid (d.isRow = true) := hd2
      clear hd1 hd2
      go_wp2_with (refine wpList_load_mid (by rfl) 43 (.tmp 50) (by rfl) b (o + k * 24) (by rfl) (f k).cells d (by exact HR.out) HD1.out HD2.out hsz.out ?_)
      refine (H1.out _ _ (f k) (by omega) hID (hok k hlt) hmem.out hs1 hs2 hs3).mono ?_
      rintro e w2 ⟨rfl, hI2⟩
      go_wp2_with fail
      refine (H2.out _ _ hI2).mono ?_
      rintro e w3 ⟨rfl, hI3⟩
      go_wp2
      refine ⟨⟨k + 1, by omega, by go_num, by simp, hI3⟩, by simp [intOf]; omega⟩
  ·go_wp2
   go_ret
   exact ⟨rfl, _, hI⟩
end Go.Proofs.YtekegfbjbainhaaGreat


namespace Go.Proofs.YtekegfbjbainhaaGreat
open Go.RowKit
def StoredOk (cs : List Value) : Prop := ∀ (p : Value) (W : World) (d : PairD), PairOk W d → Calls Tryz.prog 21 #[p, .agg cs.toArray, .pointer (some ⟨d.pb, 0, none⟩)] W fun e w' => e = .returned (.bool true) ∧ Stepped d W w'
end Go.Proofs.YtekegfbjbainhaaGreat


namespace Go.Proofs.YtekegfbjbainhaaGreat
open Go.RowKit
theorem past_get (pastL : List (SlR × List ItR)) (k : Nat) (hk : k < pastL.length) : pastAt (pastL.map (·.2)) (k : Int) = pastL[k].2 := by
 unfold pastAt
 simp [hk]
theorem ref_prove (rb : Nat) (now past roots : SlR) (nowL : List ItR) (pastL : List (SlR × List ItR)) (rootsL : List (List UInt8)) (e : Int) (sk : SlR) (key : List UInt8) (w : World) (h : RefAt w rb 0 now past roots nowL pastL rootsL) (hp : pastL.length ≤ 40) (hP : ∀ q ∈ pastL, PastR q.2) (hK : BS w sk key) (hkm : key.length ≤ maxLen) :
  Calls Tryz.prog 47 #[.pointer (some ⟨rb, 0, none⟩), .int .i64 e, sk.val] w fun r w' => ∃ v' : SlR, r = .returned (.tuple #[v'.val, .int .i64 (prvE (pastL.map (·.2)).length e key : Int)]) ∧ OwnB w' w.heap.size v'.val (prvB (pastL.map (·.2)) e key) ∧ Below w.heap.size w w' := by
 cases he : epochBad (pastL.map (·.2)).length e with
 | true =>
  have h4 : prvE (pastL.map (·.2)).length e key = 4 := by unfold prvE; rw [if_pos he]
  refine (refProve_epoch rb now past roots nowL pastL rootsL e sk.val w h hp (by simpa using he)).mono ?_
  rintro r w' ⟨rfl, hb⟩
  refine ⟨⟨none, 0, 0⟩, by rw [h4]; rfl, ?_, hb⟩
  unfold prvB; rw [h4]; exact World.ownsRow_nil _ _ _ _
 | false =>
  have he' : epochBad pastL.length e = false := by simpa using he
  obtain ⟨k, rfl, hk⟩ := epoch_in he'
  cases ha : keyOk key with
  | false =>
   have h4 : prvE (pastL.map (·.2)).length (k : Int) key = 1 := by unfold prvE; rw [if_neg (by rw [he]; decide), if_pos ha]
   refine (refProve_arg rb now past roots nowL pastL rootsL k sk key w h hp hk hK hkm ha).mono ?_
   rintro r w' ⟨rfl, hb⟩
   refine ⟨⟨none, 0, 0⟩, by rw [h4]; rfl, ?_, hb⟩
   unfold prvB; rw [h4]; exact World.ownsRow_nil _ _ _ _
  | true =>
   have h4 : prvE (pastL.map (·.2)).length (k : Int) key = 0 := by unfold prvE; rw [if_neg (by rw [he]; decide), if_neg (by rw [ha]; decide)]
   refine (refProve_ok rb now past roots nowL pastL rootsL k sk key w h hp hk (hP _ (List.getElem_mem hk)) hK ha).mono ?_
   rintro r w' ⟨a', n', c', rfl, ho, hb⟩
   refine ⟨⟨a', n', c'⟩, by rw [h4]; rfl, ?_, hb⟩
   unfold prvB; rw [h4, if_pos rfl, past_get pastL k hk]; exact ho
theorem ref_range (rb : Nat) (now past roots : SlR) (nowL : List ItR) (pastL : List (SlR × List ItR)) (rootsL : List (List UInt8)) (e : Int) (sf st : SlR) (fr tu : List UInt8) (w : World) (h : RefAt w rb 0 now past roots nowL pastL rootsL) (hp : pastL.length ≤ 40) (hP : ∀ q ∈ pastL, PastR q.2) (hF : BS w sf fr) (hT : BS w st tu) (hfm : fr.length ≤ maxLen) (htm : tu.length ≤ maxLen) :
  Calls Tryz.prog 49 #[.pointer (some ⟨rb, 0, none⟩), .int .i64 e, sf.val, st.val] w fun r w' => ∃ v' : SlR, r = .returned (.tuple #[v'.val, .int .i64 (rngE (pastL.map (·.2)).length e fr tu : Int)]) ∧ OwnB w' w.heap.size v'.val (rngB (pastL.map (·.2)) e fr tu) ∧ Below w.heap.size w w' := by
 cases he : epochBad (pastL.map (·.2)).length e with
 | true =>
  have h4 : rngE (pastL.map (·.2)).length e fr tu = 4 := by unfold rngE; rw [if_pos he]
  refine (refRangeP_epoch rb now past roots nowL pastL rootsL e sf.val st.val w h hp (by simpa using he)).mono ?_
  rintro r w' ⟨rfl, hb⟩
  refine ⟨⟨none, 0, 0⟩, by rw [h4]; rfl, ?_, hb⟩
  unfold rngB; rw [h4]; exact World.ownsRow_nil _ _ _ _
 | false =>
  have he' : epochBad pastL.length e = false := by simpa using he
  obtain ⟨k, rfl, hk⟩ := epoch_in he'
  cases ha : rngOk fr tu with
  | false =>
   have h4 : rngE (pastL.map (·.2)).length (k : Int) fr tu = 1 := by unfold rngE; rw [if_neg (by rw [he]; decide), if_pos ha]
   refine (refRangeP_arg rb now past roots nowL pastL rootsL k sf st fr tu w h hp hk hF hT hfm htm ha).mono ?_
   rintro r w' ⟨rfl, hb⟩
   refine ⟨⟨none, 0, 0⟩, by rw [h4]; rfl, ?_, hb⟩
   unfold rngB; rw [h4]; exact World.ownsRow_nil _ _ _ _
  | true =>
   have h4 : rngE (pastL.map (·.2)).length (k : Int) fr tu = 0 := by unfold rngE; rw [if_neg (by rw [he]; decide), if_neg (by rw [ha]; decide)]
   refine (refRangeP_ok rb now past roots nowL pastL rootsL k sf st fr tu w h hp hk (hP _ (List.getElem_mem hk)) hF hT ha).mono ?_
   rintro r w' ⟨a', n', c', rfl, ho, hb⟩
   refine ⟨⟨a', n', c'⟩, by rw [h4]; rfl, ?_, hb⟩
   unfold rngB; rw [h4, if_pos rfl, past_get pastL k hk]; exact ho
theorem prf_small {p : List ItR} (h : PastR p) (fr tu : List UInt8) : (prfB p fr tu).length ≤ 100000000000000 := by
 have hL := grown_lv p h.1 h.2.1 h.2.2
 unfold prfB
 have e : rootPage p = pageAt (grownN p) (rootLevel p) 0 := by
  unfold rootPage pageAt rootLevel
  cases ((grownN p)[(grownN p).length - 1]?.getD []) <;> rfl
 rw [e]
 exact range_small hL fr tu _ (by have := hL.len; unfold rootLevel; omega) _ (pageAt_ok hL _ _).1 (pageAt_ok hL _ _).2.1
theorem pastAt_R {pp : List (List ItR)} (h : ∀ p ∈ pp, PastR p) (e : Int) : PastR (pastAt pp e) := by
 unfold pastAt
 rw [List.getD_eq_getElem?_getD]
 cases hx : pp[e.toNat]? with
 | none => exact ⟨List.Pairwise.nil, fun x hx => (by cases hx), by simp⟩
 | some p => exact h p (List.mem_of_getElem? hx)
theorem prvB_small {pp : List (List ItR)} (h : ∀ p ∈ pp, PastR p) (e : Int) (key : List UInt8) : (prvB pp e key).length ≤ 100000000000000 := by
 unfold prvB
 split
 ·exact prf_small (pastAt_R h e) _ _
 ·simp
theorem rngB_small {pp : List (List ItR)} (h : ∀ p ∈ pp, PastR p) (e : Int) (fr tu : List UInt8) : (rngB pp e fr tu).length ≤ 100000000000000 := by
 unfold rngB
 split
 ·exact prf_small (pastAt_R h e) _ _
 ·simp
theorem StoT.past {w : World} {sb : Nat} {mp : Option Nat} {es : List MEn} {T : List (List (List Nd))} {tds : List Nd} {pp : List (List ItR)} (h : StoT w sb mp es T tds pp) : ∀ p ∈ pp, PastR p := fun p hp => by
 obtain ⟨i, hi, rfl⟩ := List.getElem_of_mem hp
 have h1 : i < T.length := by rw [h.tl, ← h.pl]; exact hi
 have h2 : i < tds.length := by rw [← h.pl]; exact hi
 have := (h.rep i T[i] pp[i] tds[i] (List.getElem?_eq_getElem h1) (List.getElem?_eq_getElem hi) (List.getElem?_eq_getElem h2)).2.2
 exact ⟨this.rise, this.ok, this.len⟩
end Go.Proofs.YtekegfbjbainhaaGreat


namespace Go.Proofs.YtekegfbjbainhaaGreat
open Go.RowKit
attribute [local go_sem ↓] Go.wp_at_zero Go.wp_at_succ
theorem PairAt.pastR {w : World} {d : PairD} (h : PairAt w d) : ∀ p ∈ d.pp, PastR p := h.tre.past
end Go.Proofs.YtekegfbjbainhaaGreat


namespace Go.Proofs.YtekegfbjbainhaaGreat
open Go.RowKit
attribute [local go_sem ↓] Go.wp_at_zero Go.wp_at_succ
theorem bs_ofString (b : Nat) (w : World) (s : ByteArray) (cap : Nat) (t : TypeId) (fr : Nat × Nat) (hb : b = w.heap.size) : BS (w.alloc (.cells (bytesRow s cap) t fr)) ⟨some ⟨b, 0, none⟩, s.size, cap⟩ s.data.toList := by
 subst hb; exact BS.ofString _ _ _ _ _
theorem bs_alloc {w : World} {s : SlR} {l : List UInt8} (h : BS w s l) (X : Obj) : BS (w.alloc X) s l := h.below ((Below.refl _ _).alloc (Nat.le_refl _) _)
end Go.Proofs.YtekegfbjbainhaaGreat


namespace Go.Proofs.YtekegfbjbainhaaGreat
open Go.RowKit
end Go.Proofs.YtekegfbjbainhaaGreat


namespace Go.Proofs.YtekegfbjbainhaaGreat
open Go.RowKit
end Go.Proofs.YtekegfbjbainhaaGreat


namespace Go.Proofs.YtekegfbjbainhaaGreat
open Go.RowKit
theorem bk_range {w : World} {base e : Nat} {bs : SlR} {rs : List BkR} (h : w.ownsRow base e 5 bs.val rs.length (bksF 0 rs)) : bs.n = rs.length ∧ ∀ k (hk : k < rs.length), ∃ b o, bs.a = some ⟨b, o, none⟩ ∧ b < w.heap.size ∧ w.rangeAt b (o + k * 5) (bkC rs[k] k) := by
 obtain ⟨hsl, hbn⟩ := SlV.ofOwn (s := bs) h
 refine ⟨hbn, fun k hk => ?_⟩
 obtain ⟨b, o, ha, hb, _⟩ := hsl (k * 5) (by rw [bksF_length]; omega)
 refine ⟨b, o, ha, hb, fun j v hv => ?_⟩
 have hj : j < 5 := by
  have := (List.getElem?_eq_some_iff.1 hv).1
  simpa [bkC] using this
 have hg := bksF_get 0 rs k hk j hj
 rw [Nat.zero_add] at hg
 obtain ⟨b', o', ha', _, hc⟩ := hsl (k * 5 + j) (by rw [bksF_length]; omega)
 rw [ha] at ha'
 cases ha'
 rw [show o + k * 5 + j = o + (k * 5 + j) by omega, hc]
 rw [hv] at hg
 rw [List.getElem?_eq_getElem (by rw [bksF_length]; omega)] at hg
 exact hg
theorem range_below {w wr : World} {b o n : Nat} {l : List Value} (hb : Below w.heap.size w wr) (hbb : b < w.heap.size) (h : w.rangeAt b o l) : wr.rangeAt b o l := fun j v hv => by
 rw [hb.cell (p := ⟨b, o + j, none⟩) hbb]
 exact h j v hv
theorem Tryz.sizeDigests : (Tryz.prog.info? 62).map (·.size) = some 5 := by kernel_rfl
theorem Tryz.sizeEntries : (Tryz.prog.info? 65).map (·.size) = some 5 := by kernel_rfl
set_option maxRecDepth 100000 in
set_option maxHeartbeats 4000000 in
theorem looks_all (wb : Nat) (ps bs ds es : SlR) (rs gs : List BkR) (hs : List EBk) (w : World) (hW : RowV w wb 34 [ps.val, bs.val, ds.val, es.val]) (hB : BkAt w bs rs) (hD : BdAt w ds gs) (hE : BeAt w es hs) (hn : rs.length ≤ 1200000000000) (hg : gs.length ≤ 1200000000000) (hh : hs.length ≤ 1200000000000) :
  Calls Tryz.prog 13 #[.pointer (some ⟨wb, 1, none⟩)] w fun e w' => e = .returned (.bool true) ∧ Below w.heap.size w w' := by
 obtain ⟨hbn, hbr⟩ := bk_range hB.own
 obtain ⟨hdn, hdr⟩ := bk_range hD.own
 have hel : hs.length = (hs.map (·.r)).length := by simp
 obtain ⟨hen, her⟩ := bk_range (rs := hs.map (·.r)) (by rw [← hel]; exact hE.own)
 rw [← hel] at hen
 have hnI : (bs.n : Int) ≤ 1200000000000 := by rw [hbn]; omega
 have hdI : (ds.n : Int) ≤ 1200000000000 := by rw [hdn]; omega
 have heI : (es.n : Int) ≤ 1200000000000 := by rw [hen]; omega
 have HN : Hid (bs.n = rs.length) := hbn
 have HND : Hid (ds.n = gs.length) := hdn
 have HNE : Hid (es.n = hs.length) := hen
 have HW : Hid (RowV w wb 34 [ps.val, bs.val, ds.val, es.val]) := hW
 have HB : Hid (BkAt w bs rs) := hB
 have HD : Hid (BdAt w ds gs) := hD
 have HE : Hid (BeAt w es hs) := hE
 have HL : Hid (rs.length ≤ 1200000000000 ∧ gs.length ≤ 1200000000000 ∧ hs.length ≤ 1200000000000) := ⟨hn, hg, hh⟩
 have HRG : Hid (∀ k (hk : k < rs.length), ∃ b o, bs.a = some ⟨b, o, none⟩ ∧ b < w.heap.size ∧ w.rangeAt b (o + k * 5) (bkC rs[k] k)) := hbr
 have HRD : Hid (∀ k (hk : k < gs.length), ∃ b o, ds.a = some ⟨b, o, none⟩ ∧ b < w.heap.size ∧ w.rangeAt b (o + k * 5) (bkC gs[k] k)) := hdr
 have HRE : Hid (∀ k (hk : k < hs.length), ∃ b o, es.a = some ⟨b, o, none⟩ ∧ b < w.heap.size ∧ w.rangeAt b (o + k * 5) (bkC hs[k].r k)) := fun k hk => by
  have := her k (by simpa using hk)
  simpa using this
 clear hbn hdn hen hbr hdr her hel hW hB hD hE hn hg hh
 go_enter Tryz.func13, Tryz.ntmps13
 go_wp2
 go_loopw [3, 4, 5] (fun ok i _ wr => ∃ k : Nat, k ≤ bs.n ∧ i = .int .i64 k ∧ ok = .bool true ∧ Below w.heap.size w wr) (fun _ i _ _ => bs.n - (intOf i).toNat)
 case atStart => exact ⟨0, by omega, by simp, by simp, Below.refl _ _⟩
 case round =>
  obtain ⟨k, hk, rfl, rfl, hb⟩ := hrel
  have hWr := HW.out.below HW.out.lt hb
  have c1 : wr.cell? ⟨wb, 1, none⟩ = some (.slice bs.a bs.n bs.cap) := hWr.cell 1 (by simp)
  by_cases hlt : k < bs.n
  ·have hltI : (k : Int) < bs.n := by omega
   have hkl : k < rs.length := by have := HN.out; omega
   obtain ⟨b, o, ha, hbb, hrg⟩ := HRG.out k hkl
   have HST : Hid (Calls _ _ _ _ _) := still_any rs[k] k wr (((HB.out.ok k hkl).frame (Frame.of_below_all (S := fun _ => False) hb) (fun _ _ e => e))) (by have := HL.out.1; omega)
   have HRG' : Hid (wr.rangeAt b (o + k * 5) (bkC rs[k] k)) := range_below (n := 0) hb hbb hrg
   have HSZ : Hid ((Tryz.prog.info? 60).map (·.size) = some (bkC rs[k] k).length) := Tryz.sizeBytes
   rw [ha] at c1
   clear hrg hWr
   go_wp2_with (first
    | (refine wpList_load_mid (by rfl) 60 (.tmp 24) (by rfl) b (o + k * 5) (by rfl) (bkC rs[k] k) _ HRG'.out Tryz.underlying60 (by rfl) HSZ.out ?_)
    | (go_at_call 24; refine HST.out.mono ?_; rintro e w2 ⟨rfl, hb2⟩))
   refine ⟨⟨k + 1, by omega, by go_num, by simp, hb.trans (hb2.mono hb.size)⟩, by simp [intOf]; omega⟩
  ·have hltI : ¬ (k : Int) < bs.n := by omega
   clear hWr
   have HBA : Hid (Below w.heap.size w wr) := hb
   clear hb
   go_wp2
   go_loopw [3, 6, 7] (fun ok i _ wr => ∃ k : Nat, k ≤ ds.n ∧ i = .int .i64 k ∧ ok = .bool true ∧ Below w.heap.size w wr) (fun _ i _ _ => ds.n - (intOf i).toNat)
   case atStart => exact ⟨0, by omega, by simp, by simp, HBA.out⟩
   case round =>
    clear hk hltI hlt c1
    rename_i k0 _ _ _ _ _
    clear HBA
    obtain ⟨k, hk, rfl, rfl, hb⟩ := hrel
    have hWr := HW.out.below HW.out.lt hb
    have c1 : wr.cell? ⟨wb, 2, none⟩ = some (.slice ds.a ds.n ds.cap) := hWr.cell 2 (by simp)
    by_cases hlt : k < ds.n
    ·have hltI : (k : Int) < ds.n := by omega
     have hkl : k < gs.length := by have := HND.out; omega
     obtain ⟨b, o, ha, hbb, hrg⟩ := HRD.out k hkl
     have HST : Hid (Calls _ _ _ _ _) := stillD_any gs[k] k wr (((HD.out.ok k hkl).frame (Frame.of_below_all (S := fun _ => False) hb) (fun _ _ e => e))) (by have := HL.out.2.1; omega)
     have HRG' : Hid (wr.rangeAt b (o + k * 5) (bkC gs[k] k)) := range_below (n := 0) hb hbb hrg
     have HSZ : Hid ((Tryz.prog.info? 62).map (·.size) = some (bkC gs[k] k).length) := Tryz.sizeDigests
     rw [ha] at c1
     clear hrg hWr
     go_wp2_with (first
      | (refine wpList_load_mid (by rfl) 62 (.tmp 45) (by rfl) b (o + k * 5) (by rfl) (bkC gs[k] k) _ HRG'.out Tryz.underlying62 (by rfl) HSZ.out ?_)
      | (go_at_call 25; refine HST.out.mono ?_; rintro e w2 ⟨rfl, hb2⟩))
     refine ⟨⟨k + 1, by omega, by go_num, by simp, hb.trans (hb2.mono hb.size)⟩, by simp [intOf]; omega⟩
    ·have hltI : ¬ (k : Int) < ds.n := by omega
     clear hWr
     have HBA : Hid (Below w.heap.size w wr) := hb
     clear hb
     go_wp2
     go_loopw [3, 8, 9] (fun ok i _ wr => ∃ k : Nat, k ≤ es.n ∧ i = .int .i64 k ∧ ok = .bool true ∧ Below w.heap.size w wr) (fun _ i _ _ => es.n - (intOf i).toNat)
     case atStart => exact ⟨0, by omega, by simp, by simp, HBA.out⟩
     case round =>
      clear hk hltI hlt c1 HBA
      obtain ⟨k, hk, rfl, rfl, hb⟩ := hrel
      have hWr := HW.out.below HW.out.lt hb
      have c1 : wr.cell? ⟨wb, 3, none⟩ = some (.slice es.a es.n es.cap) := hWr.cell 3 (by simp)
      by_cases hlt : k < es.n
      ·have hltI : (k : Int) < es.n := by omega
       have hkl : k < hs.length := by have := HNE.out; omega
       obtain ⟨b, o, ha, hbb, hrg⟩ := HRE.out k hkl
       have HST : Hid (Calls _ _ _ _ _) := stillE_any hs[k].r k hs[k].kb wr (((HE.out.ok k hkl).1.frame (Frame.of_below_all (S := fun _ => False) hb) (fun _ _ e => e))) (((HE.out.ok k hkl).2.frame (Frame.of_below_all (S := fun _ => False) hb) (fun e => e))) (by have := HL.out.2.2; omega)
       have HRG' : Hid (wr.rangeAt b (o + k * 5) (bkC hs[k].r k)) := range_below (n := 0) hb hbb hrg
       have HSZ : Hid ((Tryz.prog.info? 65).map (·.size) = some (bkC hs[k].r k).length) := Tryz.sizeEntries
       rw [ha] at c1
       clear hrg hWr
       go_wp2_with (first
        | (refine wpList_load_mid (by rfl) 65 (.tmp 66) (by rfl) b (o + k * 5) (by rfl) (bkC hs[k].r k) _ HRG'.out Tryz.underlying65 (by rfl) HSZ.out ?_)
        | (go_at_call 26; refine HST.out.mono ?_; rintro e w2 ⟨rfl, hb2⟩))
       refine ⟨⟨k + 1, by omega, by go_num, by simp, hb.trans (hb2.mono hb.size)⟩, by simp [intOf]; omega⟩
      ·have hltI : ¬ (k : Int) < es.n := by omega
       clear hWr
       go_wp2
       go_ret
       exact ⟨rfl, hb⟩
end Go.Proofs.YtekegfbjbainhaaGreat


namespace Go.Proofs.YtekegfbjbainhaaGreat
open Go.RowKit
theorem next_places (level : Nat) : ∀ (ps : List (List ItR)) (i : Nat), (nextF level i ps).map (·.below) = List.range' i ps.length
 | [], i => by simp [nextF]
 | p :: r, i => by
  unfold nextF
  rw [List.map_cons, next_places level r (i + 1), List.length_cons, List.range'_succ]
theorem grownF_uniq : ∀ (f level : Nat) (l : List ItR) (n : Nat) (up : List (List ItR)), (grownF f level l)[n + 1]? = some up → (up.flatten.map (·.below)).Nodup
 | 0, level, l, n, up, h => by simp [grownF] at h
 | f + 1, level, l, n, up, h => by
  unfold grownF at h
  by_cases h1 : (partedN level l).length = 1
  ·rw [if_pos h1] at h
   simp at h
  ·rw [if_neg h1, List.getElem?_cons_succ] at h
   cases n with
   | succ n => exact grownF_uniq f (level + 1) _ n up h
   | zero =>
    cases f with
    | zero => simp [grownF] at h
    | succ f =>
     have hup : up = partedN (level + 1) (nextF level 0 (partedN level l)) := by
      unfold grownF at h
      split at h
      ·simpa using h.symm
      ·simpa using h.symm
     have e : up.flatten = nextF level 0 (partedN level l) := by rw [hup]; unfold partedN; rw [partF_flatten]; rfl
     rw [e, next_places]
     exact List.nodup_range'
def costF (lvls : List (List (List ItR))) (fr tu : List UInt8) (n : Nat) (js : List Nat) : Nat := (js.map (fun j => (rangeF lvls fr tu n (pageAt lvls n j)).length)).sum
def namedF (p : List ItR) (fr tu : List UInt8) : List Nat := (List.range p.length).flatMap (fun i => if withB p i fr tu = true then [belowAt p i] else [])
theorem named_sub (p : List ItR) (fr tu : List UInt8) : List.Sublist (namedF p fr tu) (p.map (·.below)) := by
 have h : ∀ k, k ≤ p.length → List.Sublist ((List.range k).flatMap (fun i => if withB p i fr tu = true then [belowAt p i] else [])) ((p.take k).map (·.below)) := fun k => by
  induction k with
  | zero => intro _; simp
  | succ k ih =>
   intro hk
   rw [List.range_succ, List.flatMap_append, List.take_succ_eq_append_getElem (by omega), List.map_append]
   refine List.Sublist.append (ih (by omega)) ?_
   have e : belowAt p k = p[k].below := by unfold belowAt; rw [List.getElem?_eq_getElem (by omega)]; rfl
   simp only [List.flatMap_cons, List.flatMap_nil, List.append_nil, List.map_cons, List.map_nil]
   split
   ·rw [e]; exact List.Sublist.refl _
   ·exact List.nil_sublist _
 have := h p.length (Nat.le_refl _)
 rw [List.take_length] at this
 exact this
theorem cost_named (lvls : List (List (List ItR))) (fr tu : List UInt8) (n : Nat) (p : List ItR) : (rangeF lvls fr tu (n + 1) p).length = (frameB (n + 1) p).length + costF lvls fr tu n (namedF p fr tu) := by
 rw [rangeF_succ, List.length_append]
 congr 1
 unfold behindF costF namedF
 rw [List.map_flatMap]
 generalize List.range p.length = r
 induction r with
 | nil => rfl
 | cons i r ih =>
  rw [List.flatMap_cons, List.flatMap_cons, List.length_append, List.sum_append, ih]
  congr 1
  split <;> simp
theorem cost_flat (lvls : List (List (List ItR))) (fr tu : List UInt8) (n : Nat) (js : List Nat) (f : Nat → List Nat) : costF lvls fr tu n (js.flatMap f) = (js.map (fun j => costF lvls fr tu n (f j))).sum := by
 unfold costF
 induction js with
 | nil => rfl
 | cons j js ih => rw [List.flatMap_cons, List.map_append, List.sum_append, ih]; rfl
theorem sum_bound (f : Nat → Nat) (B : Nat) (js : List Nat) (h : ∀ j ∈ js, f j ≤ B) : (js.map f).sum ≤ js.length * B := by
 induction js with
 | nil => simp
 | cons j js ih =>
  have h1 := h j (by simp)
  have h2 := ih (fun x hx => h x (by simp [hx]))
  rw [List.map_cons, List.sum_cons, List.length_cons, Nat.add_mul]
  omega
theorem nodup_lt_length : ∀ (N : Nat) (js : List Nat), js.Nodup → (∀ j ∈ js, j < N) → js.length ≤ N
 | 0, js, _, hlt => by
  cases js with
  | nil => simp
  | cons j js => exact absurd (hlt j (by simp)) (Nat.not_lt_zero _)
 | N + 1, js, h, hlt => by
  have ih := nodup_lt_length N (js.erase N) (h.erase N) (fun j hj => by
   have := (List.Nodup.mem_erase_iff h).1 hj
   have := hlt j this.2
   omega)
  have : js.length ≤ (js.erase N).length + 1 := by
   by_cases hm : N ∈ js
   ·rw [List.length_erase_of_mem hm]; omega
   ·rw [List.erase_of_not_mem hm]; omega
  omega
theorem cost_small {lvls : List (List (List ItR))} (hL : LvlsOk lvls) (hu : ∀ n up, lvls[n + 1]? = some up → (up.flatten.map (·.below)).Nodup) (fr tu : List UInt8) : ∀ (n : Nat) (ps : List (List ItR)) (js : List Nat), lvls[n]? = some ps → js.Nodup → (∀ j ∈ js, j < ps.length) → costF lvls fr tu n js ≤ (n + 1) * 97600
 | 0, ps, js, hp, hd, hj => by
  have h1 := nodup_lt_length ps.length js hd hj
  have h2 := hL.cnt 0 ps hp
  have h3 := sum_bound (fun j => (rangeF lvls fr tu 0 (pageAt lvls 0 j)).length) 1600 js (fun j _ => by
   have := pageAt_ok hL 0 j
   show (frameB 0 _).length ≤ 1600
   exact frameB_length 0 _ this.2.1 this.1)
  unfold costF
  have h4 : js.length * 1600 ≤ 61 * 1600 := Nat.mul_le_mul_right _ (by omega)
  exact Nat.le_trans h3 (Nat.le_trans h4 (by decide))
 | n + 1, ps, js, hp, hd, hj => by
  have h1 := nodup_lt_length ps.length js hd hj
  have h2 := hL.cnt (n + 1) ps hp
  have e : costF lvls fr tu (n + 1) js = (js.map (fun j => (frameB (n + 1) (pageAt lvls (n + 1) j)).length)).sum + costF lvls fr tu n (js.flatMap (fun j => namedF (pageAt lvls (n + 1) j) fr tu)) := by
   rw [cost_flat]
   unfold costF
   clear hd hj h1
   induction js with
   | nil => rfl
   | cons j js ih =>
    simp only [List.map_cons, List.sum_cons] at ih ⊢
    rw [ih, cost_named]
    unfold costF
    omega
  have h3 := sum_bound (fun j => (frameB (n + 1) (pageAt lvls (n + 1) j)).length) 1600 js (fun j _ => by
   have := pageAt_ok hL (n + 1) j
   exact frameB_length (n + 1) _ this.2.1 this.1)
  have h4 : js.length * 1600 ≤ 61 * 1600 := Nat.mul_le_mul_right _ (by omega)
  obtain ⟨qs, hq⟩ : ∃ qs, lvls[n]? = some qs := by
   have := (List.getElem?_eq_some_iff.1 hp).1
   exact ⟨_, List.getElem?_eq_getElem (by omega)⟩
  have hun := hu n ps hp
  have hpg : ∀ j, ∀ h : j < ps.length, pageAt lvls (n + 1) j = ps[j] := fun j h => by
   unfold pageAt
   rw [hp]
   simp [h]
  rw [List.map_flatten] at hun
  have hun' := List.pairwise_flatten.1 hun
  have hlt : ∀ x ∈ js.flatMap (fun j => namedF (pageAt lvls (n + 1) j) fr tu), x < qs.length := fun x hx => by
   obtain ⟨j, hjm, hx⟩ := List.mem_flatMap.1 hx
   have hjl := hj j hjm
   rw [hpg j hjl] at hx
   have := (named_sub _ fr tu).subset hx
   obtain ⟨y, hy, rfl⟩ := List.mem_map.1 this
   exact (hL.bel n qs ps hq hp _ (List.getElem_mem hjl) y hy).1
  have hnd : (js.flatMap (fun j => namedF (pageAt lvls (n + 1) j) fr tu)).Nodup := by
   unfold List.Nodup
   rw [List.flatMap_def, List.pairwise_flatten]
   refine ⟨fun l hl => ?_, ?_⟩
   ·obtain ⟨j, hjm, rfl⟩ := List.mem_map.1 hl
    have hjl := hj j hjm
    rw [hpg j hjl]
    exact List.Pairwise.sublist (named_sub _ fr tu) (hun'.1 _ (List.mem_map.2 ⟨_, List.getElem_mem hjl, rfl⟩))
   ·rw [List.pairwise_map]
    refine List.Pairwise.imp_of_mem ?_ hd
    intro a b ha hb hne x hx y hy
    have hal := hj a ha
    have hbl := hj b hb
    rw [hpg a hal] at hx
    rw [hpg b hbl] at hy
    have hx' := (named_sub _ fr tu).subset hx
    have hy' := (named_sub _ fr tu).subset hy
    have hpw := List.pairwise_iff_getElem.1 hun'.2
    rcases Nat.lt_or_gt_of_ne hne with h | h
    ·have := hpw a b (by simpa using hal) (by simpa using hbl) h
     simp only [List.getElem_map] at this
     exact this x hx' y hy'
    ·have := hpw b a (by simpa using hbl) (by simpa using hal) h
     simp only [List.getElem_map] at this
     exact fun e => this y hy' x hx' e.symm
  have ih := cost_small hL hu fr tu n qs _ hq hnd hlt
  rw [e]
  omega
theorem prf_short {p : List ItR} (h : PastR p) (fr tu : List UInt8) : (prfB p fr tu).length ≤ 1000000 := by
 have hL := grown_lv p h.1 h.2.1 h.2.2
 have e : rootPage p = pageAt (grownN p) (rootLevel p) 0 := by
  unfold rootPage pageAt rootLevel
  cases ((grownN p)[(grownN p).length - 1]?.getD []) <;> rfl
 have hg := grownF_length 7 0 p (by omega)
 have hlen : 1 ≤ (grownN p).length := hg.1
 obtain ⟨ps, hp⟩ : ∃ ps, (grownN p)[rootLevel p]? = some ps := ⟨_, List.getElem?_eq_getElem (by unfold rootLevel; omega)⟩
 have hl6 : rootLevel p ≤ 6 := by have := hL.len; unfold rootLevel; omega
 unfold prfB
 rw [e]
 by_cases h0 : 0 < ps.length
 ·have h1 := cost_small hL (fun n up => grownF_uniq 7 0 p n up) fr tu (rootLevel p) ps [0] hp (by simp) (by simpa using h0)
  have e2 : costF (grownN p) fr tu (rootLevel p) [0] = (rangeF (grownN p) fr tu (rootLevel p) (pageAt (grownN p) (rootLevel p) 0)).length := by simp [costF]
  rw [e2] at h1
  have : (rootLevel p + 1) * 97600 ≤ 7 * 97600 := Nat.mul_le_mul_right _ (by omega)
  omega
 ·have e3 : pageAt (grownN p) (rootLevel p) 0 = [] := by
   unfold pageAt
   rw [hp]
   have : ps = [] := List.length_eq_zero_iff.1 (by omega)
   simp [this]
  rw [e3]
  cases hr : rootLevel p with
  | zero => simp [rangeF, frameB, codeB]
  | succ n => simp [rangeF, frameB, codeB]
end Go.Proofs.YtekegfbjbainhaaGreat


namespace Go.Proofs.YtekegfbjbainhaaGreat
open Go.RowKit
structure BookD where
 bs : SlR
 dg : SlR
 es : SlR
 rs : List BkR
 gs : List BkR
 hs : List EBk
def BookD.F (B : BookD) (k : Nat) : Prop := bookF B.bs B.rs k ∨ bookF B.dg B.gs k ∨ bookE B.es B.hs k
def BookD.V (B : BookD) : BkV := (B.bs.val, B.dg.val, B.es.val)
structure LawK (w : World) (wb : Nat) (ps : SlR) (ds : List PairD) (B : BookD) : Prop where
 law : LawAt B.V w wb ps ds
 bk : BkAt w B.bs B.rs
 bd : BdAt w B.dg B.gs
 be : BeAt w B.es B.hs
 low : ∀ k, B.F k → wb < k ∧ ps.val.ownBlock ≠ some k ∧ ∀ d ∈ ds, ¬ d.F k
 ap1 : ∀ k, bookF B.bs B.rs k → ¬ bookF B.dg B.gs k
 ap2 : ∀ k, bookE B.es B.hs k → ¬ bookF B.bs B.rs k ∧ ¬ bookF B.dg B.gs k
theorem LawK.row {w : World} {wb : Nat} {ps : SlR} {ds : List PairD} {B : BookD} (h : LawK w wb ps ds B) : RowV w wb 34 [ps.val, B.bs.val, B.dg.val, B.es.val] := h.law.row
theorem LawK.frame {w W : World} {S : Nat → Prop} {wb : Nat} {ps : SlR} {ds : List PairD} {B : BookD} (h : LawK w wb ps ds B) (hf : Frame S w W) (h1 : ¬ S wb) (h2 : ∀ k, ps.val.ownBlock = some k → ¬ S k) (h3 : ∀ d ∈ ds, ∀ k, d.F k → ¬ S k) (h4 : ∀ k, B.F k → ¬ S k) : LawK W wb ps ds B :=
 ⟨h.law.frame hf h1 h2 h3, h.bk.frame hf (fun k hk => h4 k (Or.inl hk)), h.bd.frame hf (fun k hk => h4 k (Or.inr (Or.inl hk))), h.be.frame hf (fun k hk => h4 k (Or.inr (Or.inr hk))), h.low, h.ap1, h.ap2⟩
theorem LawK.below {w W : World} {wb : Nat} {ps : SlR} {ds : List PairD} {B : BookD} (h : LawK w wb ps ds B) (hb : Below w.heap.size w W) : LawK W wb ps ds B := h.frame (Frame.of_below_all (S := fun _ => False) hb) (fun e => e) (fun _ _ e => e) (fun _ _ _ _ e => e) (fun _ _ e => e)
theorem LawK.lt {w : World} {wb : Nat} {ps : SlR} {ds : List PairD} {B : BookD} (h : LawK w wb ps ds B) : ∀ k, B.F k → k < w.heap.size := fun k hk => by
 rcases hk with hk | hk | hk
 ·exact h.bk.lt k hk
 ·exact h.bd.lt k hk
 ·exact h.be.lt k hk
theorem LawK.start {w : World} {wb : Nat} {ps : SlR} {ds : List PairD} (h : LawAt (.slice none 0 0, .slice none 0 0, .slice none 0 0) w wb ps ds) : LawK w wb ps ds ⟨⟨none, 0, 0⟩, ⟨none, 0, 0⟩, ⟨none, 0, 0⟩, [], [], []⟩ := by
 have hn1 : ∀ k, ¬ bookF ⟨none, 0, 0⟩ [] k := fun k hk => by
  rcases hk with hk | ⟨r, hr, _⟩
  ·cases hk
  ·cases hr
 have hn2 : ∀ k, ¬ bookE ⟨none, 0, 0⟩ [] k := fun k hk => by
  rcases hk with hk | ⟨r, hr, _⟩
  ·cases hk
  ·cases hr
 refine ⟨h, BkAt.nil _, BdAt.nil _, BeAt.nil _, fun k hk => ?_, fun k hk => absurd hk (hn1 k), fun k hk => absurd hk (hn2 k)⟩
 rcases hk with hk | hk | hk
 ·exact absurd hk (hn1 k)
 ·exact absurd hk (hn1 k)
 ·exact absurd hk (hn2 k)
theorem LawK.turn {w W W' : World} {S : Nat → Prop} {wb : Nat} {ps : SlR} {ds : List PairD} {B B' : BookD} (h : LawK w wb ps ds B) (hb : Below w.heap.size w W) (hf : Frame S W W') (hS : ∀ k, S k → k = wb ∨ B.F k ∨ w.heap.size ≤ k)
  (hr : RowV W' wb 34 [ps.val, B'.bs.val, B'.dg.val, B'.es.val]) (h1 : BkAt W' B'.bs B'.rs) (h2 : BdAt W' B'.dg B'.gs) (h3 : BeAt W' B'.es B'.hs) (hn : ∀ k, B'.F k → k < w.heap.size → B.F k) (a1 : ∀ k, bookF B'.bs B'.rs k → ¬ bookF B'.dg B'.gs k) (a2 : ∀ k, bookE B'.es B'.hs k → ¬ bookF B'.bs B'.rs k ∧ ¬ bookF B'.dg B'.gs k) :
  LawK W' wb ps ds B' := by
 have hW := h.law.below hb
 have hz := hb.size
 have hno : ∀ d ∈ ds, ∀ k, d.F k → ¬ S k := fun d hd k hk e => by
  rcases hS k e with e | e | e
  ·have := (h.law.low d hd k hk).1; omega
  ·exact (h.low k e).2.2 d hd hk
  ·have := (h.law.ok d hd).lay.lt k hk; omega
 refine ⟨⟨hr, owns_frame hW.own hf (fun k hk e => ?_), fun d hd => (hW.ok d hd).frame hf (hno d hd), h.law.low, h.law.psb, h.law.apart⟩, h1, h2, h3, fun k hk => ?_, a1, a2⟩
 ·rcases hS k e with e | e | e
  ·have := h.law.psb k hk; omega
  ·exact (h.low k e).2.1 hk
  ·have := (h.law.own.lt k hk).2; omega
 ·by_cases hlt : k < w.heap.size
  ·exact h.low k (hn k hk hlt)
  ·refine ⟨by have := RowV.lt h.law.row; omega, fun e => by have := (h.law.own.lt k e).2; omega, fun d hd e => by have := (h.law.ok d hd).lay.lt k e; omega⟩
def BookD.addB (B : BookD) (bs' : SlR) (r : BkR) : BookD := { B with bs := bs', rs := B.rs ++ [r] }
theorem LawK.moreB {w W W' : World} {wb : Nat} {ps bs' v : SlR} {ds : List PairD} {B : BookD} {r : BkR} (h : LawK w wb ps ds B) (hb : Below w.heap.size w W) (hv : ∀ k, v.val.ownBlock = some k → w.heap.size ≤ k) (hr : RowV W' wb 34 [ps.val, bs'.val, B.dg.val, B.es.val]) (hbk : BkAt W' bs' (B.rs ++ [r]))
  (hf : Frame (fun k => k = wb ∨ v.val.ownBlock = some k ∨ B.bs.val.ownBlock = some k) W W') (hn : ∀ k, bookF bs' (B.rs ++ [r]) k → k < W.heap.size → bookF B.bs B.rs k ∨ v.val.ownBlock = some k) : LawK W' wb ps ds (B.addB bs' r) := by
 have hz := hb.size
 have hW := h.below hb
 have hn' : ∀ k, bookF bs' (B.rs ++ [r]) k → k < w.heap.size → bookF B.bs B.rs k := fun k hk hlt => by
  rcases hn k hk (by omega) with e | e
  ·exact e
  ·have := hv k e; omega
 refine h.turn (B' := B.addB bs' r) hb hf (fun k e => ?_) hr hbk (hW.bd.frame hf (fun k hk e => ?_)) (hW.be.frame hf (fun k hk e => ?_)) (fun k hk hlt => ?_) (fun k hk hg => ?_) (fun k hk => ⟨fun hg => ?_, (h.ap2 k hk).2⟩)
 ·rcases e with e | e | e
  ·exact Or.inl e
  ·exact Or.inr (Or.inr (hv k e))
  ·exact Or.inr (Or.inl (Or.inl (Or.inl e)))
 ·have hl := h.low k (Or.inr (Or.inl hk))
  have := h.bd.lt k hk
  rcases e with e | e | e
  ·omega
  ·have := hv k e; omega
  ·exact h.ap1 k (Or.inl e) hk
 ·have hl := h.low k (Or.inr (Or.inr hk))
  have := h.be.lt k hk
  rcases e with e | e | e
  ·omega
  ·have := hv k e; omega
  ·exact (h.ap2 k hk).1 (Or.inl e)
 ·rcases hk with hk | hk
  ·exact Or.inl (hn' k hk hlt)
  ·exact Or.inr hk
 ·exact h.ap1 k (hn' k hk (h.bd.lt k hg)) hg
 ·exact (h.ap2 k hk).1 (hn' k hg (h.be.lt k hk))
theorem LawK.moreE {w W W' : World} {wb n : Nat} {ps v : SlR} {ds : List PairD} {B : BookD} {fl : List SlR} {e : Ending} (h : LawK w wb ps ds B) (hb : Below w.heap.size w W) (hv : ∀ k, v.val.ownBlock = some k → w.heap.size ≤ k) (hfl : ∀ x ∈ fl, ∀ k, x.val.ownBlock = some k → w.heap.size ≤ k) (hp : entPost W wb ps B.dg B.bs B.es v B.rs B.hs fl n e W') :
  ∃ B' : BookD, LawK W' wb ps ds B' ∧ B'.rs.length = B.rs.length + n * 2 ∧ B'.gs = B.gs ∧ B'.hs.length = B.hs.length + 1 ∧ Frame (fun k => k = wb ∨ B.F k) w W' := by
 obtain ⟨_, bs2, rs2, es2, x, q1, q2, q3, q4, q5, q6, q7, q8⟩ := hp
 have hz := hb.size
 have hW := h.below hb
 have hS : ∀ k, (k = wb ∨ bookF B.bs B.rs k ∨ B.es.val.ownBlock = some k ∨ (∃ x ∈ fl, x.val.ownBlock = some k) ∨ v.val.ownBlock = some k) → k = wb ∨ B.F k ∨ w.heap.size ≤ k := fun k e => by
  rcases e with e | e | e | ⟨x, hx, e⟩ | e
  ·exact Or.inl e
  ·exact Or.inr (Or.inl (Or.inl e))
  ·exact Or.inr (Or.inl (Or.inr (Or.inr (Or.inl e))))
  ·exact Or.inr (Or.inr (hfl x hx k e))
  ·exact Or.inr (Or.inr (hv k e))
 have hold : ∀ k, bookF bs2 rs2 k ∨ bookE es2 (B.hs ++ [x]) k → k < w.heap.size → bookF B.bs B.rs k ∨ bookE B.es B.hs k := fun k hk hlt => by
  rcases q6 k hk (by omega) with g | g | ⟨y, hy, g⟩ | g
  ·exact Or.inl g
  ·exact Or.inr g
  ·have := hfl y hy k g; omega
  ·have := hv k g; omega
 have hdg : ∀ k, bookF bs2 rs2 k ∨ bookE es2 (B.hs ++ [x]) k → ¬ bookF B.dg B.gs k := fun k hk hg => by
  rcases hold k hk (h.bd.lt k hg) with g | g
  ·exact h.ap1 k g hg
  ·exact (h.ap2 k g).2 hg
 refine ⟨⟨bs2, B.dg, es2, rs2, B.gs, B.hs ++ [x]⟩, h.turn hb q5 hS q1 q2 (hW.bd.frame q5 (fun k hk e => ?_)) q4 (fun k hk hlt => ?_) (fun k hk => hdg k (Or.inl hk)) (fun k hk => ⟨(q7 k hk).1, hdg k (Or.inr hk)⟩), q3, rfl, by simp, ?_⟩
 ·have hl := h.low k (Or.inr (Or.inl hk))
  have hlt := h.bd.lt k hk
  rcases e with e | e | e | ⟨y, hy, e⟩ | e
  ·omega
  ·exact h.ap1 k e hk
  ·exact (h.ap2 k (Or.inl e)).2 hk
  ·have := hfl y hy k e; omega
  ·have := hv k e; omega
 ·rcases hk with hk | hk | hk
  ·rcases hold k (Or.inl hk) hlt with g | g
   ·exact Or.inl g
   ·exact Or.inr (Or.inr g)
  ·exact Or.inr (Or.inl hk)
  ·rcases hold k (Or.inr hk) hlt with g | g
   ·exact Or.inl g
   ·exact Or.inr (Or.inr g)
 ·refine Frame.inside (Frame.of_below_all hb) q5 (fun k hlt hk => ?_)
  rcases hS k hk with e | e | e
  ·exact Or.inl e
  ·exact Or.inr e
  ·omega
theorem LawK.new {w w' : World} {wb : Nat} {ps ps' : SlR} {ds : List PairD} {B : BookD} {d : PairD} (h : LawK w wb ps ds B) (h' : LawAt B.V w' wb ps' (ds ++ [d])) (hd : ∀ k, d.F k → w.heap.size ≤ k) (hp : ∀ k, ps'.val.ownBlock = some k → ps.val.ownBlock = some k ∨ w.heap.size ≤ k)
  (hf : Frame (fun k => k = wb ∨ ps.val.ownBlock = some k) w w') : LawK w' wb ps' (ds ++ [d]) B := by
 have hno : ∀ k, B.F k → ¬ (k = wb ∨ ps.val.ownBlock = some k) := fun k hk e => by
  have hl := h.low k hk
  rcases e with e | e
  ·omega
  ·exact hl.2.1 e
 refine ⟨h', h.bk.frame hf (fun k hk => hno k (Or.inl hk)), h.bd.frame hf (fun k hk => hno k (Or.inr (Or.inl hk))), h.be.frame hf (fun k hk => hno k (Or.inr (Or.inr hk))), fun k hk => ?_, h.ap1, h.ap2⟩
 have hl := h.low k hk
 have hlt := h.lt k hk
 refine ⟨hl.1, fun e => ?_, fun x hx hF => ?_⟩
 ·rcases hp k e with e | e
  ·exact hl.2.1 e
  ·omega
 ·rcases List.mem_append.1 hx with hx | hx
  ·exact hl.2.2 x hx hF
  ·simp only [List.mem_singleton] at hx
   subst hx
   have := hd k hF
   omega
theorem LawK.step {w w' : World} {wb : Nat} {ps : SlR} {ds : List PairD} {B : BookD} (h : LawK w wb ps ds B) {i : Nat} {d : PairD} (hi : ds[i]? = some d) (hs : Stepped d w w') : ∃ ds', LawK w' wb ps ds' B ∧ ds'.length = ds.length := by
 obtain ⟨ds', h1, h2, h3⟩ := h.law.step hi hs
 obtain ⟨_, _, _, hf, _⟩ := hs
 have hd : d ∈ ds := List.mem_of_getElem? hi
 have hno : ∀ k, B.F k → ¬ d.F k := fun k hk e => (h.low k hk).2.2 d hd e
 refine ⟨ds', ⟨h1, h.bk.frame hf (fun k hk => hno k (Or.inl hk)), h.bd.frame hf (fun k hk => hno k (Or.inr (Or.inl hk))), h.be.frame hf (fun k hk => hno k (Or.inr (Or.inr hk))), fun k hk => ?_, h.ap1, h.ap2⟩, h2⟩
 have hl := h.low k hk
 have hlt := h.lt k hk
 refine ⟨hl.1, hl.2.1, fun x hx hF => ?_⟩
 rcases h3 x hx k hF with ⟨y, hy, hF'⟩ | hge
 ·exact hl.2.2 y hy hF'
 ·omega
end Go.Proofs.YtekegfbjbainhaaGreat


namespace Go.Proofs.YtekegfbjbainhaaGreat
open Go.RowKit
attribute [local go_sem ↓] Go.wp_at_zero Go.wp_at_succ
def BookD.Grew (B B' : BookD) (z : Nat) : Prop := ∀ k, B'.F k → k < z → B.F k
theorem chkR_small (root key proof : List UInt8) : ((chkR root key proof).2.getD []).length ≤ 12 := by
 unfold chkR
 split
 ·rcases rrd_key root key proof with ⟨h, _⟩ | ⟨es, _, _, _, h12, h⟩
  ·rw [h]; simp
  ·rw [h]
   simp only
   cases hf : es.find? (fun x => x.key == key) with
   | none => simp
   | some x => simpa using h12 x (List.mem_of_find?_eq_some hf)
 ·simp
set_option maxRecDepth 100000 in
set_option maxHeartbeats 4000000 in
theorem world_check (root : List UInt8) (s t : ByteArray) (wb : Nat) (ps : SlR) (ds : List PairD) (B : BookD) (w : World) (h : LawK w wb ps ds B) (hr : root.length = 8) (hs : s.size ≤ 140737488351232) (ht : t.size ≤ 1000000000) (hn : B.rs.length ≤ 1200000000000) :
  Calls Tryz.prog 11 #[.pointer (some ⟨wb, 0, none⟩), dV root, .string s, .string t] w fun e w' => e = .returned (.bool true) ∧ ∃ bs' r, LawK w' wb ps ds (B.addB bs' r) ∧ B.Grew (B.addB bs' r) w.heap.size ∧ Frame (fun k => k = wb ∨ B.F k) w w' := by
 obtain ⟨x0, x1, x2, x3, x4, x5, x6, x7, rfl⟩ := list8 root hr
 have ht' : t.size ≤ 140737488351232 := by omega
 have HCP : Hid (∀ (W : World) (sk sp : SlR), BS W sk s.data.toList → BS W sp t.data.toList → sp.n ≤ sp.cap → Calls Tryz.prog 15 #[dV [x0, x1, x2, x3, x4, x5, x6, x7], sk.val, sp.val] W (chkPP W (chkR [x0, x1, x2, x3, x4, x5, x6, x7] s.data.toList t.data.toList))) := fun W sk sp h1 h2 h3 => checkP_any sk sp _ _ _ W rfl h1 h2 h3 (by simp; unfold maxLen; omega) (by simpa using ht)
 have HCR : Hid (∀ (W : World) (sk sp : SlR), BS W sk s.data.toList → BS W sp t.data.toList → sp.n ≤ sp.cap → Calls Tryz.prog 17 #[dV [x0, x1, x2, x3, x4, x5, x6, x7], sk.val, sp.val] W (chkPost W (chkR [x0, x1, x2, x3, x4, x5, x6, x7] s.data.toList t.data.toList))) := fun W sk sp h1 h2 h3 => checkR_any sk sp _ _ _ W rfl h1 h2 h3 (by simp; unfold maxLen; omega)
 have HLQ : Hid (((chkR [x0, x1, x2, x3, x4, x5, x6, x7] s.data.toList t.data.toList).2.getD []).length ≤ 12) := chkR_small _ _ _
 generalize chkR [x0, x1, x2, x3, x4, x5, x6, x7] s.data.toList t.data.toList = q at *
 have HR0 : Hid (RowV (w.alloc (.cells #[.int .u8 (x0.toNat : Int), .int .u8 (x1.toNat : Int), .int .u8 (x2.toNat : Int), .int .u8 (x3.toNat : Int), .int .u8 (x4.toNat : Int), .int .u8 (x5.toNat : Int), .int .u8 (x6.toNat : Int), .int .u8 (x7.toNat : Int)] 36)) w.heap.size 36 [.int .u8 (x0.toNat : Int), .int .u8 (x1.toNat : Int), .int .u8 (x2.toNat : Int), .int .u8 (x3.toNat : Int), .int .u8 (x4.toNat : Int), .int .u8 (x5.toNat : Int), .int .u8 (x6.toNat : Int), .int .u8 (x7.toNat : Int)]) := RowV.new w _ _
 have HA : Hid (Below w.heap.size w (w.alloc (.cells #[.int .u8 (x0.toNat : Int), .int .u8 (x1.toNat : Int), .int .u8 (x2.toNat : Int), .int .u8 (x3.toNat : Int), .int .u8 (x4.toNat : Int), .int .u8 (x5.toNat : Int), .int .u8 (x6.toNat : Int), .int .u8 (x7.toNat : Int)] 36))) := (Below.refl _ _).alloc (Nat.le_refl _) _
 have HH : Hid (LawK w wb ps ds B) := h
 have HN : Hid (B.rs.length ≤ 1200000000000) := hn
 have hwb : wb < w.heap.size := RowV.lt h.law.row
 have hsI : (s.size : Int) ≤ 140737488351232 := by omega
 have htI : (t.size : Int) ≤ 1000000000 := by omega
 clear h hn hr
 unfold dV at HCP HCR ⊢
 unfold u8c at HCP HCR ⊢
 simp only [List.map_cons, List.map_nil] at HCP HCR ⊢
 generalize (x0.toNat : Int) = y0 at *
 generalize (x1.toNat : Int) = y1 at *
 generalize (x2.toNat : Int) = y2 at *
 generalize (x3.toNat : Int) = y3 at *
 generalize (x4.toNat : Int) = y4 at *
 generalize (x5.toNat : Int) = y5 at *
 generalize (x6.toNat : Int) = y6 at *
 generalize (x7.toNat : Int) = y7 at *
 go_enter Tryz.func11, Tryz.ntmps11
 go_wp2_with fail
 refine (lent_ok s _ _ hs).mono ?_
 rintro e w0 ⟨a, cap, rfl, hl0, hb0, hz0⟩
 have HR1 : Hid (RowV w0 w.heap.size 36 _) := RowV.below HR0.out (RowV.lt HR0.out) hb0
 simp only [World.size_alloc] at hb0 hz0 hl0
 have z0 := hb0.size
 simp only [World.size_alloc] at z0
 have HB0 : Hid (Below w.heap.size w w0) := HA.out.trans (hb0.mono (by omega))
 clear hb0
 go_wp2_with fail
 refine (lent_ok t _ _ ht').mono ?_
 rintro e w1 ⟨ta, tcap, rfl, hm1, hb1, hz1⟩
 have z1 := hb1.size
 have hl1 : LentAt w1 (w.heap.size + 1) s a cap := hl0.below hb1 (Nat.le_refl _)
 have HR2 : Hid (RowV w1 w.heap.size 36 _) := RowV.below HR1.out (RowV.lt HR1.out) hb1
 have HB1 : Hid (Below w.heap.size w w1) := HB0.out.trans (hb1.mono (by omega))
 have hcap : t.size ≤ tcap := by
  rcases hm1 with ⟨_, rfl, e⟩ | ⟨_, rfl, _⟩
  ·rw [e]; exact Nat.le_refl _
  ·omega
 have HC := HCP.out w1 ⟨a, s.size, cap⟩ ⟨ta, t.size, tcap⟩ hl1.bs hm1.bs hcap
 unfold SlR.val at HC
 have e0 : w1.cell? ⟨w.heap.size, 0, none⟩ = some (.int .u8 y0) := RowV.cell HR2.out 0 (by simp)
 have e1 : w1.cell? ⟨w.heap.size, 1, none⟩ = some (.int .u8 y1) := RowV.cell HR2.out 1 (by simp)
 have e2 : w1.cell? ⟨w.heap.size, 2, none⟩ = some (.int .u8 y2) := RowV.cell HR2.out 2 (by simp)
 have e3 : w1.cell? ⟨w.heap.size, 3, none⟩ = some (.int .u8 y3) := RowV.cell HR2.out 3 (by simp)
 have e4 : w1.cell? ⟨w.heap.size, 4, none⟩ = some (.int .u8 y4) := RowV.cell HR2.out 4 (by simp)
 have e5 : w1.cell? ⟨w.heap.size, 5, none⟩ = some (.int .u8 y5) := RowV.cell HR2.out 5 (by simp)
 have e6 : w1.cell? ⟨w.heap.size, 6, none⟩ = some (.int .u8 y6) := RowV.cell HR2.out 6 (by simp)
 have e7 : w1.cell? ⟨w.heap.size, 7, none⟩ = some (.int .u8 y7) := RowV.cell HR2.out 7 (by simp)
 have HC : Hid (Calls _ _ _ _ _) := HC
 have HL1 : Hid (LentAt w1 (w.heap.size + 1) s a cap) := hl1
 have HM1 : Hid (LentAt w1 w0.heap.size t ta tcap) := hm1
 have HZ1 : Hid (w.heap.size + 1 ≤ w0.heap.size ∧ w0.heap.size ≤ w1.heap.size) := ⟨by omega, by omega⟩
 have HLT0 : Hid (∀ k, a = some ⟨k, 0, none⟩ → k = w.heap.size + 1 ∧ k < w0.heap.size) := fun k hk => ⟨(hl0.lt hk).1, by have := hl0.lt hk; omega⟩
 have HLT1 : Hid (∀ k, ta = some ⟨k, 0, none⟩ → k = w0.heap.size ∧ k < w1.heap.size) := fun k hk => ⟨(hm1.lt hk).1, by have := hm1.lt hk; omega⟩
 clear hl1 hm1 hl0 hz0 hb1 hz1 hcap z0 z1 HCP HR0 HR1 HA
 go_wp2_with fail
 refine HC.out.mono ?_
 rintro e w2 ⟨v, rfl, hb2, ho2⟩
 unfold SlR.val
 have hb2w : Below w1.heap.size w1 (w2.alloc (.cells #[.bool q.2.isSome, .slice v.a v.n v.cap] 49)) := hb2.alloc hb2.size _
 have hl2 := HL1.out.below hb2w (Nat.le_refl _)
 have hm2 := HM1.out.below hb2w (Nat.le_refl _)
 have HR3 : Hid (RowV (w2.alloc (.cells #[.bool q.2.isSome, .slice v.a v.n v.cap] 49)) w.heap.size 36 _) := RowV.below HR2.out (RowV.lt HR2.out) hb2w
 have HAN : Hid (RowV (w2.alloc (.cells #[.bool q.2.isSome, .slice v.a v.n v.cap] 49)) w2.heap.size 49 [.bool q.2.isSome, .slice v.a v.n v.cap]) := RowV.new w2 _ _
 have HO2 : Hid (OwnB (w2.alloc (.cells #[.bool q.2.isSome, .slice v.a v.n v.cap] 49)) w1.heap.size (.slice v.a v.n v.cap) (q.2.getD [])) := owns_below ho2 ((Below.refl w2.heap.size _).alloc (Nat.le_refl _) _)
 have HB2 : Hid (Below w.heap.size w (w2.alloc (.cells #[.bool q.2.isSome, .slice v.a v.n v.cap] 49))) := HB1.out.trans (hb2w.mono HB1.out.size)
 have HZ2 : Hid (w1.heap.size ≤ w2.heap.size) := hb2.size
 clear hb2w hb2 ho2 e0 e1 e2 e3 e4 e5 e6 e7 HL1 HM1 HC HR2
 go_wp2_with fail
 refine (back_ok s a cap (w.heap.size + 1) _ hs hl2).mono ?_
 rintro e w3 ⟨rfl, hf3, hz3⟩
 simp only [World.size_alloc] at hz3
 have hza := HZ1.out
 have hzb := HZ2.out
 have HB3 : Hid (Below w.heap.size w w3) := HB2.out.trans (hf3.below HB2.out.size (fun k hk => by have := HLT0.out k hk; omega))
 have HO3 : Hid (OwnB w3 w1.heap.size (.slice v.a v.n v.cap) (q.2.getD [])) := owns_frame HO2.out hf3 (fun k hk e => by have h1 := (HO2.out.lt k hk).1; have h2 := HLT0.out k e; omega)
 have hm3 := hm2.frame hf3 (fun e => by have := HLT0.out _ e; omega)
 have HR4 : Hid (RowV w3 w.heap.size 36 _) := RowV.of_block HR3.out (hf3.block _ (RowV.lt HR3.out) (fun e => by have := HLT0.out _ e; omega))
 have HAN3 : Hid (RowV w3 w2.heap.size 49 _) := RowV.of_block HAN.out (hf3.block _ (RowV.lt HAN.out) (fun e => by have := HLT0.out _ e; omega))
 clear hf3 hl2 hm2 HO2 HR3 HAN HB2
 go_wp2_with fail
 refine (back_ok t ta tcap w0.heap.size _ ht' hm3).mono ?_
 rintro e w4 ⟨rfl, hf4, hz4⟩
 have HB4 : Hid (Below w.heap.size w w4) := HB3.out.trans (hf4.below HB3.out.size (fun k hk => by have := HLT1.out k hk; omega))
 have HO4 : Hid (OwnB w4 w1.heap.size (.slice v.a v.n v.cap) (q.2.getD [])) := owns_frame HO3.out hf4 (fun k hk e => by have h1 := (HO3.out.lt k hk).1; have h2 := HLT1.out k e; omega)
 have HR5 : Hid (RowV w4 w.heap.size 36 _) := RowV.of_block HR4.out (hf4.block _ (RowV.lt HR4.out) (fun e => by have := HLT1.out _ e; omega))
 have HAN4 : Hid (RowV w4 w2.heap.size 49 _) := RowV.of_block HAN3.out (hf4.block _ (RowV.lt HAN3.out) (fun e => by have := HLT1.out _ e; omega))
 have HZ4 : Hid (w4.heap.size = w2.heap.size + 1) := by unfold Hid; omega
 clear hf4 hm3 HO3 HR4 HAN3 HB3 hza hzb hz3 hz4
 have e0 : w4.cell? ⟨w.heap.size, 0, none⟩ = some (.int .u8 y0) := RowV.cell HR5.out 0 (by simp)
 have e1 : w4.cell? ⟨w.heap.size, 1, none⟩ = some (.int .u8 y1) := RowV.cell HR5.out 1 (by simp)
 have e2 : w4.cell? ⟨w.heap.size, 2, none⟩ = some (.int .u8 y2) := RowV.cell HR5.out 2 (by simp)
 have e3 : w4.cell? ⟨w.heap.size, 3, none⟩ = some (.int .u8 y3) := RowV.cell HR5.out 3 (by simp)
 have e4 : w4.cell? ⟨w.heap.size, 4, none⟩ = some (.int .u8 y4) := RowV.cell HR5.out 4 (by simp)
 have e5 : w4.cell? ⟨w.heap.size, 5, none⟩ = some (.int .u8 y5) := RowV.cell HR5.out 5 (by simp)
 have e6 : w4.cell? ⟨w.heap.size, 6, none⟩ = some (.int .u8 y6) := RowV.cell HR5.out 6 (by simp)
 have e7 : w4.cell? ⟨w.heap.size, 7, none⟩ = some (.int .u8 y7) := RowV.cell HR5.out 7 (by simp)
 have hcv := fun w => run_bytes_of_string (P := Tryz.prog) w 9 38 5 s Tryz.underlying9 Tryz.underlying38 Tryz.underlying5
 have hcu := fun w => run_bytes_of_string (P := Tryz.prog) w 9 38 5 t Tryz.underlying9 Tryz.underlying38 Tryz.underlying5
 have hwl : w.heap.size < w4.heap.size := RowV.lt HR5.out
 have HREF : Hid (∀ (W : World) (a' : Option Addr) (n' cap' : Nat) (a'' : Option Addr) (n'' cap'' : Nat), Below w4.heap.size w4 W → BS W ⟨a', n', cap'⟩ s.data.toList → BS W ⟨a'', n'', cap''⟩ t.data.toList → n'' ≤ cap'' → Calls Tryz.prog 17 #[.agg #[.int .u8 y0, .int .u8 y1, .int .u8 y2, .int .u8 y3, .int .u8 y4, .int .u8 y5, .int .u8 y6, .int .u8 y7], .slice a' n' cap', .slice a'' n'' cap''] W fun e w' => ∃ v' : SlR, e = .returned (.tuple #[.agg #[.bool q.2.isSome, .slice v'.a v'.n v'.cap], .int .i64 (q.1 : Int)]) ∧ Below w4.heap.size w4 w' ∧ BS w' v' (q.2.getD [])) := fun W a' n' cap' a'' n'' cap'' hb h1 h2 h3 => (HCR.out W ⟨a', n', cap'⟩ ⟨a'', n'', cap''⟩ h1 h2 h3).mono (by
  rintro e w' ⟨v', rfl, hb', hv'⟩
  exact ⟨v', rfl, hb.trans (hb'.mono hb.size), hv'⟩)
 go_wp2_with fail
 refine (HREF.out _ _ _ _ _ _ _ (by repeat' (first | (with_reducible exact Below.refl _ _) | (with_reducible refine Below.drew ?_) | (with_reducible refine Below.alloc ?_ ?_ _) | omega | (simp only [World.size_alloc, World.size_drew]; omega))) (by repeat' (first | (with_reducible refine bs_ofString _ _ _ _ _ _ ?_; simp) | (with_reducible refine BS.drew ?_) | (with_reducible refine bs_alloc ?_ _))) (by repeat' (first | (with_reducible refine bs_ofString _ _ _ _ _ _ ?_; simp) | (with_reducible refine BS.drew ?_) | (with_reducible refine bs_alloc ?_ _))) (grownCap_ge _ _ _ _)).mono ?_
 rintro e w5 ⟨v5, rfl, hb5, hv5⟩
 have hb5w : Below w4.heap.size w4 (w5.alloc (.cells #[.bool q.2.isSome, .slice v5.a v5.n v5.cap] 49)) := hb5.alloc hb5.size _
 have HAN5 := RowV.below HAN4.out (RowV.lt HAN4.out) hb5w
 have c0 : (w5.alloc (.cells #[.bool q.2.isSome, .slice v5.a v5.n v5.cap] 49)).cell? ⟨w2.heap.size, 0, none⟩ = some (.bool q.2.isSome) := RowV.cell HAN5 0 (by simp)
 have c1 : (w5.alloc (.cells #[.bool q.2.isSome, .slice v5.a v5.n v5.cap] 49)).cell? ⟨w2.heap.size, 1, none⟩ = some (.slice v.a v.n v.cap) := RowV.cell HAN5 1 (by simp)
 have ho5 : OwnB (w5.alloc (.cells #[.bool q.2.isSome, .slice v5.a v5.n v5.cap] 49)) w1.heap.size (.slice v.a v.n v.cap) (q.2.getD []) := owns_below HO4.out hb5w
 have hv5' : BS (w5.alloc (.cells #[.bool q.2.isSome, .slice v5.a v5.n v5.cap] 49)) v5 (q.2.getD []) := bs_alloc hv5 _
 obtain ⟨hs2, hn2, hnil2⟩ := OwnB.sl ho5
 have hc2 := run_string_SlB (P := Tryz.prog) (w5.alloc (.cells #[.bool q.2.isSome, .slice v5.a v5.n v5.cap] 49)) 38 9 5 v.a v.n v.cap _ Tryz.underlying38 Tryz.underlying5 Tryz.underlying9 hn2 hs2 hnil2
 have hc5 := run_string_SlB (P := Tryz.prog) (w5.alloc (.cells #[.bool q.2.isSome, .slice v5.a v5.n v5.cap] 49)) 38 9 5 v5.a v5.n v5.cap _ Tryz.underlying38 Tryz.underlying5 Tryz.underlying9 hv5'.n hv5'.sl hv5'.nil
 have HBC : Hid (Below w.heap.size w (w5.alloc (.cells #[.bool q.2.isSome, .slice v5.a v5.n v5.cap] 49))) := HB4.out.trans (hb5w.mono HB4.out.size)
 have HV : Hid (∀ k, (Value.slice v.a v.n v.cap).ownBlock = some k → w.heap.size ≤ k) := fun k hk => by have h1 := (ho5.lt k hk).1; have := HZ1.out; omega
 have hlen : (q.2.getD []).length ≤ 100000000000000 := Nat.le_trans HLQ.out (by omega)
 have hz15 : w1.heap.size ≤ (w5.alloc (.cells #[.bool q.2.isSome, .slice v5.a v5.n v5.cap] 49)).heap.size := by
  have h1 := hb5w.size
  have h2 := HZ4.out
  have h3 := HZ2.out
  omega
 have HBB : Hid (∀ W, Below (w5.alloc (.cells #[.bool q.2.isSome, .slice v5.a v5.n v5.cap] 49)).heap.size (w5.alloc (.cells #[.bool q.2.isSome, .slice v5.a v5.n v5.cap] 49)) W → Calls Tryz.prog 18 #[.pointer (some ⟨wb, 1, none⟩), .slice v.a v.n v.cap] W fun e w' => e = .returned (.tuple #[]) ∧ (∃ bs' r, LawK w' wb ps ds (B.addB bs' r) ∧ B.Grew (B.addB bs' r) w.heap.size ∧ Frame (fun k => k = wb ∨ B.F k) w w') ∧ w'.cell? ⟨w2.heap.size, 1, none⟩ = some (.slice v.a v.n v.cap)) := fun W hb => by
  have hbW := HBC.out.trans (hb.mono HBC.out.size)
  have hHc := HH.out.below hbW
  refine (book_byte wb ps B.bs B.dg B.es v B.rs (q.2.getD []) w1.heap.size W hHc.row hHc.bk (owns_below ho5 hb) hlen HN.out (Nat.le_trans hz15 hb.size) (fun k hk => ⟨by have := HV.out k hk; omega, fun e => by have := HV.out k hk; have := HH.out.bk.lt k e; omega⟩) (fun k hk => by have := (HH.out.low k (Or.inl hk)).1; omega)).mono ?_
  rintro e w' ⟨rfl, bs', r, g1, g2, g3, g4⟩
  have hanW := RowV.below HAN5 (RowV.lt HAN5) hb
  have hz2 := HB1.out.size
  have hz3 := HZ2.out
  have hgr : B.Grew (B.addB bs' r) w.heap.size := fun k hk hlt => by
   rcases hk with hk | hk
   ·rcases g4 k hk (Nat.lt_of_lt_of_le hlt hbW.size) with e | e
    ·exact Or.inl e
    ·have := HV.out k e; omega
   ·exact Or.inr hk
  refine ⟨rfl, ⟨bs', r, LawK.moreB (v := v) HH.out hbW HV.out g1 g2 g3 g4, hgr, ?_⟩, RowV.cell (RowV.of_block hanW (g3.block _ (RowV.lt hanW) (fun e => by
   rcases e with e | e | e
   ·omega
   ·exact owns_ne (owns_below ho5 hb) hanW (by decide) e
   ·have := (HH.out.bk.own.lt _ e).2; omega))) 1 (by simp)⟩
  exact Frame.inside (Frame.of_below_all hbW) g3 (fun k hlt hk => by
   rcases hk with e | e | e
   ·exact Or.inl e
   ·have := HV.out k e; omega
   ·exact Or.inr (Or.inl (Or.inl e)))
 clear hs2 hn2 hnil2 ho5 hv5' hv5 hlen hb5w HAN5 HREF hcv hcu HCR HO4 hb5 hz15 e0 e1 e2 e3 e4 e5 e6 e7 HR5 HAN4
 generalize q.2.getD [] = L at *
 generalize q.2.isSome = fnd at *
 go_wp2_with fail
 go_region_held3 (fun W => W.cell? ⟨w2.heap.size, 1, none⟩ = some (.slice v.a v.n v.cap)) (go_keep)
  ((go_at_call 18; refine (HBB.out _ (by repeat' (first | (with_reducible exact Below.refl _ _) | (with_reducible refine Below.drew ?_)))).mono ?_; rintro e w6 ⟨rfl, ⟨bs', r, g1, gg, g2⟩, g3⟩))
 all_goals
  have G1 : Hid _ := g1
  have GG : Hid _ := gg
  clear g1 gg
  go_wp2
  go_ret
  exact ⟨rfl, bs', r, G1.out, GG.out, g2⟩
end Go.Proofs.YtekegfbjbainhaaGreat
