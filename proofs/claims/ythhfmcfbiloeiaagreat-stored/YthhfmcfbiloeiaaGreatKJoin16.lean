import Derived.Test.YthhfmcfbiloeiaaGreatKJoin15
import Derived.Test.YthhfmcfbiloeiaaGreatKLaw2
/- Which store a step is of. -/
namespace Go.Proofs.YthhfmcfbiloeiaaGreat
set_option linter.unusedVariables false
set_option linter.unusedSimpArgs false
open Go.RowKit

theorem tmod_nat (y n : Nat) : Int.tmod (y : Int) (n : Int) = ((y % n : Nat) : Int) := by
  rw [Int.tmod_eq_emod_of_nonneg (by omega)]; simp

def pickN (x : Int) (n : Nat) : Nat := (if x < 0 then (-(x + 1)).toNat else x.toNat) % n
theorem pickN_lt (x : Int) (n : Nat) (h : 1 ≤ n) : pickN x n < n := Nat.mod_lt _ (by omega)

set_option maxRecDepth 100000 in
theorem pick_any (x : Int) (n : Nat) (w : World) (h1 : -9223372036854775808 ≤ x) (h2 : x ≤ 9223372036854775807) (hn : 1 ≤ n) (hm : n ≤ maxLen) :
    Calls Tryz.prog 18 #[.int .i64 x, .int .i64 (n : Int)] w fun e w' => e = .returned (.int .i64 (pickN x n : Int)) ∧ w' = w := by
  unfold maxLen at hm
  have hn0 : ((n : Int) == 0) = false := by simp; omega
  have hn1 : ((n : Int) == -1) = false := by simp
  by_cases hx : x < 0
  · have e1 : IntKind.i64.wrap (x + 1) = x + 1 := by simp only [IntKind.wrap_i64]; omega
    have e2 : IntKind.i64.wrap (-(x + 1)) = -(x + 1) := by simp only [IntKind.wrap_i64]; omega
    have HI : Hid (Int.tmod (-(x + 1)) n = (pickN x n : Int)) := by
      unfold Hid pickN
      rw [if_pos hx]
      obtain ⟨y, hy⟩ : ∃ y : Nat, -(x + 1) = (y : Int) := ⟨(-(x + 1)).toNat, by omega⟩
      rw [hy]; exact tmod_nat y n
    go_enter Tryz.func18, Tryz.ntmps18
    go_wp2
    go_ret
    refine ⟨?_, rfl⟩
    rw [← HI.out]
    simp [Int.neg_tmod]
  · obtain ⟨y, rfl⟩ : ∃ y : Nat, x = (y : Int) := ⟨x.toNat, by omega⟩
    have HI : Hid ((pickN (y : Int) n : Int) = ((y % n : Nat) : Int)) := by
      unfold Hid pickN
      rw [if_neg hx]; simp
    go_enter Tryz.func18, Tryz.ntmps18
    go_wp2
    go_ret
    refine ⟨?_, rfl⟩
    rw [HI.out]
    simp

set_option maxRecDepth 100000 in
set_option maxHeartbeats 1000000 in
theorem step_store (cs : List Value) (wb : Nat) (ps : SlR) (ds : List PairD) (w : World) (h : LawAt w wb ps ds) (hlen : cs.length = 24) (k0 : cs[0]? = some (.int .i64 2)) (hn : ds.length + 1 ≤ 17592186044416) :
    Calls Tryz.prog 10 #[.pointer (some ⟨wb, 0, none⟩), .agg cs.toArray] w fun e w' => e = .returned (.bool true) ∧ (∃ ps' d, LawAt w' wb ps' (ds ++ [d])) ∧ Frame (fun k => k = wb ∨ ps.val.ownBlock = some k) w w' := by
  obtain ⟨d, hd1, hd2⟩ := Tryz.rowOp
  have hsz : Hid ((Tryz.prog.info? 43).map (·.size) = some cs.length) := by rw [hlen]; exact Tryz.sizeOp
  have HD : Hid (Tryz.prog.underlying 43 = some d) := hd1
  have HD2 : Hid (d.isRow = true) := hd2
  have HL : Hid (cs.length = 24) := hlen
  have hb : Below w.heap.size w (w.alloc (.cells cs.toArray 43)) := (Below.refl _ _).alloc (Nat.le_refl _) _
  have HF : Hid (Calls _ _ _ _ _) := free_store cs wb ps ds _ (h.below hb) k0 hn
  clear hd1 hd2 hlen
  go_enter Tryz.func10, Tryz.ntmps10
  go_wp2_with (refine wpList_load_mid (by rfl) 43 (.tmp 3) (by rfl) w.heap.size 0 (by rfl) cs d (rangeAt_new w cs 43) HD.out HD2.out hsz.out ?_)
  refine HF.out.mono ?_
  rintro e w1 ⟨rfl, h1, h2⟩
  go_wp2
  go_ret
  exact ⟨rfl, h1, Frame.into (Frame.of_below_all hb) h2 (fun k _ e => e)⟩

set_option maxRecDepth 100000 in
set_option maxHeartbeats 1000000 in
theorem step_none (cs : List Value) (kk : Int) (wb : Nat) (ps : SlR) (w : World) (h : LawAt w wb ps []) (k0 : cs[0]? = some (.int .i64 kk)) (hk : kk = 3 ∨ kk = 4 ∨ kk = 5) :
    Calls Tryz.prog 10 #[.pointer (some ⟨wb, 0, none⟩), .agg cs.toArray] w fun e w' => e = .returned (.bool true) ∧ Below w.heap.size w w' := by
  have hwb : wb < w.heap.size := RowV.lt h.row
  have hpn : ps.n = 0 := (owns_cap (a := ps.a) (n' := ps.n) (cap := ps.cap) h.own).1
  have r0 : w.cell? ⟨wb, 0, none⟩ = some (.slice ps.a 0 ps.cap) := by
    have : w.cell? ⟨wb, 0, none⟩ = some (.slice ps.a ps.n ps.cap) := RowV.cell h.row 0 (by simp)
    rw [hpn] at this; exact this
  clear hpn h
  have HB : Hid (Below w.heap.size w (w.alloc (.cells cs.toArray 43))) := (Below.refl _ _).alloc (Nat.le_refl _) _
  rcases hk with rfl | rfl | rfl
  all_goals
    go_enter Tryz.func10, Tryz.ntmps10
    go_wp2
    go_ret
    exact ⟨rfl, HB.out⟩

set_option maxRecDepth 100000 in
set_option maxHeartbeats 1000000 in
theorem step_pair (cs : List Value) (kk oa : Int) (wb : Nat) (ps : SlR) (ds : List PairD) (w : World) (h : LawAt w wb ps ds) (hlen : cs.length = 24) (k0 : cs[0]? = some (.int .i64 kk)) (hk : kk = 3 ∨ kk = 4 ∨ kk = 5) (k1 : cs[1]? = some (.int .i64 oa)) (ha1 : -9223372036854775808 ≤ oa) (ha2 : oa ≤ 9223372036854775807) (hn : 1 ≤ ds.length)
    (hst : ∀ (W : World) (d : PairD), PairOk W d → Calls Tryz.prog 19 #[.pointer (some ⟨wb, 0, none⟩), .agg cs.toArray, .pointer (some ⟨d.pb, 0, none⟩)] W fun e w' => e = .returned (.bool true) ∧ Stepped d W w') :
    Calls Tryz.prog 10 #[.pointer (some ⟨wb, 0, none⟩), .agg cs.toArray] w fun e w' => e = .returned (.bool true) ∧ ∃ (W : World) (d : PairD), d ∈ ds ∧ Below w.heap.size w W ∧ Stepped d W w' ∧ ∃ i : Nat, ds[i]? = some d := by
  obtain ⟨d, hd1, hd2⟩ := Tryz.rowOp
  have hsz : Hid ((Tryz.prog.info? 43).map (·.size) = some cs.length) := by rw [hlen]; exact Tryz.sizeOp
  have HD : Hid (Tryz.prog.underlying 43 = some d) := hd1
  have HD2 : Hid (d.isRow = true) := hd2
  have HL : Hid (cs.length = 24) := hlen
  have HB : Hid (Below w.heap.size w (w.alloc (.cells cs.toArray 43))) := (Below.refl _ _).alloc (Nat.le_refl _) _
  have hwb : wb < w.heap.size := RowV.lt h.row
  have r0 : w.cell? ⟨wb, 0, none⟩ = some (.slice ps.a ps.n ps.cap) := RowV.cell h.row 0 (by simp)
  obtain ⟨hpn, hpc, hpm, hpa⟩ := owns_cap (a := ps.a) (n' := ps.n) (cap := ps.cap) h.own
  obtain ⟨g, hg, hglt⟩ : ∃ g, ps.a = some ⟨g, 0, none⟩ ∧ g < w.heap.size := by
    rcases hpa with ⟨_, h0, _⟩ | ⟨g, hg, _, hlt⟩
    · omega
    · exact ⟨g, hg, hlt⟩
  rw [hg] at r0
  have hpm' : ps.n ≤ maxLen := by omega
  obtain ⟨dd, hdd, hcd⟩ : ∃ d, ds[pickN oa ps.n]? = some d ∧ w.cell? ⟨g, pickN oa ps.n, none⟩ = some (.pointer (some ⟨d.pb, 0, none⟩)) := by
    have hi' : pickN oa ps.n < ds.length := by have := pickN_lt oa ps.n (by omega); omega
    refine ⟨ds[pickN oa ps.n], List.getElem?_eq_getElem hi', ?_⟩
    have hsl : SlV w ps.a (ds.map (fun d => ptrV d.pb)) := (SlV.ofOwn h.own).1
    obtain ⟨b, o, e, _, hc⟩ := hsl (pickN oa ps.n) (by simpa using hi')
    rw [hg] at e; cases e
    rw [Nat.zero_add] at hc
    rw [hc]; simp [ptrV]
  have HDD : Hid (ds[pickN oa ps.n]? = some dd) := hdd
  have hiI : (pickN oa ps.n : Int) < ps.n := by have := pickN_lt oa ps.n (by omega); omega
  have HPK : Hid (∀ W, Calls Tryz.prog 18 #[.int .i64 oa, .int .i64 (ps.n : Int)] W fun e w' => e = .returned (.int .i64 (pickN oa ps.n : Int)) ∧ w' = W) := fun W => pick_any oa ps.n W ha1 ha2 (by omega) hpm'
  generalize pickN oa ps.n = i at *
  have hn1 : 1 ≤ ps.n := by omega
  have hpmI : (ps.n : Int) ≤ 9223372036854775807 := by unfold maxLen at hpm; omega
  have hn0 : ((ps.n : Int) == 0) = false := by simp; omega
  have HOK : Hid (∀ d ∈ ds, PairOk w d) := h.ok
  have HST : Hid (∀ (W : World) (d : PairD), PairOk W d → _) := hst
  clear hd1 hd2 hlen hpn hpc hpm hpa hst hn hdd hpm'
  rcases hk with rfl | rfl | rfl
  all_goals
    go_enter Tryz.func10, Tryz.ntmps10
    go_wp2
    go_quiet (first | (go_at_call 18; exact Calls.quiet_of_same (HPK.out _)))
    have HBq : Hid (Below w.heap.size w ((w.alloc (.cells cs.toArray 43)).drewN nq)) := by
      have hb := HB.out
      exact ⟨hb.os, hb.tape, hb.output, hb.size, hb.block⟩
    go_wp2_with (refine wpList_load_mid (by rfl) 43 (.tmp 3) (by rfl) w.heap.size 0 (by rfl) cs d (by exact rangeAt_new w cs 43) HD.out HD2.out hsz.out ?_)
    refine (HST.out _ dd ((HOK.out dd (List.mem_of_getElem? HDD.out)).frame (Frame.of_below_all (S := fun _ => False) HBq.out) (fun _ _ e => e))).mono ?_
    rintro e w1 ⟨rfl, hs1⟩
    go_wp2
    go_ret
    exact ⟨rfl, _, dd, List.mem_of_getElem? HDD.out, HBq.out, hs1, i, HDD.out⟩
end Go.Proofs.YthhfmcfbiloeiaaGreat

/- The whole script, with what stands counted by the steps. -/
namespace Go.Proofs.YthhfmcfbiloeiaaGreat
set_option linter.unusedVariables false
set_option linter.unusedSimpArgs false
open Go.RowKit

set_option maxRecDepth 100000 in
set_option maxHeartbeats 800000 in
/-- THE DRIVER: whatever invariant each step and each look keeps, the whole script keeps it, and answers true. -/
theorem plays_n (a : Option Addr) (n cap kb : Nat) (k0 : Int) (ks : List Int) (f : Nat → OpR) (w : World) (Inv : Nat → World → Prop) (Ok : OpR → Prop) (hn : n ≤ maxLen) (hs : ScriptAt w a n f) (hok : ∀ i, i < n → Ok (f i))
    (hkb : kb < w.heap.size) (hkl : (k0 :: ks).length ≤ maxLen) (hk : KindsAt w kb (k0 :: ks))
    (hI0 : Inv 0 (w.alloc (.cells #[.slice none 0 0, .slice none 0 0, .slice none 0 0, .slice none 0 0] 34)))
    (hIB : ∀ q wr, Inv q wr → Below w.heap.size w wr) (hId : ∀ q wr m, Inv q wr → Inv q (wr.drewN m)) (hIm : ∀ q wr, Inv q wr → Inv (q + 1) wr)
    (hstep0 : ∀ wr, Inv 0 wr → Calls Tryz.prog 10 #[.pointer (some ⟨w.heap.size, 0, none⟩), .agg #[.int .i64 k0, .int .i64 0, .int .i64 0, .int .i64 0, .string ⟨#[99, 97, 105, 114, 110]⟩, .string ⟨#[]⟩, .string ⟨#[]⟩, .int .u8 0, .int .u8 0, .int .u8 0, .int .u8 0, .int .u8 0, .int .u8 0, .int .u8 0, .int .u8 0,
      .int .u8 0, .int .u8 0, .int .u8 0, .int .u8 0, .int .u8 0, .int .u8 0, .int .u8 0, .int .u8 0, .slice none 0 0]] wr fun e w' => e = .returned (.bool true) ∧ Inv 1 w')
    (hstep : ∀ q wr o, q ≤ n → Inv q wr → Ok o → o.kind ∈ k0 :: ks → o.s.size ≤ 140737488351232 → o.t.size ≤ 140737488351232 → o.u.size ≤ 140737488351232 →
      Calls Tryz.prog 10 #[.pointer (some ⟨w.heap.size, 0, none⟩), .agg o.cells.toArray] wr fun e w' => e = .returned (.bool true) ∧ Inv (q + 1) w')
    (hlooks : ∀ q wr, Inv q wr → Calls Tryz.prog 11 #[.pointer (some ⟨w.heap.size, 1, none⟩)] wr fun e w' => e = .returned (.bool true) ∧ Inv q w') :
    Calls Tryz.prog 7 #[.slice a n cap, .slice (some ⟨kb, 0, none⟩) (k0 :: ks).length (k0 :: ks).length] w fun e w' => e = .returned (.bool true) ∧ ∃ q, Inv q w' := by
  have H0 : Hid (∀ wr, Inv 0 wr → _) := hstep0
  have H1 : Hid (∀ q wr o, q ≤ n → Inv q wr → _) := hstep
  have H2 : Hid (∀ q wr, Inv q wr → _) := hlooks
  have HB : Hid (∀ q wr, Inv q wr → _) := hIB
  have HD : Hid (∀ q wr m, Inv q wr → _) := hId
  have HM0 : Hid (∀ q wr, Inv q wr → Inv (q + 1) wr) := hIm
  clear hstep0 hstep hlooks hIB hId hIm
  have hkc := hk 0 (by simp)
  have HK : Hid (KindsAt w kb (k0 :: ks)) := hk
  have HKL : Hid ((k0 :: ks).length ≤ maxLen) := hkl
  simp only [List.getElem_cons_zero] at hkc
  unfold maxLen at hn hkl
  have hkl1 : (1 : Int) ≤ ((k0 :: ks).length : Int) := by simp; omega
  generalize hL : (k0 :: ks) = L at *
  have HL : Hid (k0 :: ks = L) := hL
  clear hL hk
  go_enter Tryz.func7, Tryz.ntmps7
  go_wp2_with fail
  refine (H0.out _ hI0).mono ?_
  rintro e w1 ⟨rfl, hI1⟩
  go_wp2
  go_loopw [6, 7, 8, 9] (fun ok i _ _ wr => ∃ k : Nat, k ≤ n ∧ i = .int .i64 k ∧ ok = .bool true ∧ Inv (k + 1) wr) (fun _ i _ _ _ => n - (intOf i).toNat)
  case atStart => exact ⟨0, by omega, by simp, by simp, hI1⟩
  case round =>
    obtain ⟨k, hkn, rfl, rfl, hI⟩ := hrel
    by_cases hlt : k < n
    · obtain ⟨b, o, rfl, hb, hr, hs1, hs2, hs3⟩ := hs k hlt
      have hB := HB.out _ _ hI
      have hr2 : wr.rangeAt b (o + k * 24) (f k).cells := fun j v hv => by rw [hB.cell (p := ⟨b, o + k * 24 + j, none⟩) hb]; exact hr j v hv
      have kc := hr2 0 (.int .i64 (f k).kind) rfl
      rw [Nat.add_zero] at kc
      have HR : Hid (wr.rangeAt b (o + k * 24) (f k).cells) := hr2
      clear hr2
      go_wp2
      go_loopw [8, 9] (fun inn j w' => ∃ (q m : Nat), q ≤ L.length ∧ j = .int .i64 q ∧ inn = .bool ((L.take q).any (fun y => (f k).kind == y)) ∧ w' = wr.drewN m) (fun _ j _ => L.length - (intOf j).toNat)
      case atStart => exact ⟨0, 0, by omega, by simp, by simp, rfl⟩
      case round =>
        obtain ⟨q, m, hq, rfl, rfl, rfl⟩ := hrel
        by_cases hqlt : q < L.length
        · have hkq : wr.cell? ⟨kb, q, none⟩ = some (.int .i64 L[q]) := by rw [hB.cell (p := ⟨kb, q, none⟩) hkb]; exact HK.out q hqlt
          have HS : Hid (_ = _) := any_snoc L q hqlt (f k).kind
          generalize (L.take q).any (fun y => (f k).kind == y) = inn at *
          cases inn
          · go_wp2
            go_quiet (fail)
            go_wp2
            refine ⟨⟨q + 1, m + nq, by omega, by go_num, by rw [HS.out, Bool.false_or], rfl⟩, by simp [intOf]; omega⟩
          · go_wp2
            go_quiet (fail)
            go_wp2
            refine ⟨⟨q + 1, m + nq, by omega, by go_num, by rw [HS.out, Bool.true_or], rfl⟩, by simp [intOf]; omega⟩
        · have HE : Hid ((L.take q).any (fun y => (f k).kind == y) = L.any (fun y => (f k).kind == y)) := by
            unfold Hid; rw [List.take_of_length_le (by omega)]
          rw [HE.out]
          have hID := HD.out _ _ m hI
          have HM : Hid (L.any (fun y => (f k).kind == y) = true → (f k).kind ∈ L) := fun h => by
            obtain ⟨y, hy, he⟩ := List.any_eq_true.1 h
            rw [beq_iff_eq] at he
            rw [he]; exact hy
          generalize hany : L.any (fun y => (f k).kind == y) = bin at *
          have HA : Hid (L.any (fun y => (f k).kind == y) = bin) := hany
          clear hany
          cases bin
          · go_wp2
            refine ⟨⟨k + 1, by omega, by go_num, by simp, HM0.out _ _ hID⟩, by simp [intOf]; omega⟩
          · obtain ⟨d, hd1, hd2⟩ := Tryz.rowOp
            have hmem : Hid ((f k).kind ∈ L) := HM.out rfl
            clear HM
            have hsz : Hid ((Tryz.prog.info? 43).map (·.size) = some (f k).cells.length) := Tryz.sizeOp
            have HD1 : Hid (Tryz.prog.underlying 43 = some d) := hd1
            have HD2 : Hid (d.isRow = true) := hd2
            clear hd1 hd2
            go_wp2_with (refine wpList_load_mid (by rfl) 43 (.tmp 50) (by rfl) b (o + k * 24) (by rfl) (f k).cells d (by exact HR.out) HD1.out HD2.out hsz.out ?_)
            refine (H1.out _ _ (f k) (by omega) hID (hok k hlt) hmem.out hs1 hs2 hs3).mono ?_
            rintro e w2 ⟨rfl, hI2⟩
            go_wp2_with fail
            refine (H2.out _ _ hI2).mono ?_
            rintro e w3 ⟨rfl, hI3⟩
            go_wp2
            refine ⟨⟨k + 1, by omega, by go_num, by simp, hI3⟩, by simp [intOf]; omega⟩
    · go_wp2
      go_ret
      exact ⟨rfl, _, hI⟩

end Go.Proofs.YthhfmcfbiloeiaaGreat

/- The script of New, Put, Delete and Commit, whole. -/
namespace Go.Proofs.YthhfmcfbiloeiaaGreat
set_option linter.unusedVariables false
set_option linter.unusedSimpArgs false
open Go.RowKit

/-- What stands behind at most q steps. -/
def lawInv (w : World) (q : Nat) (wr : World) : Prop := Below w.heap.size w wr ∧ ∃ ps ds, LawAt wr w.heap.size ps ds ∧ ds.length ≤ q
theorem lawInv_start (w : World) : lawInv w 0 (w.alloc (.cells #[.slice none 0 0, .slice none 0 0, .slice none 0 0, .slice none 0 0] 34)) :=
  ⟨(Below.refl _ _).alloc (Nat.le_refl _) _, ⟨none, 0, 0⟩, [], ⟨RowV.new w _ _, World.ownsRow_nil _ _ _ _, fun d hd => (by cases hd), fun d hd => (by cases hd), fun k hk => (by cases hk), fun i j d e _ h => (by simp at h)⟩, Nat.le_refl _⟩
theorem lawInv.mono {w wr : World} {q : Nat} (h : lawInv w q wr) : lawInv w (q + 1) wr := by
  obtain ⟨h1, ps, ds, h2, h3⟩ := h
  exact ⟨h1, ps, ds, h2, by omega⟩
theorem lawInv.drew {w wr : World} {q : Nat} (m : Nat) (h : lawInv w q wr) : lawInv w q (wr.drewN m) := by
  obtain ⟨h1, ps, ds, h2, h3⟩ := h
  have hb := Below.refl wr.heap.size wr
  exact ⟨⟨h1.os, h1.tape, h1.output, h1.size, h1.block⟩, ps, ds, h2.below ⟨hb.os, hb.tape, hb.output, hb.size, hb.block⟩, h3⟩

/-- What the three kinds of steps on a store promise. -/
def StoredOk (cs : List Value) : Prop := ∀ (p : Value) (W : World) (d : PairD), PairOk W d → Calls Tryz.prog 19 #[p, .agg cs.toArray, .pointer (some ⟨d.pb, 0, none⟩)] W fun e w' => e = .returned (.bool true) ∧ Stepped d W w'

theorem lawInv_new (w wr : World) (q : Nat) (cs : List Value) (hI : lawInv w q wr) (hlen : cs.length = 24) (k0 : cs[0]? = some (.int .i64 2)) (hq : q + 1 ≤ 17592186044416) :
    Calls Tryz.prog 10 #[.pointer (some ⟨w.heap.size, 0, none⟩), .agg cs.toArray] wr fun e w' => e = .returned (.bool true) ∧ lawInv w (q + 1) w' := by
  obtain ⟨h1, ps, ds, h2, h3⟩ := hI
  refine (step_store cs w.heap.size ps ds wr h2 hlen k0 (by omega)).mono ?_
  rintro e w' ⟨rfl, ⟨ps', d, h4⟩, hf⟩
  refine ⟨rfl, h1.trans (hf.below h1.size (fun k hk => ?_)), ps', _, h4, by simp; omega⟩
  rcases hk with rfl | hk
  · exact Nat.le_refl _
  · exact Nat.le_of_lt (h2.psb k hk)
theorem lawInv_old (w wr : World) (q : Nat) (cs : List Value) (kk oa : Int) (hI : lawInv w q wr) (hlen : cs.length = 24) (k0 : cs[0]? = some (.int .i64 kk)) (hk : kk = 3 ∨ kk = 4 ∨ kk = 5) (k1 : cs[1]? = some (.int .i64 oa)) (ha1 : -9223372036854775808 ≤ oa) (ha2 : oa ≤ 9223372036854775807) (hst : StoredOk cs) :
    Calls Tryz.prog 10 #[.pointer (some ⟨w.heap.size, 0, none⟩), .agg cs.toArray] wr fun e w' => e = .returned (.bool true) ∧ lawInv w (q + 1) w' := by
  obtain ⟨h1, ps, ds, h2, h3⟩ := hI
  by_cases hn : ds.length = 0
  · have hnil : ds = [] := List.length_eq_zero_iff.1 hn
    subst hnil
    refine (step_none cs kk w.heap.size ps wr h2 k0 hk).mono ?_
    rintro e w' ⟨rfl, hb⟩
    exact ⟨rfl, h1.trans (hb.mono h1.size), ps, [], h2.below hb, by omega⟩
  · refine (step_pair cs kk oa w.heap.size ps ds wr h2 hlen k0 hk k1 ha1 ha2 (by omega) (fun W d => hst _ W d)).mono ?_
    rintro e w' ⟨rfl, W, d, hd, hb, hs, i, hi⟩
    obtain ⟨ds', h4, h5⟩ := (h2.below hb).step hi hs
    obtain ⟨_, _, _, hf, _⟩ := hs
    refine ⟨rfl, (h1.trans (hb.mono h1.size)).trans (hf.below (Nat.le_trans h1.size hb.size) (fun k hk => Nat.le_of_lt (h2.low d hd k hk).1)), ps, ds', h4, by omega⟩

set_option maxRecDepth 100000 in
set_option maxHeartbeats 800000 in
theorem stored_law (a : Option Addr) (n cap : Nat) (f : Nat → OpR) (w : World) (hn : n ≤ 17592186044415) (hs : ScriptAt w a n f) (ho : ∀ i, i < n → -9223372036854775808 ≤ (f i).a ∧ (f i).a ≤ 9223372036854775807)
    (hst : ∀ o : OpR, (o.kind = 3 ∨ o.kind = 4 ∨ o.kind = 5) → o.s.size ≤ 140737488351232 → o.t.size ≤ 140737488351232 → StoredOk o.cells) :
    Calls Tryz.prog 4 #[.slice a n cap] w fun e w' => e = .returned (.bool true) ∧ Below w.heap.size w w' := by
  have HN : Hid (n ≤ 17592186044415) := hn
  clear hn
  go_enter Tryz.func4, Tryz.ntmps4
  go_wp2_with fail
  have hs' : ScriptAt (w.alloc (Obj.cells #[Value.int IntKind.i64 2, Value.int IntKind.i64 3, Value.int IntKind.i64 4, Value.int IntKind.i64 5] 3)) a n f := fun i hi => by
    obtain ⟨b, o, ha, hb, hr, h1, h2, h3⟩ := hs i hi
    exact ⟨b, o, ha, by simp; omega, fun j v hv => by rw [World.cell?_alloc_lt _ _ _ (by exact hb)]; exact hr j v hv, h1, h2, h3⟩
  refine (plays_n a n cap w.heap.size 2 [3, 4, 5] f (w.alloc (Obj.cells #[Value.int IntKind.i64 2, Value.int IntKind.i64 3, Value.int IntKind.i64 4, Value.int IntKind.i64 5] 3)) (lawInv (w.alloc (Obj.cells #[Value.int IntKind.i64 2, Value.int IntKind.i64 3, Value.int IntKind.i64 4, Value.int IntKind.i64 5] 3)))
    (fun o => -9223372036854775808 ≤ o.a ∧ o.a ≤ 9223372036854775807) (by have := HN.out; unfold maxLen; omega) hs' ho (by simp) (by simp [maxLen])
    (fun j hj => by
      have hj4 : j < 4 := by simpa using hj
      match j, hj4 with
      | 0, _ => simp [go_sem]
      | 1, _ => simp [go_sem]
      | 2, _ => simp [go_sem]
      | 3, _ => simp [go_sem]) (lawInv_start _) (fun q wr h => h.1) (fun q wr m h => h.drew m) (fun q wr h => h.mono) ?_ ?_ ?_).mono ?_
  · intro wr hI
    exact lawInv_new _ wr 0 _ hI rfl rfl (by omega)
  · intro q wr o hq hI hoo hk h1 h2 _
    have hk' : o.kind = 2 ∨ o.kind = 3 ∨ o.kind = 4 ∨ o.kind = 5 := by simpa using hk
    rcases hk' with hk' | hk'
    · exact lawInv_new _ wr q o.cells hI rfl (by rw [← hk']; rfl) (by have := HN.out; omega)
    · exact lawInv_old _ wr q o.cells o.kind o.a hI rfl rfl hk' rfl hoo.1 hoo.2 (hst o hk' h1 h2)
  · intro q wr hI
    obtain ⟨h1, ps, ds, h2, h3⟩ := hI
    refine (looks_nil _ 1 wr (h2.row.cell 1 (by simp)) (h2.row.cell 2 (by simp)) (h2.row.cell 3 (by simp))).mono ?_
    rintro e w1 ⟨rfl, rfl⟩
    exact ⟨rfl, h1, ps, ds, h2, h3⟩
  · rintro e w1 ⟨rfl, q, hI⟩
    go_wp2
    go_ret
    exact ⟨rfl, ((Below.refl _ _).alloc (Nat.le_refl _) _).trans (hI.1.mono (by simp))⟩
end Go.Proofs.YthhfmcfbiloeiaaGreat
