/- Which store a step is of. -/
import Derived.Test.YtekegfbjbainhaaGreatKJoin17
namespace Go.Proofs.YtekegfbjbainhaaGreat
set_option linter.unusedVariables false
set_option linter.unusedSimpArgs false
open Go.RowKit

theorem tmod_nat (y n : Nat) : Int.tmod (y : Int) (n : Int) = ((y % n : Nat) : Int) := by
  rw [Int.tmod_eq_emod_of_nonneg (by omega)]; simp

def pickN (x : Int) (n : Nat) : Nat := (if x < 0 then (-(x + 1)).toNat else x.toNat) % n
theorem pickN_lt (x : Int) (n : Nat) (h : 1 ≤ n) : pickN x n < n := Nat.mod_lt _ (by omega)

set_option maxRecDepth 100000 in
theorem pick_any (x : Int) (n : Nat) (w : World) (h1 : -9223372036854775808 ≤ x) (h2 : x ≤ 9223372036854775807) (hn : 1 ≤ n) (hm : n ≤ maxLen) :
    Calls Tryz.prog 20 #[.int .i64 x, .int .i64 (n : Int)] w fun e w' => e = .returned (.int .i64 (pickN x n : Int)) ∧ w' = w := by
  unfold maxLen at hm
  have hn0 : ((n : Int) == 0) = false := by simp; omega
  have hn1 : ((n : Int) == -1) = false := by simp
  by_cases hx : x < 0
  · have e1 : IntKind.i64.wrap (x + 1) = x + 1 := by simp only [IntKind.wrap_i64]; omega
    have e2 : IntKind.i64.wrap (-(x + 1)) = -(x + 1) := by simp only [IntKind.wrap_i64]; omega
    have HI : Hid (Int.tmod (-(x + 1)) n = (pickN x n : Int)) := by
      unfold Hid pickN
      rw [if_pos hx]
      obtain ⟨y, hy⟩ : ∃ y : Nat, -(x + 1) = (y : Int) := ⟨(-(x + 1)).toNat, by omega⟩
      rw [hy]; exact tmod_nat y n
    go_enter Tryz.func20, Tryz.ntmps20
    go_wp2
    go_ret
    refine ⟨?_, rfl⟩
    rw [← HI.out]
    simp [Int.neg_tmod]
  · obtain ⟨y, rfl⟩ : ∃ y : Nat, x = (y : Int) := ⟨x.toNat, by omega⟩
    have HI : Hid ((pickN (y : Int) n : Int) = ((y % n : Nat) : Int)) := by
      unfold Hid pickN
      rw [if_neg hx]; simp
    go_enter Tryz.func20, Tryz.ntmps20
    go_wp2
    go_ret
    refine ⟨?_, rfl⟩
    rw [HI.out]
    simp

set_option maxRecDepth 100000 in
set_option maxHeartbeats 1000000 in
theorem step_store {B : BkV} (cs : List Value) (wb : Nat) (ps : SlR) (ds : List PairD) (w : World) (h : LawAt B w wb ps ds) (hlen : cs.length = 24) (k0 : cs[0]? = some (.int .i64 2)) (hn : ds.length + 1 ≤ 17592186044416) :
    Calls Tryz.prog 12 #[.pointer (some ⟨wb, 0, none⟩), .agg cs.toArray] w fun e w' => e = .returned (.bool true) ∧ (∃ ps' d, LawAt B w' wb ps' (ds ++ [d]) ∧ (∀ k, d.F k → w.heap.size ≤ k) ∧ (∀ k, ps'.val.ownBlock = some k → ps.val.ownBlock = some k ∨ w.heap.size ≤ k)) ∧ Frame (fun k => k = wb ∨ ps.val.ownBlock = some k) w w' := by
  obtain ⟨d, hd1, hd2⟩ := Tryz.rowOp
  have hsz : Hid ((Tryz.prog.info? 43).map (·.size) = some cs.length) := by rw [hlen]; exact Tryz.sizeOp
  have HD : Hid (Tryz.prog.underlying 43 = some d) := hd1
  have HD2 : Hid (d.isRow = true) := hd2
  have HL : Hid (cs.length = 24) := hlen
  have hb : Below w.heap.size w (w.alloc (.cells cs.toArray 43)) := (Below.refl _ _).alloc (Nat.le_refl _) _
  have HF : Hid (Calls _ _ _ _ _) := free_store cs wb ps ds _ (h.below hb) k0 hn
  clear hd1 hd2 hlen
  go_enter Tryz.func12, Tryz.ntmps12
  go_wp2_with (refine wpList_load_mid (by rfl) 43 (.tmp 3) (by rfl) w.heap.size 0 (by rfl) cs d (rangeAt_new w cs 43) HD.out HD2.out hsz.out ?_)
  refine HF.out.mono ?_
  rintro e w1 ⟨rfl, ⟨ps', dn, h1, h3, h4⟩, h2⟩
  have hbz := hb.size
  have H1 : Hid (LawAt B w1 wb ps' (ds ++ [dn])) := h1
  have H3 : Hid (∀ k, dn.F k → w.heap.size ≤ k) := fun k hk => by have := h3 k hk; omega
  have H4 : Hid (∀ k, ps'.val.ownBlock = some k → ps.val.ownBlock = some k ∨ w.heap.size ≤ k) := fun k hk => by
    rcases h4 k hk with g | g
    · exact Or.inl g
    · exact Or.inr (by omega)
  clear h1 h3 h4 hbz
  go_wp2
  go_ret
  exact ⟨rfl, ⟨ps', dn, H1.out, H3.out, H4.out⟩, Frame.into (Frame.of_below_all hb) h2 (fun k _ e => e)⟩

set_option maxRecDepth 100000 in
set_option maxHeartbeats 1000000 in
theorem step_none {B : BkV} (cs : List Value) (kk : Int) (wb : Nat) (ps : SlR) (w : World) (h : LawAt B w wb ps []) (k0 : cs[0]? = some (.int .i64 kk)) (hk : kk = 3 ∨ kk = 4 ∨ kk = 5) :
    Calls Tryz.prog 12 #[.pointer (some ⟨wb, 0, none⟩), .agg cs.toArray] w fun e w' => e = .returned (.bool true) ∧ Below w.heap.size w w' := by
  have hwb : wb < w.heap.size := RowV.lt h.row
  have hpn : ps.n = 0 := (owns_cap (a := ps.a) (n' := ps.n) (cap := ps.cap) h.own).1
  have r0 : w.cell? ⟨wb, 0, none⟩ = some (.slice ps.a 0 ps.cap) := by
    have : w.cell? ⟨wb, 0, none⟩ = some (.slice ps.a ps.n ps.cap) := RowV.cell h.row 0 (by simp)
    rw [hpn] at this; exact this
  clear hpn h
  have HB : Hid (Below w.heap.size w (w.alloc (.cells cs.toArray 43))) := (Below.refl _ _).alloc (Nat.le_refl _) _
  rcases hk with rfl | rfl | rfl
  all_goals
    go_enter Tryz.func12, Tryz.ntmps12
    go_wp2
    go_ret
    exact ⟨rfl, HB.out⟩

set_option maxRecDepth 100000 in
set_option maxHeartbeats 1000000 in
theorem step_pair {B : BkV} (cs : List Value) (kk oa : Int) (wb : Nat) (ps : SlR) (ds : List PairD) (w : World) (h : LawAt B w wb ps ds) (hlen : cs.length = 24) (k0 : cs[0]? = some (.int .i64 kk)) (hk : kk = 3 ∨ kk = 4 ∨ kk = 5) (k1 : cs[1]? = some (.int .i64 oa)) (ha1 : -9223372036854775808 ≤ oa) (ha2 : oa ≤ 9223372036854775807) (hn : 1 ≤ ds.length)
    (hst : ∀ (W : World) (d : PairD), PairOk W d → Calls Tryz.prog 21 #[.pointer (some ⟨wb, 0, none⟩), .agg cs.toArray, .pointer (some ⟨d.pb, 0, none⟩)] W fun e w' => e = .returned (.bool true) ∧ Stepped d W w') :
    Calls Tryz.prog 12 #[.pointer (some ⟨wb, 0, none⟩), .agg cs.toArray] w fun e w' => e = .returned (.bool true) ∧ ∃ (W : World) (d : PairD), d ∈ ds ∧ Below w.heap.size w W ∧ Stepped d W w' ∧ ∃ i : Nat, ds[i]? = some d := by
  obtain ⟨d, hd1, hd2⟩ := Tryz.rowOp
  have hsz : Hid ((Tryz.prog.info? 43).map (·.size) = some cs.length) := by rw [hlen]; exact Tryz.sizeOp
  have HD : Hid (Tryz.prog.underlying 43 = some d) := hd1
  have HD2 : Hid (d.isRow = true) := hd2
  have HL : Hid (cs.length = 24) := hlen
  have HB : Hid (Below w.heap.size w (w.alloc (.cells cs.toArray 43))) := (Below.refl _ _).alloc (Nat.le_refl _) _
  have hwb : wb < w.heap.size := RowV.lt h.row
  have r0 : w.cell? ⟨wb, 0, none⟩ = some (.slice ps.a ps.n ps.cap) := RowV.cell h.row 0 (by simp)
  obtain ⟨hpn, hpc, hpm, hpa⟩ := owns_cap (a := ps.a) (n' := ps.n) (cap := ps.cap) h.own
  obtain ⟨g, hg, hglt⟩ : ∃ g, ps.a = some ⟨g, 0, none⟩ ∧ g < w.heap.size := by
    rcases hpa with ⟨_, h0, _⟩ | ⟨g, hg, _, hlt⟩
    · omega
    · exact ⟨g, hg, hlt⟩
  rw [hg] at r0
  have hpm' : ps.n ≤ maxLen := by omega
  obtain ⟨dd, hdd, hcd⟩ : ∃ d, ds[pickN oa ps.n]? = some d ∧ w.cell? ⟨g, pickN oa ps.n, none⟩ = some (.pointer (some ⟨d.pb, 0, none⟩)) := by
    have hi' : pickN oa ps.n < ds.length := by have := pickN_lt oa ps.n (by omega); omega
    refine ⟨ds[pickN oa ps.n], List.getElem?_eq_getElem hi', ?_⟩
    have hsl : SlV w ps.a (ds.map (fun d => ptrV d.pb)) := (SlV.ofOwn h.own).1
    obtain ⟨b, o, e, _, hc⟩ := hsl (pickN oa ps.n) (by simpa using hi')
    rw [hg] at e; cases e
    rw [Nat.zero_add] at hc
    rw [hc]; simp [ptrV]
  have HDD : Hid (ds[pickN oa ps.n]? = some dd) := hdd
  have hiI : (pickN oa ps.n : Int) < ps.n := by have := pickN_lt oa ps.n (by omega); omega
  have HPK : Hid (∀ W, Calls Tryz.prog 20 #[.int .i64 oa, .int .i64 (ps.n : Int)] W fun e w' => e = .returned (.int .i64 (pickN oa ps.n : Int)) ∧ w' = W) := fun W => pick_any oa ps.n W ha1 ha2 (by omega) hpm'
  generalize pickN oa ps.n = i at *
  have hn1 : 1 ≤ ps.n := by omega
  have hpmI : (ps.n : Int) ≤ 9223372036854775807 := by unfold maxLen at hpm; omega
  have hn0 : ((ps.n : Int) == 0) = false := by simp; omega
  have HOK : Hid (∀ d ∈ ds, PairOk w d) := h.ok
  have HST : Hid (∀ (W : World) (d : PairD), PairOk W d → _) := hst
  clear hd1 hd2 hlen hpn hpc hpm hpa hst hn hdd hpm'
  rcases hk with rfl | rfl | rfl
  all_goals
    go_enter Tryz.func12, Tryz.ntmps12
    go_wp2
    go_quiet (first | (go_at_call 20; exact Calls.quiet_of_same (HPK.out _)))
    have HBq : Hid (Below w.heap.size w ((w.alloc (.cells cs.toArray 43)).drewN nq)) := by
      have hb := HB.out
      exact ⟨hb.os, hb.tape, hb.output, hb.size, hb.block⟩
    go_wp2_with (refine wpList_load_mid (by rfl) 43 (.tmp 3) (by rfl) w.heap.size 0 (by rfl) cs d (by exact rangeAt_new w cs 43) HD.out HD2.out hsz.out ?_)
    refine (HST.out _ dd ((HOK.out dd (List.mem_of_getElem? HDD.out)).frame (Frame.of_below_all (S := fun _ => False) HBq.out) (fun _ _ e => e))).mono ?_
    rintro e w1 ⟨rfl, hs1⟩
    go_wp2
    go_ret
    exact ⟨rfl, _, dd, List.mem_of_getElem? HDD.out, HBq.out, hs1, i, HDD.out⟩
end Go.Proofs.YtekegfbjbainhaaGreat
