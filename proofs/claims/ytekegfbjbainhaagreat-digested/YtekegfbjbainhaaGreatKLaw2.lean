/- The statement's steps, as far as Digest goes: one step, the whole script. -/
import Derived.Test.YtekegfbjbainhaaGreatKLaw1
import Derived.Deep.QuietTactic
import Derived.BigQuiet
namespace Go.Proofs.YtekegfbjbainhaaGreat
set_option linter.unusedVariables false
set_option linter.unusedSimpArgs false
open Go.RowKit

theorem rangeAt_new (w : World) (cs : List Value) (t : TypeId) : (w.alloc (.cells cs.toArray t)).rangeAt w.heap.size 0 cs := fun j v hv => by
  rw [Nat.zero_add, World.cell?_alloc_new]; simpa using hv
theorem Tryz.rowOp : ∃ d, Tryz.prog.underlying 43 = some d ∧ d.isRow = true := ⟨_, Tryz.underlying43, rfl⟩
theorem Tryz.sizeOp : (Tryz.prog.info? 43).map (·.size) = some 24 := by kernel_rfl

set_option maxRecDepth 100000 in
set_option maxHeartbeats 800000 in
theorem step_digest (cs : List Value) (oa : Int) (s : ByteArray) (p : Value) (w : World) (hlen : cs.length = 24) (k0 : cs[0]? = some (.int .i64 1)) (k1 : cs[1]? = some (.int .i64 oa)) (k4 : cs[4]? = some (.string s)) (hs : s.size ≤ 140737488351232) :
    Calls Tryz.prog 12 #[p, .agg cs.toArray] w fun e w' => e = .returned (.bool true) ∧ Below w.heap.size w w' := by
  obtain ⟨d, hd1, hd2⟩ := Tryz.rowOp
  have hsz : Hid ((Tryz.prog.info? 43).map (·.size) = some cs.length) := by rw [hlen]; exact Tryz.sizeOp
  have HD : Hid (Tryz.prog.underlying 43 = some d) := hd1
  have HD2 : Hid (d.isRow = true) := hd2
  have HL : Hid (cs.length = 24) := hlen
  clear hd1 hd2 hlen
  go_enter Tryz.func12, Tryz.ntmps12
  go_wp2_with (refine wpList_load_mid (by rfl) 43 (.tmp 3) (by rfl) w.heap.size 0 (by rfl) cs d (rangeAt_new w cs 43) HD.out HD2.out hsz.out ?_)
  refine (free_digest cs oa s p _ k0 k1 k4 hs).mono ?_
  rintro e w1 ⟨rfl, hb1⟩
  go_wp2
  go_ret
  exact ⟨rfl, ((Below.refl _ _).alloc (Nat.le_refl _) _).trans (hb1.mono (by simp))⟩

/-- The script as it lies: n steps of 24 cells each. -/
def ScriptAt (w : World) (a : Option Addr) (n : Nat) (f : Nat → OpR) : Prop :=
  ∀ i, i < n → ∃ b o, a = some ⟨b, o, none⟩ ∧ b < w.heap.size ∧ w.rangeAt b (o + i * 24) (f i).cells ∧ (f i).s.size ≤ 140737488351232 ∧ (f i).t.size ≤ 140737488351232 ∧ (f i).u.size ≤ 140737488351232

/-- The kinds that are played lie at ⟨kb, 0⟩. -/
def KindsAt (w : World) (kb : Nat) (ks : List Int) : Prop := ∀ j (h : j < ks.length), w.cell? ⟨kb, j, none⟩ = some (.int .i64 ks[j])

theorem any_snoc (ks : List Int) (j : Nat) (h : j < ks.length) (x : Int) : (ks.take (j + 1)).any (fun y => x == y) = ((ks.take j).any (fun y => x == y) || x == ks[j]) := by
  rw [List.take_succ_eq_append_getElem h, List.any_append]; simp

set_option maxRecDepth 100000 in
set_option maxHeartbeats 800000 in
/-- THE DRIVER: whatever invariant each step and each look keeps, the whole script keeps it, and answers true. -/
theorem plays_any (a : Option Addr) (n cap kb : Nat) (k0 : Int) (ks : List Int) (f : Nat → OpR) (w : World) (Inv : World → Prop) (Ok : OpR → Prop) (hn : n ≤ maxLen) (hs : ScriptAt w a n f) (hok : ∀ i, i < n → Ok (f i))
    (hkb : kb < w.heap.size) (hkl : (k0 :: ks).length ≤ maxLen) (hk : KindsAt w kb (k0 :: ks))
    (hI0 : Inv (w.alloc (.cells #[.slice none 0 0, .slice none 0 0, .slice none 0 0, .slice none 0 0] 34)))
    (hIB : ∀ wr, Inv wr → Below w.heap.size w wr) (hId : ∀ wr m, Inv wr → Inv (wr.drewN m))
    (hstep0 : ∀ wr, Inv wr → Calls Tryz.prog 12 #[.pointer (some ⟨w.heap.size, 0, none⟩), .agg #[.int .i64 k0, .int .i64 0, .int .i64 0, .int .i64 0, .string ⟨#[99, 97, 105, 114, 110]⟩, .string ⟨#[]⟩, .string ⟨#[]⟩, .int .u8 0, .int .u8 0, .int .u8 0, .int .u8 0, .int .u8 0, .int .u8 0, .int .u8 0, .int .u8 0,
      .int .u8 0, .int .u8 0, .int .u8 0, .int .u8 0, .int .u8 0, .int .u8 0, .int .u8 0, .int .u8 0, .slice none 0 0]] wr fun e w' => e = .returned (.bool true) ∧ Inv w')
    (hstep : ∀ wr o, Inv wr → Ok o → o.kind ∈ k0 :: ks → o.s.size ≤ 140737488351232 → o.t.size ≤ 140737488351232 → o.u.size ≤ 140737488351232 →
      Calls Tryz.prog 12 #[.pointer (some ⟨w.heap.size, 0, none⟩), .agg o.cells.toArray] wr fun e w' => e = .returned (.bool true) ∧ Inv w')
    (hlooks : ∀ wr, Inv wr → Calls Tryz.prog 13 #[.pointer (some ⟨w.heap.size, 1, none⟩)] wr fun e w' => e = .returned (.bool true) ∧ Inv w') :
    Calls Tryz.prog 9 #[.slice a n cap, .slice (some ⟨kb, 0, none⟩) (k0 :: ks).length (k0 :: ks).length] w fun e w' => e = .returned (.bool true) ∧ Inv w' := by
  have H0 : Hid (∀ wr, Inv wr → _) := hstep0
  have H1 : Hid (∀ wr o, Inv wr → _) := hstep
  have H2 : Hid (∀ wr, Inv wr → _) := hlooks
  have HB : Hid (∀ wr, Inv wr → _) := hIB
  have HD : Hid (∀ wr m, Inv wr → _) := hId
  clear hstep0 hstep hlooks hIB hId
  have hkc := hk 0 (by simp)
  have HK : Hid (KindsAt w kb (k0 :: ks)) := hk
  have HKL : Hid ((k0 :: ks).length ≤ maxLen) := hkl
  simp only [List.getElem_cons_zero] at hkc
  unfold maxLen at hn hkl
  have hkl1 : (1 : Int) ≤ ((k0 :: ks).length : Int) := by simp; omega
  generalize hL : (k0 :: ks) = L at *
  have HL : Hid (k0 :: ks = L) := hL
  clear hL hk
  go_enter Tryz.func9, Tryz.ntmps9
  go_wp2_with fail
  refine (H0.out _ hI0).mono ?_
  rintro e w1 ⟨rfl, hI1⟩
  go_wp2
  go_loopw [6, 7, 8, 9] (fun ok i _ _ wr => ∃ k : Nat, k ≤ n ∧ i = .int .i64 k ∧ ok = .bool true ∧ Inv wr) (fun _ i _ _ _ => n - (intOf i).toNat)
  case atStart => exact ⟨0, by omega, by simp, by simp, hI1⟩
  case round =>
    obtain ⟨k, hkn, rfl, rfl, hI⟩ := hrel
    by_cases hlt : k < n
    · obtain ⟨b, o, rfl, hb, hr, hs1, hs2, hs3⟩ := hs k hlt
      have hB := HB.out _ hI
      have hr2 : wr.rangeAt b (o + k * 24) (f k).cells := fun j v hv => by rw [hB.cell (p := ⟨b, o + k * 24 + j, none⟩) hb]; exact hr j v hv
      have kc := hr2 0 (.int .i64 (f k).kind) rfl
      rw [Nat.add_zero] at kc
      have HR : Hid (wr.rangeAt b (o + k * 24) (f k).cells) := hr2
      clear hr2
      go_wp2
      go_loopw [8, 9] (fun inn j w' => ∃ (q m : Nat), q ≤ L.length ∧ j = .int .i64 q ∧ inn = .bool ((L.take q).any (fun y => (f k).kind == y)) ∧ w' = wr.drewN m) (fun _ j _ => L.length - (intOf j).toNat)
      case atStart => exact ⟨0, 0, by omega, by simp, by simp, rfl⟩
      case round =>
        obtain ⟨q, m, hq, rfl, rfl, rfl⟩ := hrel
        by_cases hqlt : q < L.length
        · have hkq : wr.cell? ⟨kb, q, none⟩ = some (.int .i64 L[q]) := by rw [hB.cell (p := ⟨kb, q, none⟩) hkb]; exact HK.out q hqlt
          have HS : Hid (_ = _) := any_snoc L q hqlt (f k).kind
          generalize (L.take q).any (fun y => (f k).kind == y) = inn at *
          cases inn
          · go_wp2
            go_quiet (fail)
            go_wp2
            refine ⟨⟨q + 1, m + nq, by omega, by go_num, by rw [HS.out, Bool.false_or], rfl⟩, by simp [intOf]; omega⟩
          · go_wp2
            go_quiet (fail)
            go_wp2
            refine ⟨⟨q + 1, m + nq, by omega, by go_num, by rw [HS.out, Bool.true_or], rfl⟩, by simp [intOf]; omega⟩
        · have HE : Hid ((L.take q).any (fun y => (f k).kind == y) = L.any (fun y => (f k).kind == y)) := by
            unfold Hid; rw [List.take_of_length_le (by omega)]
          rw [HE.out]
          have hID := HD.out _ m hI
          have HM : Hid (L.any (fun y => (f k).kind == y) = true → (f k).kind ∈ L) := fun h => by
            obtain ⟨y, hy, he⟩ := List.any_eq_true.1 h
            rw [beq_iff_eq] at he
            rw [he]; exact hy
          generalize hany : L.any (fun y => (f k).kind == y) = bin at *
          have HA : Hid (L.any (fun y => (f k).kind == y) = bin) := hany
          clear hany
          cases bin
          · go_wp2
            refine ⟨⟨k + 1, by omega, by go_num, by simp, hID⟩, by simp [intOf]; omega⟩
          · obtain ⟨d, hd1, hd2⟩ := Tryz.rowOp
            have hmem : Hid ((f k).kind ∈ L) := HM.out rfl
            clear HM
            have hsz : Hid ((Tryz.prog.info? 43).map (·.size) = some (f k).cells.length) := Tryz.sizeOp
            have HD1 : Hid (Tryz.prog.underlying 43 = some d) := hd1
            have HD2 : Hid (d.isRow = true) := hd2
            clear hd1 hd2
            go_wp2_with (refine wpList_load_mid (by rfl) 43 (.tmp 50) (by rfl) b (o + k * 24) (by rfl) (f k).cells d (by exact HR.out) HD1.out HD2.out hsz.out ?_)
            refine (H1.out _ (f k) hID (hok k hlt) hmem.out hs1 hs2 hs3).mono ?_
            rintro e w2 ⟨rfl, hI2⟩
            go_wp2_with fail
            refine (H2.out _ hI2).mono ?_
            rintro e w3 ⟨rfl, hI3⟩
            go_wp2
            refine ⟨⟨k + 1, by omega, by go_num, by simp, hI3⟩, by simp [intOf]; omega⟩
    · go_wp2
      go_ret
      exact ⟨rfl, hI⟩

/-- What stands while digests alone are asked: no store, no list that came out. -/
def digInv (w wr : World) : Prop := Below w.heap.size w wr ∧ RowV wr w.heap.size 34 [.slice none 0 0, .slice none 0 0, .slice none 0 0, .slice none 0 0]
theorem digInv_start (w : World) : digInv w (w.alloc (.cells #[.slice none 0 0, .slice none 0 0, .slice none 0 0, .slice none 0 0] 34)) :=
  ⟨(Below.refl _ _).alloc (Nat.le_refl _) _, RowV.new w _ _⟩
theorem digInv.next {w wr w' : World} (h : digInv w wr) (hb : Below wr.heap.size wr w') : digInv w w' :=
  ⟨h.1.trans (hb.mono h.1.size), h.2.below h.2.lt hb⟩

set_option maxRecDepth 100000 in
set_option maxHeartbeats 800000 in
theorem digested_any (a : Option Addr) (n cap : Nat) (f : Nat → OpR) (w : World) (hn : n ≤ maxLen) (hs : ScriptAt w a n f) :
    Calls Tryz.prog 3 #[.slice a n cap] w fun e w' => e = .returned (.bool true) ∧ Below w.heap.size w w' := by
  go_enter Tryz.func3, Tryz.ntmps3
  go_wp2_with fail
  have hs' : ScriptAt (w.alloc (Obj.cells #[Value.int IntKind.i64 1] 3)) a n f := fun i hi => by
    obtain ⟨b, o, ha, hb, hr, h1, h2, h3⟩ := hs i hi
    exact ⟨b, o, ha, by simp; omega, fun j v hv => by rw [World.cell?_alloc_lt _ _ _ (by exact hb)]; exact hr j v hv, h1, h2, h3⟩
  refine (plays_any a n cap w.heap.size 1 [] f (w.alloc (Obj.cells #[Value.int IntKind.i64 1] 3)) (digInv (w.alloc (Obj.cells #[Value.int IntKind.i64 1] 3))) (fun _ => True) hn hs' (fun _ _ => trivial) (by simp) (by simp [maxLen])
    (fun j hj => by
      have : j = 0 := by simp at hj; omega
      subst this; simp) (digInv_start _) (fun wr h => h.1) (fun wr m h => ⟨⟨h.1.os, h.1.tape, h.1.output, h.1.size, h.1.block⟩, h.2⟩) ?_ ?_ ?_).mono ?_
  · intro wr hI
    refine (step_digest [.int .i64 1, .int .i64 0, .int .i64 0, .int .i64 0, .string ⟨#[99, 97, 105, 114, 110]⟩, .string ⟨#[]⟩, .string ⟨#[]⟩, .int .u8 0, .int .u8 0, .int .u8 0, .int .u8 0, .int .u8 0, .int .u8 0, .int .u8 0, .int .u8 0,
      .int .u8 0, .int .u8 0, .int .u8 0, .int .u8 0, .int .u8 0, .int .u8 0, .int .u8 0, .int .u8 0, .slice none 0 0] 0 ⟨#[99, 97, 105, 114, 110]⟩ _ _ rfl rfl rfl rfl (by decide)).mono ?_
    rintro e w1 ⟨rfl, hb⟩
    exact ⟨rfl, hI.next hb⟩
  · intro wr o hI _ hk h1 _ _
    have hk1 : o.kind = 1 := by simpa using hk
    refine (step_digest o.cells o.a o.s _ _ rfl (by rw [← hk1]; rfl) rfl rfl h1).mono ?_
    rintro e w1 ⟨rfl, hb⟩
    exact ⟨rfl, hI.next hb⟩
  · intro wr hI
    refine (looks_nil _ 1 wr (hI.2.cell 1 (by simp)) (hI.2.cell 2 (by simp)) (hI.2.cell 3 (by simp))).mono ?_
    rintro e w1 ⟨rfl, rfl⟩
    exact ⟨rfl, hI⟩
  · rintro e w1 ⟨rfl, hI⟩
    go_wp2
    go_ret
    exact ⟨rfl, ((Below.refl _ _).alloc (Nat.le_refl _) _).trans (hI.1.mono (by simp))⟩
end Go.Proofs.YtekegfbjbainhaaGreat
