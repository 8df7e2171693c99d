import Derived.Test.YtekegfbjbainhaaGreatKJoin2
import Derived.Deep.QuietTactic
import Derived.BigQuiet
import Derived.ProofKit
import Derived.SizedLaws
import Derived.OpenShut
import Derived.Deep.Slices
/- The statement's steps, as far as Digest goes: one step, the whole script. -/
namespace Go.Proofs.YtekegfbjbainhaaGreat
set_option linter.unusedVariables false
set_option linter.unusedSimpArgs false
open Go.RowKit

theorem rangeAt_new (w : World) (cs : List Value) (t : TypeId) : (w.alloc (.cells cs.toArray t)).rangeAt w.heap.size 0 cs := fun j v hv => by
  rw [Nat.zero_add, World.cell?_alloc_new]; simpa using hv
theorem Tryz.rowOp : ∃ d, Tryz.prog.underlying 43 = some d ∧ d.isRow = true := ⟨_, Tryz.underlying43, rfl⟩
theorem Tryz.sizeOp : (Tryz.prog.info? 43).map (·.size) = some 24 := by kernel_rfl

set_option maxRecDepth 100000 in
set_option maxHeartbeats 800000 in
theorem step_digest (cs : List Value) (oa : Int) (s : ByteArray) (p : Value) (w : World) (hlen : cs.length = 24) (k0 : cs[0]? = some (.int .i64 1)) (k1 : cs[1]? = some (.int .i64 oa)) (k4 : cs[4]? = some (.string s)) (hs : s.size ≤ 140737488351232) :
    Calls Tryz.prog 12 #[p, .agg cs.toArray] w fun e w' => e = .returned (.bool true) ∧ Below w.heap.size w w' := by
  obtain ⟨d, hd1, hd2⟩ := Tryz.rowOp
  have hsz : Hid ((Tryz.prog.info? 43).map (·.size) = some cs.length) := by rw [hlen]; exact Tryz.sizeOp
  have HD : Hid (Tryz.prog.underlying 43 = some d) := hd1
  have HD2 : Hid (d.isRow = true) := hd2
  have HL : Hid (cs.length = 24) := hlen
  clear hd1 hd2 hlen
  go_enter Tryz.func12, Tryz.ntmps12
  go_wp2_with (refine wpList_load_mid (by rfl) 43 (.tmp 3) (by rfl) w.heap.size 0 (by rfl) cs d (rangeAt_new w cs 43) HD.out HD2.out hsz.out ?_)
  refine (free_digest cs oa s p _ k0 k1 k4 hs).mono ?_
  rintro e w1 ⟨rfl, hb1⟩
  go_wp2
  go_ret
  exact ⟨rfl, ((Below.refl _ _).alloc (Nat.le_refl _) _).trans (hb1.mono (by simp))⟩

/-- The script as it lies: n steps of 24 cells each. -/
def ScriptAt (w : World) (a : Option Addr) (n : Nat) (f : Nat → OpR) : Prop :=
  ∀ i, i < n → ∃ b o, a = some ⟨b, o, none⟩ ∧ b < w.heap.size ∧ w.rangeAt b (o + i * 24) (f i).cells ∧ (f i).s.size ≤ 140737488351232 ∧ (f i).t.size ≤ 140737488351232 ∧ (f i).u.size ≤ 140737488351232

/-- The kinds that are played lie at ⟨kb, 0⟩. -/
def KindsAt (w : World) (kb : Nat) (ks : List Int) : Prop := ∀ j (h : j < ks.length), w.cell? ⟨kb, j, none⟩ = some (.int .i64 ks[j])

theorem any_snoc (ks : List Int) (j : Nat) (h : j < ks.length) (x : Int) : (ks.take (j + 1)).any (fun y => x == y) = ((ks.take j).any (fun y => x == y) || x == ks[j]) := by
  rw [List.take_succ_eq_append_getElem h, List.any_append]; simp

set_option maxRecDepth 100000 in
set_option maxHeartbeats 800000 in
/-- THE DRIVER: whatever invariant each step and each look keeps, the whole script keeps it, and answers true. -/
theorem plays_any (a : Option Addr) (n cap kb : Nat) (k0 : Int) (ks : List Int) (f : Nat → OpR) (w : World) (Inv : World → Prop) (Ok : OpR → Prop) (hn : n ≤ maxLen) (hs : ScriptAt w a n f) (hok : ∀ i, i < n → Ok (f i))
    (hkb : kb < w.heap.size) (hkl : (k0 :: ks).length ≤ maxLen) (hk : KindsAt w kb (k0 :: ks))
    (hI0 : Inv (w.alloc (.cells #[.slice none 0 0, .slice none 0 0, .slice none 0 0, .slice none 0 0] 34)))
    (hIB : ∀ wr, Inv wr → Below w.heap.size w wr) (hId : ∀ wr m, Inv wr → Inv (wr.drewN m))
    (hstep0 : ∀ wr, Inv wr → Calls Tryz.prog 12 #[.pointer (some ⟨w.heap.size, 0, none⟩), .agg #[.int .i64 k0, .int .i64 0, .int .i64 0, .int .i64 0, .string ⟨#[99, 97, 105, 114, 110]⟩, .string ⟨#[]⟩, .string ⟨#[]⟩, .int .u8 0, .int .u8 0, .int .u8 0, .int .u8 0, .int .u8 0, .int .u8 0, .int .u8 0, .int .u8 0,
      .int .u8 0, .int .u8 0, .int .u8 0, .int .u8 0, .int .u8 0, .int .u8 0, .int .u8 0, .int .u8 0, .slice none 0 0]] wr fun e w' => e = .returned (.bool true) ∧ Inv w')
    (hstep : ∀ wr o, Inv wr → Ok o → o.kind ∈ k0 :: ks → o.s.size ≤ 140737488351232 → o.t.size ≤ 140737488351232 → o.u.size ≤ 140737488351232 →
      Calls Tryz.prog 12 #[.pointer (some ⟨w.heap.size, 0, none⟩), .agg o.cells.toArray] wr fun e w' => e = .returned (.bool true) ∧ Inv w')
    (hlooks : ∀ wr, Inv wr → Calls Tryz.prog 13 #[.pointer (some ⟨w.heap.size, 1, none⟩)] wr fun e w' => e = .returned (.bool true) ∧ Inv w') :
    Calls Tryz.prog 9 #[.slice a n cap, .slice (some ⟨kb, 0, none⟩) (k0 :: ks).length (k0 :: ks).length] w fun e w' => e = .returned (.bool true) ∧ Inv w' := by
  have H0 : Hid (∀ wr, Inv wr → _) := hstep0
  have H1 : Hid (∀ wr o, Inv wr → _) := hstep
  have H2 : Hid (∀ wr, Inv wr → _) := hlooks
  have HB : Hid (∀ wr, Inv wr → _) := hIB
  have HD : Hid (∀ wr m, Inv wr → _) := hId
  clear hstep0 hstep hlooks hIB hId
  have hkc := hk 0 (by simp)
  have HK : Hid (KindsAt w kb (k0 :: ks)) := hk
  have HKL : Hid ((k0 :: ks).length ≤ maxLen) := hkl
  simp only [List.getElem_cons_zero] at hkc
  unfold maxLen at hn hkl
  have hkl1 : (1 : Int) ≤ ((k0 :: ks).length : Int) := by simp; omega
  generalize hL : (k0 :: ks) = L at *
  have HL : Hid (k0 :: ks = L) := hL
  clear hL hk
  go_enter Tryz.func9, Tryz.ntmps9
  go_wp2_with fail
  refine (H0.out _ hI0).mono ?_
  rintro e w1 ⟨rfl, hI1⟩
  go_wp2
  go_loopw [6, 7, 8, 9] (fun ok i _ _ wr => ∃ k : Nat, k ≤ n ∧ i = .int .i64 k ∧ ok = .bool true ∧ Inv wr) (fun _ i _ _ _ => n - (intOf i).toNat)
  case atStart => exact ⟨0, by omega, by simp, by simp, hI1⟩
  case round =>
    obtain ⟨k, hkn, rfl, rfl, hI⟩ := hrel
    by_cases hlt : k < n
    · obtain ⟨b, o, rfl, hb, hr, hs1, hs2, hs3⟩ := hs k hlt
      have hB := HB.out _ hI
      have hr2 : wr.rangeAt b (o + k * 24) (f k).cells := fun j v hv => by rw [hB.cell (p := ⟨b, o + k * 24 + j, none⟩) hb]; exact hr j v hv
      have kc := hr2 0 (.int .i64 (f k).kind) rfl
      rw [Nat.add_zero] at kc
      have HR : Hid (wr.rangeAt b (o + k * 24) (f k).cells) := hr2
      clear hr2
      go_wp2
      go_loopw [8, 9] (fun inn j w' => ∃ (q m : Nat), q ≤ L.length ∧ j = .int .i64 q ∧ inn = .bool ((L.take q).any (fun y => (f k).kind == y)) ∧ w' = wr.drewN m) (fun _ j _ => L.length - (intOf j).toNat)
      case atStart => exact ⟨0, 0, by omega, by simp, by simp, rfl⟩
      case round =>
        obtain ⟨q, m, hq, rfl, rfl, rfl⟩ := hrel
        by_cases hqlt : q < L.length
        · have hkq : wr.cell? ⟨kb, q, none⟩ = some (.int .i64 L[q]) := by rw [hB.cell (p := ⟨kb, q, none⟩) hkb]; exact HK.out q hqlt
          have HS : Hid (_ = _) := any_snoc L q hqlt (f k).kind
          generalize (L.take q).any (fun y => (f k).kind == y) = inn at *
          cases inn
          · go_wp2
            go_quiet (fail)
            go_wp2
            refine ⟨⟨q + 1, m + nq, by omega, by go_num, by rw [HS.out, Bool.false_or], rfl⟩, by simp [intOf]; omega⟩
          · go_wp2
            go_quiet (fail)
            go_wp2
            refine ⟨⟨q + 1, m + nq, by omega, by go_num, by rw [HS.out, Bool.true_or], rfl⟩, by simp [intOf]; omega⟩
        · have HE : Hid ((L.take q).any (fun y => (f k).kind == y) = L.any (fun y => (f k).kind == y)) := by
            unfold Hid; rw [List.take_of_length_le (by omega)]
          rw [HE.out]
          have hID := HD.out _ m hI
          have HM : Hid (L.any (fun y => (f k).kind == y) = true → (f k).kind ∈ L) := fun h => by
            obtain ⟨y, hy, he⟩ := List.any_eq_true.1 h
            rw [beq_iff_eq] at he
            rw [he]; exact hy
          generalize hany : L.any (fun y => (f k).kind == y) = bin at *
          have HA : Hid (L.any (fun y => (f k).kind == y) = bin) := hany
          clear hany
          cases bin
          · go_wp2
            refine ⟨⟨k + 1, by omega, by go_num, by simp, hID⟩, by simp [intOf]; omega⟩
          · obtain ⟨d, hd1, hd2⟩ := Tryz.rowOp
            have hmem : Hid ((f k).kind ∈ L) := HM.out rfl
            clear HM
            have hsz : Hid ((Tryz.prog.info? 43).map (·.size) = some (f k).cells.length) := Tryz.sizeOp
            have HD1 : Hid (Tryz.prog.underlying 43 = some d) := hd1
            have HD2 : Hid (d.isRow = true) := hd2
            clear hd1 hd2
            go_wp2_with (refine wpList_load_mid (by rfl) 43 (.tmp 50) (by rfl) b (o + k * 24) (by rfl) (f k).cells d (by exact HR.out) HD1.out HD2.out hsz.out ?_)
            refine (H1.out _ (f k) hID (hok k hlt) hmem.out hs1 hs2 hs3).mono ?_
            rintro e w2 ⟨rfl, hI2⟩
            go_wp2_with fail
            refine (H2.out _ hI2).mono ?_
            rintro e w3 ⟨rfl, hI3⟩
            go_wp2
            refine ⟨⟨k + 1, by omega, by go_num, by simp, hI3⟩, by simp [intOf]; omega⟩
    · go_wp2
      go_ret
      exact ⟨rfl, hI⟩

/-- What stands while digests alone are asked: no store, no list that came out. -/
def digInv (w wr : World) : Prop := Below w.heap.size w wr ∧ RowV wr w.heap.size 34 [.slice none 0 0, .slice none 0 0, .slice none 0 0, .slice none 0 0]
theorem digInv_start (w : World) : digInv w (w.alloc (.cells #[.slice none 0 0, .slice none 0 0, .slice none 0 0, .slice none 0 0] 34)) :=
  ⟨(Below.refl _ _).alloc (Nat.le_refl _) _, RowV.new w _ _⟩
theorem digInv.next {w wr w' : World} (h : digInv w wr) (hb : Below wr.heap.size wr w') : digInv w w' :=
  ⟨h.1.trans (hb.mono h.1.size), h.2.below h.2.lt hb⟩

set_option maxRecDepth 100000 in
set_option maxHeartbeats 800000 in
theorem digested_any (a : Option Addr) (n cap : Nat) (f : Nat → OpR) (w : World) (hn : n ≤ maxLen) (hs : ScriptAt w a n f) :
    Calls Tryz.prog 3 #[.slice a n cap] w fun e w' => e = .returned (.bool true) ∧ Below w.heap.size w w' := by
  go_enter Tryz.func3, Tryz.ntmps3
  go_wp2_with fail
  have hs' : ScriptAt (w.alloc (Obj.cells #[Value.int IntKind.i64 1] 3)) a n f := fun i hi => by
    obtain ⟨b, o, ha, hb, hr, h1, h2, h3⟩ := hs i hi
    exact ⟨b, o, ha, by simp; omega, fun j v hv => by rw [World.cell?_alloc_lt _ _ _ (by exact hb)]; exact hr j v hv, h1, h2, h3⟩
  refine (plays_any a n cap w.heap.size 1 [] f (w.alloc (Obj.cells #[Value.int IntKind.i64 1] 3)) (digInv (w.alloc (Obj.cells #[Value.int IntKind.i64 1] 3))) (fun _ => True) hn hs' (fun _ _ => trivial) (by simp) (by simp [maxLen])
    (fun j hj => by
      have : j = 0 := by simp at hj; omega
      subst this; simp) (digInv_start _) (fun wr h => h.1) (fun wr m h => ⟨⟨h.1.os, h.1.tape, h.1.output, h.1.size, h.1.block⟩, h.2⟩) ?_ ?_ ?_).mono ?_
  · intro wr hI
    refine (step_digest [.int .i64 1, .int .i64 0, .int .i64 0, .int .i64 0, .string ⟨#[99, 97, 105, 114, 110]⟩, .string ⟨#[]⟩, .string ⟨#[]⟩, .int .u8 0, .int .u8 0, .int .u8 0, .int .u8 0, .int .u8 0, .int .u8 0, .int .u8 0, .int .u8 0,
      .int .u8 0, .int .u8 0, .int .u8 0, .int .u8 0, .int .u8 0, .int .u8 0, .int .u8 0, .int .u8 0, .slice none 0 0] 0 ⟨#[99, 97, 105, 114, 110]⟩ _ _ rfl rfl rfl rfl (by decide)).mono ?_
    rintro e w1 ⟨rfl, hb⟩
    exact ⟨rfl, hI.next hb⟩
  · intro wr o hI _ hk h1 _ _
    have hk1 : o.kind = 1 := by simpa using hk
    refine (step_digest o.cells o.a o.s _ _ rfl (by rw [← hk1]; rfl) rfl rfl h1).mono ?_
    rintro e w1 ⟨rfl, hb⟩
    exact ⟨rfl, hI.next hb⟩
  · intro wr hI
    refine (looks_nil _ 1 wr (hI.2.cell 1 (by simp)) (hI.2.cell 2 (by simp)) (hI.2.cell 3 (by simp))).mono ?_
    rintro e w1 ⟨rfl, rfl⟩
    exact ⟨rfl, hI⟩
  · rintro e w1 ⟨rfl, hI⟩
    go_wp2
    go_ret
    exact ⟨rfl, ((Below.refl _ _).alloc (Nat.le_refl _) _).trans (hI.1.mono (by simp))⟩
end Go.Proofs.YtekegfbjbainhaaGreat

/- How a script that was handed in is read: each step's cells, its texts' sizes; the steps lie as 'ScriptAt' says. -/
namespace Go.Proofs.YtekegfbjbainhaaGreat
set_option linter.unusedVariables false
set_option linter.unusedSimpArgs false
open Go.ChangeShapes Go.WideShapes Go.ChangeAt Go.RowKit Go.Deep

theorem Tryz.cells40 : Tryz.prog.cellsOf 43 = 24 := by kernel_rfl
theorem Tryz.cellsInt : Tryz.prog.cellsOf 3 = 1 := by kernel_rfl
theorem Tryz.cellsStr : Tryz.prog.cellsOf 9 = 1 := by kernel_rfl
theorem Tryz.cellsU8R : Tryz.prog.cellsOf 5 = 1 := by kernel_rfl
theorem Tryz.cellsDigR : Tryz.prog.cellsOf 36 = 8 := by kernel_rfl
theorem Tryz.cellsPath : Tryz.prog.cellsOf 41 = 1 := by kernel_rfl

theorem list24 {α : Type} (l : List α) (h : l.length = 24) : ∃ c0 c1 c2 c3 c4 c5 c6 c7 c8 c9 c10 c11 c12 c13 c14 c15 c16 c17 c18 c19 c20 c21 c22 c23, l = [c0, c1, c2, c3, c4, c5, c6, c7, c8, c9, c10, c11, c12, c13, c14, c15, c16, c17, c18, c19, c20, c21, c22, c23] := by
  match l, h with
  | [c0, c1, c2, c3, c4, c5, c6, c7, c8, c9, c10, c11, c12, c13, c14, c15, c16, c17, c18, c19, c20, c21, c22, c23], _ => exact ⟨c0, c1, c2, c3, c4, c5, c6, c7, c8, c9, c10, c11, c12, c13, c14, c15, c16, c17, c18, c19, c20, c21, c22, c23, rfl⟩
theorem list10 {α : Type} (l : List α) (h : l.length = 10) : ∃ y0 y1 y2 y3 y4 y5 y6 y7 y8 y9, l = [y0, y1, y2, y3, y4, y5, y6, y7, y8, y9] := by
  match l, h with
  | [y0, y1, y2, y3, y4, y5, y6, y7, y8, y9], _ => exact ⟨y0, y1, y2, y3, y4, y5, y6, y7, y8, y9, rfl⟩


section
variable {H : Type} {enc : TypeId × Value → H} {w : World} {base : Nat} {sp : Nat → Bool} {held : Bool} {fuel : Nat}

theorem u8_of {n : Int} (h : (Lit.int .u8 n).wf = true) : Value.int .u8 n = .int .u8 ((UInt8.ofNat n.toNat).toNat : Int) := by
  have hb := bounds_u8 h
  rw [UInt8.toNat_ofNat_of_lt' (by show n.toNat < 256; omega)]
  congr 1; omega

/-- A digest, opened. -/
theorem open_dig {cs : List Value} {x : DataW H × List MemPlace} (h : DataW.trod enc Tryz.prog w base sp held fuel 36 cs = some x) :
    ∃ d : List UInt8, d.length = 8 ∧ cs = d.map u8c := by
  obtain ⟨xs, m, rfl, rfl, hl, hx, hf⟩ := DataW.trod_array Tryz.underlying36 h
  rw [Tryz.cellsDigR] at hl
  rw [Tryz.cellsU8R] at hf
  refine ⟨cs.map (fun v => UInt8.ofNat (intOf v).toNat), by simp [hl], ?_⟩
  rw [List.map_map]
  conv => lhs; rw [← List.map_id cs]
  apply List.map_congr_left
  intro v hv
  obtain ⟨i, hi, rfl⟩ := List.getElem_of_mem hv
  have h1 := hf i (by omega)
  rw [List.getElem?_eq_getElem (by omega)] at h1
  rw [Nat.mul_one] at h1
  have e1 : (cs.drop i).take 1 = [cs[i]] := by
    rw [List.drop_eq_getElem_cons hi]; rfl
  rw [e1] at h1
  obtain ⟨n, hn, _, hwf⟩ := DataW.trod_int Tryz.underlying5 h1
  have hn' : cs[i] = .int .u8 n := by simpa using hn
  rw [hn']
  exact u8_of hwf

theorem u8at_map (d : List UInt8) (hd : d.length = 8) : d.map u8c = [u8at d 0, u8at d 1, u8at d 2, u8at d 3, u8at d 4, u8at d 5, u8at d 6, u8at d 7] := by
  obtain ⟨z0, z1, z2, z3, z4, z5, z6, z7, rfl⟩ := list8 d hd
  rfl

/-- One step, opened. -/
theorem open_op {cs : List Value} {x : DataW H × List MemPlace} (h : DataW.trod enc Tryz.prog w base sp held fuel 43 cs = some x) :
    ∃ (o : OpR) (dD dE dP : DataW H) (m : Nat) (pP : List MemPlace), cs = o.cells ∧
      x.1 = .agg [.lit (.int .i64 o.kind), .lit (.int .i64 o.a), .lit (.int .i64 o.b), .lit (.int .i64 o.c), .lit (.string o.s.data.toList), .lit (.string o.t.data.toList), .lit (.string o.u.data.toList), dD, dE, dP] ∧
      (Lit.int .i64 o.kind).wf = true ∧ (Lit.int .i64 o.a).wf = true ∧ (Lit.int .i64 o.b).wf = true ∧ (Lit.int .i64 o.c).wf = true ∧ o.d.length = 8 ∧ o.e.length = 8 ∧
      DataW.trod enc Tryz.prog w base sp held m 41 [o.path] = some (dP, pP) := by
  obtain ⟨xs, m, rfl, rfl, hl, hx, hf⟩ := DataW.trod_struct Tryz.underlying43 h
  rw [Tryz.cells40] at hl
  obtain ⟨c0, c1, c2, c3, c4, c5, c6, c7, c8, c9, c10, c11, c12, c13, c14, c15, c16, c17, c18, c19, c20, c21, c22, c23, rfl⟩ := list24 cs hl
  obtain ⟨y0, y1, y2, y3, y4, y5, y6, y7, y8, y9, rfl⟩ := list10 xs hx
  have f0 : DataW.trod enc Tryz.prog w base sp held m 3 (List.take (Tryz.prog.cellsOf 3) (List.drop 0 [c0, c1, c2, c3, c4, c5, c6, c7, c8, c9, c10, c11, c12, c13, c14, c15, c16, c17, c18, c19, c20, c21, c22, c23])) = some y0 := hf 0 _ rfl
  have f1 : DataW.trod enc Tryz.prog w base sp held m 3 (List.take (Tryz.prog.cellsOf 3) (List.drop 1 [c0, c1, c2, c3, c4, c5, c6, c7, c8, c9, c10, c11, c12, c13, c14, c15, c16, c17, c18, c19, c20, c21, c22, c23])) = some y1 := hf 1 _ rfl
  have f2 : DataW.trod enc Tryz.prog w base sp held m 3 (List.take (Tryz.prog.cellsOf 3) (List.drop 2 [c0, c1, c2, c3, c4, c5, c6, c7, c8, c9, c10, c11, c12, c13, c14, c15, c16, c17, c18, c19, c20, c21, c22, c23])) = some y2 := hf 2 _ rfl
  have f3 : DataW.trod enc Tryz.prog w base sp held m 3 (List.take (Tryz.prog.cellsOf 3) (List.drop 3 [c0, c1, c2, c3, c4, c5, c6, c7, c8, c9, c10, c11, c12, c13, c14, c15, c16, c17, c18, c19, c20, c21, c22, c23])) = some y3 := hf 3 _ rfl
  have f4 : DataW.trod enc Tryz.prog w base sp held m 9 (List.take (Tryz.prog.cellsOf 9) (List.drop 4 [c0, c1, c2, c3, c4, c5, c6, c7, c8, c9, c10, c11, c12, c13, c14, c15, c16, c17, c18, c19, c20, c21, c22, c23])) = some y4 := hf 4 _ rfl
  have f5 : DataW.trod enc Tryz.prog w base sp held m 9 (List.take (Tryz.prog.cellsOf 9) (List.drop 5 [c0, c1, c2, c3, c4, c5, c6, c7, c8, c9, c10, c11, c12, c13, c14, c15, c16, c17, c18, c19, c20, c21, c22, c23])) = some y5 := hf 5 _ rfl
  have f6 : DataW.trod enc Tryz.prog w base sp held m 9 (List.take (Tryz.prog.cellsOf 9) (List.drop 6 [c0, c1, c2, c3, c4, c5, c6, c7, c8, c9, c10, c11, c12, c13, c14, c15, c16, c17, c18, c19, c20, c21, c22, c23])) = some y6 := hf 6 _ rfl
  have f7 : DataW.trod enc Tryz.prog w base sp held m 36 (List.take (Tryz.prog.cellsOf 36) (List.drop 7 [c0, c1, c2, c3, c4, c5, c6, c7, c8, c9, c10, c11, c12, c13, c14, c15, c16, c17, c18, c19, c20, c21, c22, c23])) = some y7 := hf 7 _ rfl
  have f8 : DataW.trod enc Tryz.prog w base sp held m 36 (List.take (Tryz.prog.cellsOf 36) (List.drop 15 [c0, c1, c2, c3, c4, c5, c6, c7, c8, c9, c10, c11, c12, c13, c14, c15, c16, c17, c18, c19, c20, c21, c22, c23])) = some y8 := hf 8 _ rfl
  have f9 : DataW.trod enc Tryz.prog w base sp held m 41 (List.take (Tryz.prog.cellsOf 41) (List.drop 23 [c0, c1, c2, c3, c4, c5, c6, c7, c8, c9, c10, c11, c12, c13, c14, c15, c16, c17, c18, c19, c20, c21, c22, c23])) = some y9 := hf 9 _ rfl
  clear hf
  rw [Tryz.cellsInt] at f0 f1 f2 f3
  rw [Tryz.cellsStr] at f4 f5 f6
  rw [Tryz.cellsDigR] at f7 f8
  rw [Tryz.cellsPath] at f9
  obtain ⟨n0, e0, g0, w0⟩ := DataW.trod_int Tryz.underlying3 f0
  obtain ⟨n1, e1, g1, w1⟩ := DataW.trod_int Tryz.underlying3 f1
  obtain ⟨n2, e2, g2, w2⟩ := DataW.trod_int Tryz.underlying3 f2
  obtain ⟨n3, e3, g3, w3⟩ := DataW.trod_int Tryz.underlying3 f3
  obtain ⟨s4, e4, g4, w4⟩ := DataW.trod_string Tryz.underlying9 f4
  obtain ⟨s5, e5, g5, w5⟩ := DataW.trod_string Tryz.underlying9 f5
  obtain ⟨s6, e6, g6, w6⟩ := DataW.trod_string Tryz.underlying9 f6
  obtain ⟨d, hd, e7⟩ := open_dig f7
  obtain ⟨e, he, e8⟩ := open_dig f8
  rw [u8at_map d hd] at e7
  rw [u8at_map e he] at e8
  simp only [List.drop_zero, List.drop_succ_cons, List.take_succ_cons, List.take_zero, List.cons.injEq, and_true] at e0 e1 e2 e3 e4 e5 e6 e7 e8 f9
  subst e0 e1 e2 e3 e4 e5 e6 g0 g1 g2 g3 g4 g5 g6
  obtain ⟨rfl, rfl, rfl, rfl, rfl, rfl, rfl, rfl⟩ := e7
  obtain ⟨rfl, rfl, rfl, rfl, rfl, rfl, rfl, rfl⟩ := e8
  exact ⟨⟨n0, n1, n2, n3, s4, s5, s6, d, e, c23⟩, y7.1, y8.1, y9.1, m, y9.2, rfl, rfl, w0, w1, w2, w3, hd, he, f9⟩

theorem weightsAll_in {P : Program} {e : TypeId} : ∀ {l : List (DataW H)} {d : DataW H}, d ∈ l → ∀ n ∈ d.weights P e, n ∈ DataW.weightsAll P e l
  | d' :: r, d, hd, n, hn => by
    simp only [DataW.weightsAll, List.mem_append]
    rcases List.mem_cons.1 hd with rfl | h
    · exact Or.inl hn
    · exact Or.inr (weightsAll_in h n hn)

theorem cell_lt {W : World} {b o : Nat} {v : Value} (h : W.cell? ⟨b, o, none⟩ = some v) : b < W.heap.size := by
  unfold World.cell? at h
  cases hx : W.heap[b]? with
  | none => simp [hx] at h
  | some c => exact (Array.getElem?_eq_some_iff.1 hx).1

/-- What is asked of a step beside what 'ScriptAt' says: its numbers are ints; its digests have eight bytes; its path can be read. -/
def OpOk (enc : TypeId × Value → H) (W : World) (o : OpR) : Prop :=
  (Lit.int .i64 o.kind).wf = true ∧ (Lit.int .i64 o.a).wf = true ∧ (Lit.int .i64 o.b).wf = true ∧ (Lit.int .i64 o.c).wf = true ∧ o.d.length = 8 ∧ o.e.length = 8 ∧
  ∃ (m : Nat) (d : DataW H) (p : List MemPlace), DataW.trod enc Tryz.prog W 0 (fun _ => true) true m 41 [o.path] = some (d, p) ∧ ∀ n ∈ d.weights Tryz.prog 41, n ≤ reachBytes

set_option maxRecDepth 100000 in
/-- THE SCRIPT, OPENED. -/
theorem open_script {W : World} {a0 : Option Addr} {len cap : Nat} {d0 : DataW H} {p : List MemPlace} (h : DataW.trod enc Tryz.prog W 0 (fun _ => true) true fuel 22 [.slice a0 len cap] = some (d0, p))
    (hsz : ∀ n ∈ d0.weights Tryz.prog 22, n ≤ reachBytes) :
    ∃ f : Nat → OpR, ScriptAt W a0 len f ∧ len ≤ maxLen ∧ ∀ i, i < len → OpOk enc W (f i) := by
  rcases open_slice Tryz.underlying22 h with ⟨hcs, _⟩ | ⟨a, len', cap', m, n, D, Pl, hcs, _, hl, hmx, hm, hx, hel⟩
  · simp only [List.cons.injEq, Value.slice.injEq, and_true] at hcs
    obtain ⟨rfl, rfl, rfl⟩ := hcs
    exact ⟨fun _ => ⟨0, 0, 0, 0, ⟨#[]⟩, ⟨#[]⟩, ⟨#[]⟩, [], [], .slice none 0 0⟩, fun i hi => absurd hi (Nat.not_lt_zero _), Nat.zero_le _, fun i hi => absurd hi (Nat.not_lt_zero _)⟩
  simp only [List.cons.injEq, Value.slice.injEq, and_true] at hcs
  obtain ⟨rfl, rfl, rfl⟩ := hcs
  simp only [Prod.mk.injEq] at hx
  obtain ⟨rfl, rfl⟩ := hx
  rw [Tryz.cells40] at hel
  have hone : ∀ i, i < len → ∃ o : OpR, (∃ b k, a = ⟨b, k, none⟩ ∧ b < W.heap.size ∧ W.rangeAt b (k + i * 24) o.cells) ∧ o.s.size ≤ 140737488351232 ∧ o.t.size ≤ 140737488351232 ∧ o.u.size ≤ 140737488351232 ∧ OpOk enc W o := by
    intro i hi
    obtain ⟨cs', hc, ht⟩ := hel i (by rw [hm]; simp; omega)
    obtain ⟨o, dD, dE, dP, m', pP, rfl, hd, wk, wa, wb, wc, hld, hle, hp⟩ := open_op ht
    have hin : ∀ x ∈ (D i).weights Tryz.prog 43, x ≤ reachBytes := fun x hx => by
      refine hsz x ?_
      simp only [DataW.weights, Tryz.underlying22, List.mem_cons, List.mem_append]
      exact Or.inr (Or.inl (weightsAll_in (List.mem_map.2 ⟨i, List.mem_range.2 hi, rfl⟩) x hx))
    simp only at hd
    rw [hd] at hin
    simp only [DataW.weights, Tryz.underlying43, List.map_cons, List.map_nil, DataW.weightsEach, List.nil_append, List.append_nil, List.mem_append, List.mem_singleton] at hin
    have hr : reachBytes = 140737488351232 := rfl
    have z4 := hin o.s.data.toList.length (by simp)
    have z5 := hin o.t.data.toList.length (by simp)
    have z6 := hin o.u.data.toList.length (by simp)
    rw [hr, Array.length_toList, ByteArray.size_data] at z4 z5 z6
    have hcell : ∀ j v, o.cells[j]? = some v → W.cell? ((a.add (i * 24)).add j) = some v := fun j v hv => by
      unfold World.cells? at hc
      rw [if_pos (Nat.zero_le _)] at hc
      have hj : j < 24 := (List.getElem?_eq_some_iff.1 hv).1
      have := mapM_some_get hc j j (by simp [hj])
      rw [this]; exact hv
    obtain ⟨b, k, sp⟩ := a
    have h0 := hcell 1 (.int .i64 o.a) rfl
    have hs : sp = none := by
      by_cases hi0 : i = 0
      · subst hi0
        have h00 := hcell 0 (.int .i64 o.kind) rfl
        simpa [Addr.add] using World.cell?_spot h00
      · obtain ⟨cs0, hc0, _⟩ := hel 0 (by rw [hm]; simp; omega)
        unfold World.cells? at hc0
        rw [if_pos (Nat.zero_le _)] at hc0
        have h00 := mapM_some_get hc0 0 0 (by simp)
        have hlen := mapM_some_length hc0
        simp at hlen
        rw [List.getElem?_eq_getElem (by omega)] at h00
        simpa [Addr.add] using World.cell?_spot h00
    subst hs
    have hra : W.rangeAt b (k + i * 24) o.cells := fun j v hv => by
      have := hcell j v hv
      rw [addr_add, addr_add] at this
      exact this
    exact ⟨o, ⟨b, k, rfl, cell_lt (hra 0 (.int .i64 o.kind) rfl), hra⟩, z4, z5, z6, wk, wa, wb, wc, hld, hle, m', dP, pP, hp, fun x hx => hin x (by simp [hx])⟩
  obtain ⟨f, hf⟩ := @choose_lt OpR ⟨⟨0, 0, 0, 0, ⟨#[]⟩, ⟨#[]⟩, ⟨#[]⟩, [], [], .slice none 0 0⟩⟩ len _ hone
  refine ⟨f, fun i hi => ?_, by omega, fun i hi => (hf i hi).2.2.2.2⟩
  obtain ⟨⟨b, k, rfl, hb, hra⟩, h4, h5, h6, _⟩ := hf i hi
  exact ⟨b, k, rfl, hb, hra, h4, h5, h6⟩
end
end Go.Proofs.YtekegfbjbainhaaGreat
