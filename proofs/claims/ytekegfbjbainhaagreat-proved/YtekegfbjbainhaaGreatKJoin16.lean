import Derived.Test.YtekegfbjbainhaaGreatKJoin2
import Derived.Test.YtekegfbjbainhaaGreatKJoin1
import Derived.Deep.RegionHeld3
import Derived.Deep.DrawnRows
import Derived.Stop.BytesEq
import Derived.Deep.RegionWith
import Derived.Deep.MidRow
import Derived.Deep.QuietTactic
import Derived.BigQuiet
/- The statement's own steps, as far as Digest goes. -/
namespace Go.Proofs.YtekegfbjbainhaaGreat
set_option linter.unusedVariables false
set_option linter.unusedSimpArgs false
open Go.RowKit

set_option maxRecDepth 100000 in
set_option maxHeartbeats 400000 in
theorem looks_nil (b o : Nat) (w : World) (h0 : w.cell? ⟨b, o, none⟩ = some (.slice none 0 0)) (h1 : w.cell? ⟨b, o + 1, none⟩ = some (.slice none 0 0)) (h2 : w.cell? ⟨b, o + 2, none⟩ = some (.slice none 0 0)) :
    Calls Tryz.prog 13 #[.pointer (some ⟨b, o, none⟩)] w fun e w' => e = .returned (.bool true) ∧ w' = w := by
  go_enter Tryz.func13, Tryz.ntmps13
  go_wp2
  go_rounds 1
  go_rounds 1
  go_rounds 1
  go_ret
  exact ⟨rfl, rfl⟩

set_option maxRecDepth 100000 in
set_option maxHeartbeats 800000 in
theorem free_digest (cs : List Value) (oa : Int) (s : ByteArray) (p : Value) (w : World) (k0 : cs[0]? = some (.int .i64 1)) (k1 : cs[1]? = some (.int .i64 oa)) (k4 : cs[4]? = some (.string s)) (hs : s.size ≤ 140737488351232) :
    Calls Tryz.prog 19 #[p, .agg cs.toArray] w fun e w' => e = .returned (.bool true) ∧ Below w.heap.size w w' := by
  go_enter Tryz.func19, Tryz.ntmps19
  go_wp2_with fail
  refine (lent_ok s _ _ hs).mono ?_
  rintro e w1 ⟨a, cap, rfl, hl1, hb1, hz1⟩
  simp only [World.size_alloc] at hb1 hz1 hl1
  go_wp2_with fail
  refine (digest_any a _ cap s.data.toList w1 (by simp) (by simp; unfold maxLen; omega) hl1.sl).mono ?_
  rintro e w2 ⟨rfl, hb2⟩
  obtain ⟨x0, x1, x2, x3, x4, x5, x6, x7, hx⟩ := digV_form s.data.toList
  have HX : Hid (digV s.data.toList = _) := hx
  rw [hx]
  clear hx
  have c4 : w2.cell? ⟨w.heap.size, 4, none⟩ = some (.string s) := by
    rw [hb2.cell (p := ⟨w.heap.size, 4, none⟩) (by have := hb1.size; simp at this; show w.heap.size < _; omega), hb1.cell (p := ⟨w.heap.size, 4, none⟩) (by show w.heap.size < _; omega)]
    simp [go_sem, k4]
  have z2 := hb2.size
  have z1 := hb1.size
  simp only [World.size_alloc] at z1
  have c4a : ∀ X : Obj, (w2.alloc X).cell? ⟨w.heap.size, 4, none⟩ = some (.string s) := fun X => by
    rw [← c4]; exact Below.cell (B := w2.heap.size) ((Below.refl _ _).alloc (Nat.le_refl _) _) (p := ⟨w.heap.size, 4, none⟩) (by show w.heap.size < _; omega)
  go_wp2_with fail
  refine (back_ok s a cap (w.heap.size + 1) _ hs ?_).mono ?_
  · exact (hl1.below hb2 (Nat.le_refl _)).below ((Below.refl _ _).alloc (Nat.le_refl _) _) (Nat.le_refl _)
  rintro e w3 ⟨rfl, hf3, hz3⟩
  simp only [World.size_alloc] at hz3
  have hlt := fun k (hk : a = some ⟨k, 0, none⟩) => hl1.lt hk
  have d4 : w3.cell? ⟨w.heap.size, 4, none⟩ = some (.string s) := by
    rw [← c4a]
    exact World.cell?_of_block (hf3.block _ (by show w.heap.size < _; simp; omega) (fun e => by have := hlt _ e; simp only at this; omega))
  have hd : RowV w3 w2.heap.size 36 [.int .u8 x0, .int .u8 x1, .int .u8 x2, .int .u8 x3, .int .u8 x4, .int .u8 x5, .int .u8 x6, .int .u8 x7] :=
    (RowV.new w2 36 _).of_block (hf3.block _ (by simp) (fun e => by have := hlt _ e; omega))
  have e0 := hd.cell 0 (by simp)
  have e1 := hd.cell 1 (by simp)
  have e2 := hd.cell 2 (by simp)
  have e3 := hd.cell 3 (by simp)
  have e4 := hd.cell 4 (by simp)
  have e5 := hd.cell 5 (by simp)
  have e6 := hd.cell 6 (by simp)
  have e7 := hd.cell 7 (by simp)
  simp only [List.getElem_cons_zero, List.getElem_cons_succ] at e0 e1 e2 e3 e4 e5 e6 e7
  have hcv := fun w => run_bytes_of_string (P := Tryz.prog) w 9 38 5 s Tryz.underlying9 Tryz.underlying38 Tryz.underlying5
  have hB3 : Hid (Below w.heap.size w w3) := by
    have h1 : Below w.heap.size w w2 := (((Below.refl _ _).alloc (Nat.le_refl _) _).trans (hb1.mono (by omega))).trans (hb2.mono (by omega))
    exact (h1.alloc (by omega) _).trans (hf3.below (by simp; omega) (fun k hk => by have := hlt _ hk; omega))
  clear c4 c4a hf3 hb2 hb1 hl1 hd hlt
  have heq : ∀ w, (Op.equalIn 10000 36 (Value.agg #[.int .u8 x0, .int .u8 x1, .int .u8 x2, .int .u8 x3, .int .u8 x4, .int .u8 x5, .int .u8 x6, .int .u8 x7]) (Value.agg #[.int .u8 x0, .int .u8 x1, .int .u8 x2, .int .u8 x3, .int .u8 x4, .int .u8 x5, .int .u8 x6, .int .u8 x7])).run Tryz.prog w = .ok true w := fun w => by
    have h := run_equalIn_bytes (P := Tryz.prog) w 9998 36 5 8 Tryz.underlying36 Tryz.underlying5 Tryz.sizeU8 (digB s.data.toList) (digB s.data.toList) rfl rfl
    rw [beq_self_eq_true] at h
    rw [← HX.out]
    exact h
  have g1 : w2.heap.size < w3.heap.size := by omega
  have g2 : w.heap.size < w3.heap.size := by omega
  clear hz3 hz1 z1 z2
  go_wp2
  go_region_with (first | (go_at_call 10; refine (refDigest_any _ _ _ s.data.toList _ (by simp) (by simp; unfold maxLen; omega) (by exact SlB.mk (by simp) (bytes_of_string _ _ _ _ _))).mono ?_; rintro e w4 ⟨rfl, hb4⟩; obtain ⟨hc4, _⟩ := bcell hb4; rw [HX.out]))
  all_goals
    go_wp2
    go_ret
    refine ⟨rfl, Below.trans ?_ (hb4.mono (by simp only [World.size_alloc, World.size_drew]; omega))⟩
    repeat' (first | (with_reducible exact hB3.out) | (with_reducible refine Below.drew ?_) | (with_reducible refine Below.alloc ?_ ?_ _) | omega | (simp only [World.size_alloc, World.size_drew]; omega))
end Go.Proofs.YtekegfbjbainhaaGreat

/- The statement's steps, as far as Digest goes: one step, the whole script. -/
namespace Go.Proofs.YtekegfbjbainhaaGreat
set_option linter.unusedVariables false
set_option linter.unusedSimpArgs false
open Go.RowKit

theorem rangeAt_new (w : World) (cs : List Value) (t : TypeId) : (w.alloc (.cells cs.toArray t)).rangeAt w.heap.size 0 cs := fun j v hv => by
  rw [Nat.zero_add, World.cell?_alloc_new]; simpa using hv
theorem Tryz.rowOp : ∃ d, Tryz.prog.underlying 43 = some d ∧ d.isRow = true := ⟨_, Tryz.underlying43, rfl⟩
theorem Tryz.sizeOp : (Tryz.prog.info? 43).map (·.size) = some 24 := by kernel_rfl

set_option maxRecDepth 100000 in
set_option maxHeartbeats 800000 in
theorem step_digest (cs : List Value) (oa : Int) (s : ByteArray) (p : Value) (w : World) (hlen : cs.length = 24) (k0 : cs[0]? = some (.int .i64 1)) (k1 : cs[1]? = some (.int .i64 oa)) (k4 : cs[4]? = some (.string s)) (hs : s.size ≤ 140737488351232) :
    Calls Tryz.prog 12 #[p, .agg cs.toArray] w fun e w' => e = .returned (.bool true) ∧ Below w.heap.size w w' := by
  obtain ⟨d, hd1, hd2⟩ := Tryz.rowOp
  have hsz : Hid ((Tryz.prog.info? 43).map (·.size) = some cs.length) := by rw [hlen]; exact Tryz.sizeOp
  have HD : Hid (Tryz.prog.underlying 43 = some d) := hd1
  have HD2 : Hid (d.isRow = true) := hd2
  have HL : Hid (cs.length = 24) := hlen
  clear hd1 hd2 hlen
  go_enter Tryz.func12, Tryz.ntmps12
  go_wp2_with (refine wpList_load_mid (by rfl) 43 (.tmp 3) (by rfl) w.heap.size 0 (by rfl) cs d (rangeAt_new w cs 43) HD.out HD2.out hsz.out ?_)
  refine (free_digest cs oa s p _ k0 k1 k4 hs).mono ?_
  rintro e w1 ⟨rfl, hb1⟩
  go_wp2
  go_ret
  exact ⟨rfl, ((Below.refl _ _).alloc (Nat.le_refl _) _).trans (hb1.mono (by simp))⟩

/-- The script as it lies: n steps of 24 cells each. -/
def ScriptAt (w : World) (a : Option Addr) (n : Nat) (f : Nat → OpR) : Prop :=
  ∀ i, i < n → ∃ b o, a = some ⟨b, o, none⟩ ∧ b < w.heap.size ∧ w.rangeAt b (o + i * 24) (f i).cells ∧ (f i).s.size ≤ 140737488351232 ∧ (f i).t.size ≤ 140737488351232 ∧ (f i).u.size ≤ 140737488351232

/-- The kinds that are played lie at ⟨kb, 0⟩. -/
def KindsAt (w : World) (kb : Nat) (ks : List Int) : Prop := ∀ j (h : j < ks.length), w.cell? ⟨kb, j, none⟩ = some (.int .i64 ks[j])

theorem any_snoc (ks : List Int) (j : Nat) (h : j < ks.length) (x : Int) : (ks.take (j + 1)).any (fun y => x == y) = ((ks.take j).any (fun y => x == y) || x == ks[j]) := by
  rw [List.take_succ_eq_append_getElem h, List.any_append]; simp

set_option maxRecDepth 100000 in
set_option maxHeartbeats 800000 in
/-- THE DRIVER: whatever invariant each step and each look keeps, the whole script keeps it, and answers true. -/
theorem plays_any (a : Option Addr) (n cap kb : Nat) (k0 : Int) (ks : List Int) (f : Nat → OpR) (w : World) (Inv : World → Prop) (Ok : OpR → Prop) (hn : n ≤ maxLen) (hs : ScriptAt w a n f) (hok : ∀ i, i < n → Ok (f i))
    (hkb : kb < w.heap.size) (hkl : (k0 :: ks).length ≤ maxLen) (hk : KindsAt w kb (k0 :: ks))
    (hI0 : Inv (w.alloc (.cells #[.slice none 0 0, .slice none 0 0, .slice none 0 0, .slice none 0 0] 34)))
    (hIB : ∀ wr, Inv wr → Below w.heap.size w wr) (hId : ∀ wr m, Inv wr → Inv (wr.drewN m))
    (hstep0 : ∀ wr, Inv wr → Calls Tryz.prog 12 #[.pointer (some ⟨w.heap.size, 0, none⟩), .agg #[.int .i64 k0, .int .i64 0, .int .i64 0, .int .i64 0, .string ⟨#[99, 97, 105, 114, 110]⟩, .string ⟨#[]⟩, .string ⟨#[]⟩, .int .u8 0, .int .u8 0, .int .u8 0, .int .u8 0, .int .u8 0, .int .u8 0, .int .u8 0, .int .u8 0,
      .int .u8 0, .int .u8 0, .int .u8 0, .int .u8 0, .int .u8 0, .int .u8 0, .int .u8 0, .int .u8 0, .slice none 0 0]] wr fun e w' => e = .returned (.bool true) ∧ Inv w')
    (hstep : ∀ wr o, Inv wr → Ok o → o.kind ∈ k0 :: ks → o.s.size ≤ 140737488351232 → o.t.size ≤ 140737488351232 → o.u.size ≤ 140737488351232 →
      Calls Tryz.prog 12 #[.pointer (some ⟨w.heap.size, 0, none⟩), .agg o.cells.toArray] wr fun e w' => e = .returned (.bool true) ∧ Inv w')
    (hlooks : ∀ wr, Inv wr → Calls Tryz.prog 13 #[.pointer (some ⟨w.heap.size, 1, none⟩)] wr fun e w' => e = .returned (.bool true) ∧ Inv w') :
    Calls Tryz.prog 9 #[.slice a n cap, .slice (some ⟨kb, 0, none⟩) (k0 :: ks).length (k0 :: ks).length] w fun e w' => e = .returned (.bool true) ∧ Inv w' := by
  have H0 : Hid (∀ wr, Inv wr → _) := hstep0
  have H1 : Hid (∀ wr o, Inv wr → _) := hstep
  have H2 : Hid (∀ wr, Inv wr → _) := hlooks
  have HB : Hid (∀ wr, Inv wr → _) := hIB
  have HD : Hid (∀ wr m, Inv wr → _) := hId
  clear hstep0 hstep hlooks hIB hId
  have hkc := hk 0 (by simp)
  have HK : Hid (KindsAt w kb (k0 :: ks)) := hk
  have HKL : Hid ((k0 :: ks).length ≤ maxLen) := hkl
  simp only [List.getElem_cons_zero] at hkc
  unfold maxLen at hn hkl
  have hkl1 : (1 : Int) ≤ ((k0 :: ks).length : Int) := by simp; omega
  generalize hL : (k0 :: ks) = L at *
  have HL : Hid (k0 :: ks = L) := hL
  clear hL hk
  go_enter Tryz.func9, Tryz.ntmps9
  go_wp2_with fail
  refine (H0.out _ hI0).mono ?_
  rintro e w1 ⟨rfl, hI1⟩
  go_wp2
  go_loopw [6, 7, 8, 9] (fun ok i _ _ wr => ∃ k : Nat, k ≤ n ∧ i = .int .i64 k ∧ ok = .bool true ∧ Inv wr) (fun _ i _ _ _ => n - (intOf i).toNat)
  case atStart => exact ⟨0, by omega, by simp, by simp, hI1⟩
  case round =>
    obtain ⟨k, hkn, rfl, rfl, hI⟩ := hrel
    by_cases hlt : k < n
    · obtain ⟨b, o, rfl, hb, hr, hs1, hs2, hs3⟩ := hs k hlt
      have hB := HB.out _ hI
      have hr2 : wr.rangeAt b (o + k * 24) (f k).cells := fun j v hv => by rw [hB.cell (p := ⟨b, o + k * 24 + j, none⟩) hb]; exact hr j v hv
      have kc := hr2 0 (.int .i64 (f k).kind) rfl
      rw [Nat.add_zero] at kc
      have HR : Hid (wr.rangeAt b (o + k * 24) (f k).cells) := hr2
      clear hr2
      go_wp2
      go_loopw [8, 9] (fun inn j w' => ∃ (q m : Nat), q ≤ L.length ∧ j = .int .i64 q ∧ inn = .bool ((L.take q).any (fun y => (f k).kind == y)) ∧ w' = wr.drewN m) (fun _ j _ => L.length - (intOf j).toNat)
      case atStart => exact ⟨0, 0, by omega, by simp, by simp, rfl⟩
      case round =>
        obtain ⟨q, m, hq, rfl, rfl, rfl⟩ := hrel
        by_cases hqlt : q < L.length
        · have hkq : wr.cell? ⟨kb, q, none⟩ = some (.int .i64 L[q]) := by rw [hB.cell (p := ⟨kb, q, none⟩) hkb]; exact HK.out q hqlt
          have HS : Hid (_ = _) := any_snoc L q hqlt (f k).kind
          generalize (L.take q).any (fun y => (f k).kind == y) = inn at *
          cases inn
          · go_wp2
            go_quiet (fail)
            go_wp2
            refine ⟨⟨q + 1, m + nq, by omega, by go_num, by rw [HS.out, Bool.false_or], rfl⟩, by simp [intOf]; omega⟩
          · go_wp2
            go_quiet (fail)
            go_wp2
            refine ⟨⟨q + 1, m + nq, by omega, by go_num, by rw [HS.out, Bool.true_or], rfl⟩, by simp [intOf]; omega⟩
        · have HE : Hid ((L.take q).any (fun y => (f k).kind == y) = L.any (fun y => (f k).kind == y)) := by
            unfold Hid; rw [List.take_of_length_le (by omega)]
          rw [HE.out]
          have hID := HD.out _ m hI
          have HM : Hid (L.any (fun y => (f k).kind == y) = true → (f k).kind ∈ L) := fun h => by
            obtain ⟨y, hy, he⟩ := List.any_eq_true.1 h
            rw [beq_iff_eq] at he
            rw [he]; exact hy
          generalize hany : L.any (fun y => (f k).kind == y) = bin at *
          have HA : Hid (L.any (fun y => (f k).kind == y) = bin) := hany
          clear hany
          cases bin
          · go_wp2
            refine ⟨⟨k + 1, by omega, by go_num, by simp, hID⟩, by simp [intOf]; omega⟩
          · obtain ⟨d, hd1, hd2⟩ := Tryz.rowOp
            have hmem : Hid ((f k).kind ∈ L) := HM.out rfl
            clear HM
            have hsz : Hid ((Tryz.prog.info? 43).map (·.size) = some (f k).cells.length) := Tryz.sizeOp
            have HD1 : Hid (Tryz.prog.underlying 43 = some d) := hd1
            have HD2 : Hid (d.isRow = true) := hd2
            clear hd1 hd2
            go_wp2_with (refine wpList_load_mid (by rfl) 43 (.tmp 50) (by rfl) b (o + k * 24) (by rfl) (f k).cells d (by exact HR.out) HD1.out HD2.out hsz.out ?_)
            refine (H1.out _ (f k) hID (hok k hlt) hmem.out hs1 hs2 hs3).mono ?_
            rintro e w2 ⟨rfl, hI2⟩
            go_wp2_with fail
            refine (H2.out _ hI2).mono ?_
            rintro e w3 ⟨rfl, hI3⟩
            go_wp2
            refine ⟨⟨k + 1, by omega, by go_num, by simp, hI3⟩, by simp [intOf]; omega⟩
    · go_wp2
      go_ret
      exact ⟨rfl, hI⟩

/-- What stands while digests alone are asked: no store, no list that came out. -/
def digInv (w wr : World) : Prop := Below w.heap.size w wr ∧ RowV wr w.heap.size 34 [.slice none 0 0, .slice none 0 0, .slice none 0 0, .slice none 0 0]
theorem digInv_start (w : World) : digInv w (w.alloc (.cells #[.slice none 0 0, .slice none 0 0, .slice none 0 0, .slice none 0 0] 34)) :=
  ⟨(Below.refl _ _).alloc (Nat.le_refl _) _, RowV.new w _ _⟩
theorem digInv.next {w wr w' : World} (h : digInv w wr) (hb : Below wr.heap.size wr w') : digInv w w' :=
  ⟨h.1.trans (hb.mono h.1.size), h.2.below h.2.lt hb⟩

set_option maxRecDepth 100000 in
set_option maxHeartbeats 800000 in
theorem digested_any (a : Option Addr) (n cap : Nat) (f : Nat → OpR) (w : World) (hn : n ≤ maxLen) (hs : ScriptAt w a n f) :
    Calls Tryz.prog 3 #[.slice a n cap] w fun e w' => e = .returned (.bool true) ∧ Below w.heap.size w w' := by
  go_enter Tryz.func3, Tryz.ntmps3
  go_wp2_with fail
  have hs' : ScriptAt (w.alloc (Obj.cells #[Value.int IntKind.i64 1] 3)) a n f := fun i hi => by
    obtain ⟨b, o, ha, hb, hr, h1, h2, h3⟩ := hs i hi
    exact ⟨b, o, ha, by simp; omega, fun j v hv => by rw [World.cell?_alloc_lt _ _ _ (by exact hb)]; exact hr j v hv, h1, h2, h3⟩
  refine (plays_any a n cap w.heap.size 1 [] f (w.alloc (Obj.cells #[Value.int IntKind.i64 1] 3)) (digInv (w.alloc (Obj.cells #[Value.int IntKind.i64 1] 3))) (fun _ => True) hn hs' (fun _ _ => trivial) (by simp) (by simp [maxLen])
    (fun j hj => by
      have : j = 0 := by simp at hj; omega
      subst this; simp) (digInv_start _) (fun wr h => h.1) (fun wr m h => ⟨⟨h.1.os, h.1.tape, h.1.output, h.1.size, h.1.block⟩, h.2⟩) ?_ ?_ ?_).mono ?_
  · intro wr hI
    refine (step_digest [.int .i64 1, .int .i64 0, .int .i64 0, .int .i64 0, .string ⟨#[99, 97, 105, 114, 110]⟩, .string ⟨#[]⟩, .string ⟨#[]⟩, .int .u8 0, .int .u8 0, .int .u8 0, .int .u8 0, .int .u8 0, .int .u8 0, .int .u8 0, .int .u8 0,
      .int .u8 0, .int .u8 0, .int .u8 0, .int .u8 0, .int .u8 0, .int .u8 0, .int .u8 0, .int .u8 0, .slice none 0 0] 0 ⟨#[99, 97, 105, 114, 110]⟩ _ _ rfl rfl rfl rfl (by decide)).mono ?_
    rintro e w1 ⟨rfl, hb⟩
    exact ⟨rfl, hI.next hb⟩
  · intro wr o hI _ hk h1 _ _
    have hk1 : o.kind = 1 := by simpa using hk
    refine (step_digest o.cells o.a o.s _ _ rfl (by rw [← hk1]; rfl) rfl rfl h1).mono ?_
    rintro e w1 ⟨rfl, hb⟩
    exact ⟨rfl, hI.next hb⟩
  · intro wr hI
    refine (looks_nil _ 1 wr (hI.2.cell 1 (by simp)) (hI.2.cell 2 (by simp)) (hI.2.cell 3 (by simp))).mono ?_
    rintro e w1 ⟨rfl, rfl⟩
    exact ⟨rfl, hI⟩
  · rintro e w1 ⟨rfl, hI⟩
    go_wp2
    go_ret
    exact ⟨rfl, ((Below.refl _ _).alloc (Nat.le_refl _) _).trans (hI.1.mono (by simp))⟩
end Go.Proofs.YtekegfbjbainhaaGreat
