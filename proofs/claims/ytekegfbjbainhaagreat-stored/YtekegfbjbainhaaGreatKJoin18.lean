import Derived.Test.YtekegfbjbainhaaGreatKJoin3
import Derived.Test.YtekegfbjbainhaaGreatKLaw13
import Derived.Test.YtekegfbjbainhaaGreatKJoin16
/- The whole script, with what stands counted by the steps. -/
namespace Go.Proofs.YtekegfbjbainhaaGreat
set_option linter.unusedVariables false
set_option linter.unusedSimpArgs false
open Go.RowKit

set_option maxRecDepth 100000 in
set_option maxHeartbeats 800000 in
/-- THE DRIVER: whatever invariant each step and each look keeps, the whole script keeps it, and answers true. -/
theorem plays_n (a : Option Addr) (n cap kb : Nat) (k0 : Int) (ks : List Int) (f : Nat → OpR) (w : World) (Inv : Nat → World → Prop) (Ok : OpR → Prop) (hn : n ≤ maxLen) (hs : ScriptAt w a n f) (hok : ∀ i, i < n → Ok (f i))
    (hkb : kb < w.heap.size) (hkl : (k0 :: ks).length ≤ maxLen) (hk : KindsAt w kb (k0 :: ks))
    (hI0 : Inv 0 (w.alloc (.cells #[.slice none 0 0, .slice none 0 0, .slice none 0 0, .slice none 0 0] 34)))
    (hIB : ∀ q wr, Inv q wr → Below w.heap.size w wr) (hId : ∀ q wr m, Inv q wr → Inv q (wr.drewN m)) (hIm : ∀ q wr, Inv q wr → Inv (q + 1) wr)
    (hstep0 : ∀ wr, Inv 0 wr → Calls Tryz.prog 12 #[.pointer (some ⟨w.heap.size, 0, none⟩), .agg #[.int .i64 k0, .int .i64 0, .int .i64 0, .int .i64 0, .string ⟨#[99, 97, 105, 114, 110]⟩, .string ⟨#[]⟩, .string ⟨#[]⟩, .int .u8 0, .int .u8 0, .int .u8 0, .int .u8 0, .int .u8 0, .int .u8 0, .int .u8 0, .int .u8 0,
      .int .u8 0, .int .u8 0, .int .u8 0, .int .u8 0, .int .u8 0, .int .u8 0, .int .u8 0, .int .u8 0, .slice none 0 0]] wr fun e w' => e = .returned (.bool true) ∧ Inv 1 w')
    (hstep : ∀ q wr o, q ≤ n → Inv q wr → Ok o → o.kind ∈ k0 :: ks → o.s.size ≤ 140737488351232 → o.t.size ≤ 140737488351232 → o.u.size ≤ 140737488351232 →
      Calls Tryz.prog 12 #[.pointer (some ⟨w.heap.size, 0, none⟩), .agg o.cells.toArray] wr fun e w' => e = .returned (.bool true) ∧ Inv (q + 1) w')
    (hlooks : ∀ q wr, Inv q wr → Calls Tryz.prog 13 #[.pointer (some ⟨w.heap.size, 1, none⟩)] wr fun e w' => e = .returned (.bool true) ∧ Inv q w') :
    Calls Tryz.prog 9 #[.slice a n cap, .slice (some ⟨kb, 0, none⟩) (k0 :: ks).length (k0 :: ks).length] w fun e w' => e = .returned (.bool true) ∧ ∃ q, Inv q w' := by
  have H0 : Hid (∀ wr, Inv 0 wr → _) := hstep0
  have H1 : Hid (∀ q wr o, q ≤ n → Inv q wr → _) := hstep
  have H2 : Hid (∀ q wr, Inv q wr → _) := hlooks
  have HB : Hid (∀ q wr, Inv q wr → _) := hIB
  have HD : Hid (∀ q wr m, Inv q wr → _) := hId
  have HM0 : Hid (∀ q wr, Inv q wr → Inv (q + 1) wr) := hIm
  clear hstep0 hstep hlooks hIB hId hIm
  have hkc := hk 0 (by simp)
  have HK : Hid (KindsAt w kb (k0 :: ks)) := hk
  have HKL : Hid ((k0 :: ks).length ≤ maxLen) := hkl
  simp only [List.getElem_cons_zero] at hkc
  unfold maxLen at hn hkl
  have hkl1 : (1 : Int) ≤ ((k0 :: ks).length : Int) := by simp; omega
  generalize hL : (k0 :: ks) = L at *
  have HL : Hid (k0 :: ks = L) := hL
  clear hL hk
  go_enter Tryz.func9, Tryz.ntmps9
  go_wp2_with fail
  refine (H0.out _ hI0).mono ?_
  rintro e w1 ⟨rfl, hI1⟩
  go_wp2
  go_loopw [6, 7, 8, 9] (fun ok i _ _ wr => ∃ k : Nat, k ≤ n ∧ i = .int .i64 k ∧ ok = .bool true ∧ Inv (k + 1) wr) (fun _ i _ _ _ => n - (intOf i).toNat)
  case atStart => exact ⟨0, by omega, by simp, by simp, hI1⟩
  case round =>
    obtain ⟨k, hkn, rfl, rfl, hI⟩ := hrel
    by_cases hlt : k < n
    · obtain ⟨b, o, rfl, hb, hr, hs1, hs2, hs3⟩ := hs k hlt
      have hB := HB.out _ _ hI
      have hr2 : wr.rangeAt b (o + k * 24) (f k).cells := fun j v hv => by rw [hB.cell (p := ⟨b, o + k * 24 + j, none⟩) hb]; exact hr j v hv
      have kc := hr2 0 (.int .i64 (f k).kind) rfl
      rw [Nat.add_zero] at kc
      have HR : Hid (wr.rangeAt b (o + k * 24) (f k).cells) := hr2
      clear hr2
      go_wp2
      go_loopw [8, 9] (fun inn j w' => ∃ (q m : Nat), q ≤ L.length ∧ j = .int .i64 q ∧ inn = .bool ((L.take q).any (fun y => (f k).kind == y)) ∧ w' = wr.drewN m) (fun _ j _ => L.length - (intOf j).toNat)
      case atStart => exact ⟨0, 0, by omega, by simp, by simp, rfl⟩
      case round =>
        obtain ⟨q, m, hq, rfl, rfl, rfl⟩ := hrel
        by_cases hqlt : q < L.length
        · have hkq : wr.cell? ⟨kb, q, none⟩ = some (.int .i64 L[q]) := by rw [hB.cell (p := ⟨kb, q, none⟩) hkb]; exact HK.out q hqlt
          have HS : Hid (_ = _) := any_snoc L q hqlt (f k).kind
          generalize (L.take q).any (fun y => (f k).kind == y) = inn at *
          cases inn
          · go_wp2
            go_quiet (fail)
            go_wp2
            refine ⟨⟨q + 1, m + nq, by omega, by go_num, by rw [HS.out, Bool.false_or], rfl⟩, by simp [intOf]; omega⟩
          · go_wp2
            go_quiet (fail)
            go_wp2
            refine ⟨⟨q + 1, m + nq, by omega, by go_num, by rw [HS.out, Bool.true_or], rfl⟩, by simp [intOf]; omega⟩
        · have HE : Hid ((L.take q).any (fun y => (f k).kind == y) = L.any (fun y => (f k).kind == y)) := by
            unfold Hid; rw [List.take_of_length_le (by omega)]
          rw [HE.out]
          have hID := HD.out _ _ m hI
          have HM : Hid (L.any (fun y => (f k).kind == y) = true → (f k).kind ∈ L) := fun h => by
            obtain ⟨y, hy, he⟩ := List.any_eq_true.1 h
            rw [beq_iff_eq] at he
            rw [he]; exact hy
          generalize hany : L.any (fun y => (f k).kind == y) = bin at *
          have HA : Hid (L.any (fun y => (f k).kind == y) = bin) := hany
          clear hany
          cases bin
          · go_wp2
            refine ⟨⟨k + 1, by omega, by go_num, by simp, HM0.out _ _ hID⟩, by simp [intOf]; omega⟩
          · obtain ⟨d, hd1, hd2⟩ := Tryz.rowOp
            have hmem : Hid ((f k).kind ∈ L) := HM.out rfl
            clear HM
            have hsz : Hid ((Tryz.prog.info? 43).map (·.size) = some (f k).cells.length) := Tryz.sizeOp
            have HD1 : Hid (Tryz.prog.underlying 43 = some d) := hd1
            have HD2 : Hid (d.isRow = true) := hd2
            clear hd1 hd2
            go_wp2_with (refine wpList_load_mid (by rfl) 43 (.tmp 50) (by rfl) b (o + k * 24) (by rfl) (f k).cells d (by exact HR.out) HD1.out HD2.out hsz.out ?_)
            refine (H1.out _ _ (f k) (by omega) hID (hok k hlt) hmem.out hs1 hs2 hs3).mono ?_
            rintro e w2 ⟨rfl, hI2⟩
            go_wp2_with fail
            refine (H2.out _ _ hI2).mono ?_
            rintro e w3 ⟨rfl, hI3⟩
            go_wp2
            refine ⟨⟨k + 1, by omega, by go_num, by simp, hI3⟩, by simp [intOf]; omega⟩
    · go_wp2
      go_ret
      exact ⟨rfl, _, hI⟩

end Go.Proofs.YtekegfbjbainhaaGreat

/- The script of New, Put, Delete and Commit, whole. -/
namespace Go.Proofs.YtekegfbjbainhaaGreat
set_option linter.unusedVariables false
set_option linter.unusedSimpArgs false
open Go.RowKit

/-- What stands behind at most q steps. -/
def bk0 : BkV := (.slice none 0 0, .slice none 0 0, .slice none 0 0)
def lawInv (w : World) (q : Nat) (wr : World) : Prop := Below w.heap.size w wr ∧ ∃ ps ds, LawAt bk0 wr w.heap.size ps ds ∧ ds.length ≤ q
theorem lawInv_start (w : World) : lawInv w 0 (w.alloc (.cells #[.slice none 0 0, .slice none 0 0, .slice none 0 0, .slice none 0 0] 34)) :=
  ⟨(Below.refl _ _).alloc (Nat.le_refl _) _, ⟨none, 0, 0⟩, [], ⟨RowV.new w _ _, World.ownsRow_nil _ _ _ _, fun d hd => (by cases hd), fun d hd => (by cases hd), fun k hk => (by cases hk), fun i j d e _ h => (by simp at h)⟩, Nat.le_refl _⟩
theorem lawInv.mono {w wr : World} {q : Nat} (h : lawInv w q wr) : lawInv w (q + 1) wr := by
  obtain ⟨h1, ps, ds, h2, h3⟩ := h
  exact ⟨h1, ps, ds, h2, by omega⟩
theorem lawInv.drew {w wr : World} {q : Nat} (m : Nat) (h : lawInv w q wr) : lawInv w q (wr.drewN m) := by
  obtain ⟨h1, ps, ds, h2, h3⟩ := h
  have hb := Below.refl wr.heap.size wr
  exact ⟨⟨h1.os, h1.tape, h1.output, h1.size, h1.block⟩, ps, ds, h2.below ⟨hb.os, hb.tape, hb.output, hb.size, hb.block⟩, h3⟩

/-- What the three kinds of steps on a store promise. -/
def StoredOk (cs : List Value) : Prop := ∀ (p : Value) (W : World) (d : PairD), PairOk W d → Calls Tryz.prog 21 #[p, .agg cs.toArray, .pointer (some ⟨d.pb, 0, none⟩)] W fun e w' => e = .returned (.bool true) ∧ Stepped d W w'

theorem lawInv_new (w wr : World) (q : Nat) (cs : List Value) (hI : lawInv w q wr) (hlen : cs.length = 24) (k0 : cs[0]? = some (.int .i64 2)) (hq : q + 1 ≤ 17592186044416) :
    Calls Tryz.prog 12 #[.pointer (some ⟨w.heap.size, 0, none⟩), .agg cs.toArray] wr fun e w' => e = .returned (.bool true) ∧ lawInv w (q + 1) w' := by
  obtain ⟨h1, ps, ds, h2, h3⟩ := hI
  refine (step_store cs w.heap.size ps ds wr h2 hlen k0 (by omega)).mono ?_
  rintro e w' ⟨rfl, ⟨ps', d, h4, _, _⟩, hf⟩
  refine ⟨rfl, h1.trans (hf.below h1.size (fun k hk => ?_)), ps', _, h4, by simp; omega⟩
  rcases hk with rfl | hk
  · exact Nat.le_refl _
  · exact Nat.le_of_lt (h2.psb k hk)
theorem lawInv_old (w wr : World) (q : Nat) (cs : List Value) (kk oa : Int) (hI : lawInv w q wr) (hlen : cs.length = 24) (k0 : cs[0]? = some (.int .i64 kk)) (hk : kk = 3 ∨ kk = 4 ∨ kk = 5) (k1 : cs[1]? = some (.int .i64 oa)) (ha1 : -9223372036854775808 ≤ oa) (ha2 : oa ≤ 9223372036854775807) (hst : StoredOk cs) :
    Calls Tryz.prog 12 #[.pointer (some ⟨w.heap.size, 0, none⟩), .agg cs.toArray] wr fun e w' => e = .returned (.bool true) ∧ lawInv w (q + 1) w' := by
  obtain ⟨h1, ps, ds, h2, h3⟩ := hI
  by_cases hn : ds.length = 0
  · have hnil : ds = [] := List.length_eq_zero_iff.1 hn
    subst hnil
    refine (step_none cs kk w.heap.size ps wr h2 k0 hk).mono ?_
    rintro e w' ⟨rfl, hb⟩
    exact ⟨rfl, h1.trans (hb.mono h1.size), ps, [], h2.below hb, by omega⟩
  · refine (step_pair cs kk oa w.heap.size ps ds wr h2 hlen k0 hk k1 ha1 ha2 (by omega) (fun W d => hst _ W d)).mono ?_
    rintro e w' ⟨rfl, W, d, hd, hb, hs, i, hi⟩
    obtain ⟨ds', h4, h5, _⟩ := (h2.below hb).step hi hs
    obtain ⟨_, _, _, hf, _⟩ := hs
    refine ⟨rfl, (h1.trans (hb.mono h1.size)).trans (hf.below (Nat.le_trans h1.size hb.size) (fun k hk => Nat.le_of_lt (h2.low d hd k hk).1)), ps, ds', h4, by omega⟩

set_option maxRecDepth 100000 in
set_option maxHeartbeats 800000 in
theorem stored_law (a : Option Addr) (n cap : Nat) (f : Nat → OpR) (w : World) (hn : n ≤ 17592186044415) (hs : ScriptAt w a n f) (ho : ∀ i, i < n → -9223372036854775808 ≤ (f i).a ∧ (f i).a ≤ 9223372036854775807)
    (hst : ∀ o : OpR, (o.kind = 3 ∨ o.kind = 4 ∨ o.kind = 5) → o.s.size ≤ 140737488351232 → o.t.size ≤ 140737488351232 → StoredOk o.cells) :
    Calls Tryz.prog 4 #[.slice a n cap] w fun e w' => e = .returned (.bool true) ∧ Below w.heap.size w w' := by
  have HN : Hid (n ≤ 17592186044415) := hn
  clear hn
  go_enter Tryz.func4, Tryz.ntmps4
  go_wp2_with fail
  have hs' : ScriptAt (w.alloc (Obj.cells #[Value.int IntKind.i64 2, Value.int IntKind.i64 3, Value.int IntKind.i64 4, Value.int IntKind.i64 5] 3)) a n f := fun i hi => by
    obtain ⟨b, o, ha, hb, hr, h1, h2, h3⟩ := hs i hi
    exact ⟨b, o, ha, by simp; omega, fun j v hv => by rw [World.cell?_alloc_lt _ _ _ (by exact hb)]; exact hr j v hv, h1, h2, h3⟩
  refine (plays_n a n cap w.heap.size 2 [3, 4, 5] f (w.alloc (Obj.cells #[Value.int IntKind.i64 2, Value.int IntKind.i64 3, Value.int IntKind.i64 4, Value.int IntKind.i64 5] 3)) (lawInv (w.alloc (Obj.cells #[Value.int IntKind.i64 2, Value.int IntKind.i64 3, Value.int IntKind.i64 4, Value.int IntKind.i64 5] 3)))
    (fun o => -9223372036854775808 ≤ o.a ∧ o.a ≤ 9223372036854775807) (by have := HN.out; unfold maxLen; omega) hs' ho (by simp) (by simp [maxLen])
    (fun j hj => by
      have hj4 : j < 4 := by simpa using hj
      match j, hj4 with
      | 0, _ => simp [go_sem]
      | 1, _ => simp [go_sem]
      | 2, _ => simp [go_sem]
      | 3, _ => simp [go_sem]) (lawInv_start _) (fun q wr h => h.1) (fun q wr m h => h.drew m) (fun q wr h => h.mono) ?_ ?_ ?_).mono ?_
  · intro wr hI
    exact lawInv_new _ wr 0 _ hI rfl rfl (by omega)
  · intro q wr o hq hI hoo hk h1 h2 _
    have hk' : o.kind = 2 ∨ o.kind = 3 ∨ o.kind = 4 ∨ o.kind = 5 := by simpa using hk
    rcases hk' with hk' | hk'
    · exact lawInv_new _ wr q o.cells hI rfl (by rw [← hk']; rfl) (by have := HN.out; omega)
    · exact lawInv_old _ wr q o.cells o.kind o.a hI rfl rfl hk' rfl hoo.1 hoo.2 (hst o hk' h1 h2)
  · intro q wr hI
    obtain ⟨h1, ps, ds, h2, h3⟩ := hI
    refine (looks_nil _ 1 wr (h2.row.cell 1 (by simp)) (h2.row.cell 2 (by simp)) (h2.row.cell 3 (by simp))).mono ?_
    rintro e w1 ⟨rfl, rfl⟩
    exact ⟨rfl, h1, ps, ds, h2, h3⟩
  · rintro e w1 ⟨rfl, q, hI⟩
    go_wp2
    go_ret
    exact ⟨rfl, ((Below.refl _ _).alloc (Nat.le_refl _) _).trans (hI.1.mono (by simp))⟩
end Go.Proofs.YtekegfbjbainhaaGreat

/- A step of Put, walked. -/
namespace Go.Proofs.YtekegfbjbainhaaGreat
set_option linter.unusedVariables false
set_option linter.unusedSimpArgs false
open Go.RowKit

theorem BS.ofString' (b : Nat) (w : World) (s : ByteArray) (cap : Nat) (t : TypeId) (fr : Nat × Nat) (hb : b = w.heap.size) : BS (w.alloc (.cells (bytesRow s cap) t fr)) ⟨some ⟨b, 0, none⟩, s.size, cap⟩ s.data.toList := by
  subst hb; exact BS.ofString _ _ _ _ _
theorem BS.alloc {w : World} {s : SlR} {l : List UInt8} (h : BS w s l) (X : Obj) : BS (w.alloc X) s l := h.below ((Below.refl _ _).alloc (Nat.le_refl _) _)

set_option maxRecDepth 100000 in
set_option maxHeartbeats 2000000 in
theorem stored_put (d : PairD) (cs : List Value) (ob : Int) (s t : ByteArray) (p : Value) (w : World) (h : PairOk w d) (k0 : cs[0]? = some (.int .i64 3)) (k2 : cs[2]? = some (.int .i64 ob)) (k4 : cs[4]? = some (.string s)) (k5 : cs[5]? = some (.string t)) (hs : s.size ≤ 140737488351232) (ht : t.size ≤ 140737488351232) :
    Calls Tryz.prog 21 #[p, .agg cs.toArray, .pointer (some ⟨d.pb, 0, none⟩)] w fun e w' => e = .returned (.bool true) ∧ Stepped d w w' := by
  have HA : Hid (Below w.heap.size w (w.alloc (.cells cs.toArray 43))) := (Below.refl _ _).alloc (Nat.le_refl _) _
  have hsm : s.data.toList.length ≤ maxLen := by simp; unfold maxLen; omega
  have HSM : Hid (s.data.toList.length ≤ maxLen) := hsm
  have htm : t.data.toList.length ≤ maxLen := by simp; unfold maxLen; omega
  have HTM : Hid (t.data.toList.length ≤ maxLen) := htm
  have hpb : d.pb < w.heap.size := RowV.lt h.lay.row
  clear hsm htm
  go_enter Tryz.func21, Tryz.ntmps21
  go_wp2_with fail
  refine (lent_ok s _ _ hs).mono ?_
  rintro e w0 ⟨a, cap, rfl, hl0, hb0, hz0⟩
  simp only [World.size_alloc] at hb0 hz0 hl0
  have z0 := hb0.size
  simp only [World.size_alloc] at z0
  have q2 : w0.cell? ⟨w.heap.size, 2, none⟩ = some (.int .i64 ob) := by
    rw [hb0.cell (p := ⟨w.heap.size, 2, none⟩) (by show w.heap.size < _; omega)]; simp [go_sem, k2]
  have q5 : w0.cell? ⟨w.heap.size, 5, none⟩ = some (.string t) := by
    rw [hb0.cell (p := ⟨w.heap.size, 5, none⟩) (by show w.heap.size < _; omega)]; simp [go_sem, k5]
  go_wp2_with fail
  refine (lent_ok t _ _ ht).mono ?_
  rintro e w1 ⟨ta, tcap, rfl, hm1, hb1, hz1⟩
  have z1 := hb1.size
  have hl1 : LentAt w1 (w.heap.size + 1) s a cap := hl0.below hb1 (Nat.le_refl _)
  have HB1 : Hid (Below w.heap.size w w1) := (HA.out.trans (hb0.mono (by omega))).trans (hb1.mono (by omega))
  have HP1 := h.lay.below HB1.out
  have r0 : w1.cell? ⟨d.pb, 0, none⟩ = some (.pointer (some ⟨d.sb, 0, none⟩)) := RowV.cell HP1.row 0 (by simp)
  have HSD : Hid (Calls _ _ _ _ _) := sto_put d.sb d.N d.en d.tr d.mp d.es d.xs d.its d.tds ⟨a, s.size, cap⟩ ⟨ta, t.size, tcap⟩ s.data.toList t.data.toList w1 HP1.sto hl1.bs hm1.bs HSM.out HTM.out
  unfold SlR.val at HSD
  go_wp2_with fail
  refine HSD.out.mono ?_
  rintro e w2 ⟨rfl, en, xs, hs2, hf2, hn2⟩
  have hdF : ∀ k, d.F k → k < w.heap.size := h.lay.lt
  have hsbF : d.sb < w.heap.size := RowV.lt h.lay.sto.row
  obtain ⟨HP2, hF2⟩ := HP1.setSto hs2 hf2 (fun k e => by subst e; exact Or.inl (Or.inl rfl)) hn2 (HP1.tre.next hf2 (fun k e => Or.inl e) (fun k hk _ => hk)) (fun k hk _ => Or.inr hk)
  have z2 := hf2.size
  have hl2 : LentAt w2 (w.heap.size + 1) s a cap := hl1.frame hf2 (by omega)
  have hm2 : LentAt w2 w0.heap.size t ta tcap := hm1.frame hf2 (by omega)
  have hop : ∀ i v, cs[i]? = some v → w2.cell? ⟨w.heap.size, i, none⟩ = some v := fun i v hv => by
    rw [World.cell?_of_block (a := ⟨w.heap.size, i, none⟩) (hf2.block w.heap.size (by omega) (by omega)), hb1.cell (p := ⟨w.heap.size, i, none⟩) (by show w.heap.size < _; omega), hb0.cell (p := ⟨w.heap.size, i, none⟩) (by show w.heap.size < _; omega)]
    simp [go_sem, hv]
  have c4 := hop 4 _ k4
  go_wp2_with fail
  refine (back_ok s a cap (w.heap.size + 1) _ hs hl2).mono ?_
  rintro e w3 ⟨rfl, hf3, hz3⟩
  have hlt := fun k (hk : a = some ⟨k, 0, none⟩) => hl1.lt hk
  have hop3 : ∀ i v, cs[i]? = some v → w3.cell? ⟨w.heap.size, i, none⟩ = some v := fun i v hv => by
    rw [← hop i v hv]
    exact World.cell?_of_block (hf3.block _ (by show w.heap.size < _; omega) (fun e => by have := hlt _ e; simp only at this; omega))
  have e5 := hop3 5 _ k5
  have hm3 : LentAt w3 w0.heap.size t ta tcap := by
    rcases hm2 with hh | ⟨x1, x2, x3⟩
    · exact Or.inl hh
    · exact Or.inr ⟨x1, x2, RowV.of_block x3 (hf3.block _ x3.lt (fun e => by
        have := hlt _ e
        rcases hl0 with ⟨y1, _⟩ | ⟨y1, _, y3⟩
        · rw [y1] at e; cases e
        · have := y3.lt; omega))⟩
  clear c4
  go_wp2_with fail
  refine (back_ok t ta tcap w0.heap.size _ ht hm3).mono ?_
  rintro e w4 ⟨rfl, hf4, hz4⟩
  have hlt4 := fun k (hk : ta = some ⟨k, 0, none⟩) => hm3.lt hk
  have hltw := fun k (hk : ta = some ⟨k, 0, none⟩) => hm1.lt hk
  have d4 : w4.cell? ⟨w.heap.size, 4, none⟩ = some (.string s) := by
    rw [← hop3 4 _ k4]
    exact World.cell?_of_block (hf4.block _ (by show w.heap.size < _; omega) (fun e => by have := hlt4 _ e; simp only at this; omega))
  have d5 : w4.cell? ⟨w.heap.size, 5, none⟩ = some (.string t) := by
    rw [← hop3 5 _ k5]
    exact World.cell?_of_block (hf4.block _ (by show w.heap.size < _; omega) (fun e => by have := hlt4 _ e; simp only at this; omega))
  have HP3 := HP2.frame hf3 (fun k hk e => by have h1 := hlt _ e; have h2 := hdF k (hF2 k hk (by omega)); omega)
  have HP4 := HP3.frame hf4 (fun k hk e => by have h1 := hltw _ e; have h2 := hdF k (hF2 k hk (by omega)); omega)
  have r1 : w4.cell? ⟨d.pb, 1, none⟩ = some (.pointer (some ⟨d.rb, 0, none⟩)) := RowV.cell HP4.row 1 (by simp)
  have hcv := fun w => run_bytes_of_string (P := Tryz.prog) w 9 38 5 s Tryz.underlying9 Tryz.underlying38 Tryz.underlying5
  have hcw := fun w => run_bytes_of_string (P := Tryz.prog) w 9 38 5 t Tryz.underlying9 Tryz.underlying38 Tryz.underlying5
  have hfr4 : Frame d.F w w4 := by
    have g1 : Frame d.F w w1 := Frame.of_below_all HB1.out
    have g2 : Frame d.F w w2 := g1.into hf2 (fun k hk e => by subst e; exact Or.inr (Or.inl (Or.inl (Or.inl (Or.inl rfl)))))
    exact (g2.into hf3 (fun k hk e => by have := hlt _ e; omega)).into hf4 (fun k hk e => by have := hlt4 _ e; omega)
  have HREF : Hid (∀ W a' n' cap' a'' n'' cap'', Below w4.heap.size w4 W → BS W ⟨a', n', cap'⟩ s.data.toList → BS W ⟨a'', n'', cap''⟩ t.data.toList → Calls Tryz.prog 41 #[.pointer (some ⟨d.rb, 0, none⟩), .slice a' n' cap', .slice a'' n'' cap''] W fun e W' => e = .returned (.int .i64 (putE d.its s.data.toList t.data.toList : Int)) ∧ Stepped d w W') := by
    intro W a' n' cap' a'' n'' cap'' hb hbs hbt
    have HPW := HP4.below hb
    have zW := hb.size
    refine (ref_put d.rb d.now d.past d.roots d.nl d.pastL d.rl ⟨a', n', cap'⟩ ⟨a'', n'', cap''⟩ s.data.toList t.data.toList W HPW.ref (by rw [h.nl]; exact h.lay.sto.len) hbs hbt HSM.out HTM.out hbs.nil hbt.nil).mono ?_
    rintro e W' ⟨rfl, now', q1, q2, q3⟩
    obtain ⟨HP5, hF5⟩ := HPW.setRef q1 q2 (fun k e => by subst e; exact Or.inl rfl) q3
    refine ⟨by rw [h.nl], Stepped.mk ⟨HP5, ?_, h.rl, h.pl, h.dl, h.t40, h.cnt, h.pst, h.dc⟩ rfl ?_ ?_⟩
    · show putL d.nl _ _ = putL d.its _ _
      rw [h.nl]
    · exact (hfr4.into (Frame.of_below_all (S := d.F) hb) (fun k _ e => e)).into q2 (fun k _ e => by subst e; exact Or.inr (Or.inr (Or.inl rfl)))
    · intro k hk hlt'
      exact hF2 k (hF5 k hk (by omega)) (by omega)
  have g1 : w.heap.size < w4.heap.size := by omega
  have g2 : d.pb < w4.heap.size := by omega
  clear hb0 hz0 hl0 hb1 hz1 hl1 hm1 HB1 HP1 HSD hs2 hf2 hn2 HP2 hF2 hl2 hm2 hf3 hf4 hlt hlt4 hltw HP3 HP4 hfr4 z0 z1 z2 hz3 hz4 r0 q2 q5 hop hop3 e5 hm3
  go_wp2
  go_region_with (first | (go_at_call 41; refine (HREF.out _ _ _ _ _ _ _ (by repeat' (first | (with_reducible exact Below.refl _ _) | (with_reducible refine Below.drew ?_) | (with_reducible refine Below.alloc ?_ ?_ _) | omega | (simp only [World.size_alloc, World.size_drew]; omega))) (by repeat' (first | (with_reducible refine BS.ofString' _ _ _ _ _ _ ?_; simp) | (with_reducible refine BS.drew ?_) | (with_reducible refine BS.alloc ?_ _))) (by repeat' (first | (with_reducible refine BS.ofString' _ _ _ _ _ _ ?_; simp) | (with_reducible refine BS.drew ?_) | (with_reducible refine BS.alloc ?_ _))) ).mono ?_; rintro e w5 ⟨rfl, hst5⟩))
  all_goals
    go_wp2
    go_ret
    exact ⟨rfl, hst5⟩
end Go.Proofs.YtekegfbjbainhaaGreat
