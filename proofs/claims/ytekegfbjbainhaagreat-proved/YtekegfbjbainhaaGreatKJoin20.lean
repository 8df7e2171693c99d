import Derived.Test.YtekegfbjbainhaaGreatKJoin16
import Derived.Test.YtekegfbjbainhaaGreatKJoin19
import Derived.Test.YtekegfbjbainhaaGreatKJoin4
import Derived.Test.YtekegfbjbainhaaGreatKJoin5
import Derived.BigRegion
/- The whole script, with what stands counted by the steps. -/
namespace Go.Proofs.YtekegfbjbainhaaGreat
set_option linter.unusedVariables false
set_option linter.unusedSimpArgs false
open Go.RowKit

set_option maxRecDepth 100000 in
set_option maxHeartbeats 800000 in
/-- THE DRIVER: whatever invariant each step and each look keeps, the whole script keeps it, and answers true. -/
theorem plays_n (a : Option Addr) (n cap kb : Nat) (k0 : Int) (ks : List Int) (f : Nat → OpR) (w : World) (Inv : Nat → World → Prop) (Ok : OpR → Prop) (hn : n ≤ maxLen) (hs : ScriptAt w a n f) (hok : ∀ i, i < n → Ok (f i))
    (hkb : kb < w.heap.size) (hkl : (k0 :: ks).length ≤ maxLen) (hk : KindsAt w kb (k0 :: ks))
    (hI0 : Inv 0 (w.alloc (.cells #[.slice none 0 0, .slice none 0 0, .slice none 0 0, .slice none 0 0] 34)))
    (hIB : ∀ q wr, Inv q wr → Below w.heap.size w wr) (hId : ∀ q wr m, Inv q wr → Inv q (wr.drewN m)) (hIm : ∀ q wr, Inv q wr → Inv (q + 1) wr)
    (hstep0 : ∀ wr, Inv 0 wr → Calls Tryz.prog 12 #[.pointer (some ⟨w.heap.size, 0, none⟩), .agg #[.int .i64 k0, .int .i64 0, .int .i64 0, .int .i64 0, .string ⟨#[99, 97, 105, 114, 110]⟩, .string ⟨#[]⟩, .string ⟨#[]⟩, .int .u8 0, .int .u8 0, .int .u8 0, .int .u8 0, .int .u8 0, .int .u8 0, .int .u8 0, .int .u8 0,
      .int .u8 0, .int .u8 0, .int .u8 0, .int .u8 0, .int .u8 0, .int .u8 0, .int .u8 0, .int .u8 0, .slice none 0 0]] wr fun e w' => e = .returned (.bool true) ∧ Inv 1 w')
    (hstep : ∀ q wr o, q ≤ n → Inv q wr → Ok o → o.kind ∈ k0 :: ks → o.s.size ≤ 140737488351232 → o.t.size ≤ 140737488351232 → o.u.size ≤ 140737488351232 →
      Calls Tryz.prog 12 #[.pointer (some ⟨w.heap.size, 0, none⟩), .agg o.cells.toArray] wr fun e w' => e = .returned (.bool true) ∧ Inv (q + 1) w')
    (hlooks : ∀ q wr, Inv q wr → Calls Tryz.prog 13 #[.pointer (some ⟨w.heap.size, 1, none⟩)] wr fun e w' => e = .returned (.bool true) ∧ Inv q w') :
    Calls Tryz.prog 9 #[.slice a n cap, .slice (some ⟨kb, 0, none⟩) (k0 :: ks).length (k0 :: ks).length] w fun e w' => e = .returned (.bool true) ∧ ∃ q, Inv q w' := by
  have H0 : Hid (∀ wr, Inv 0 wr → _) := hstep0
  have H1 : Hid (∀ q wr o, q ≤ n → Inv q wr → _) := hstep
  have H2 : Hid (∀ q wr, Inv q wr → _) := hlooks
  have HB : Hid (∀ q wr, Inv q wr → _) := hIB
  have HD : Hid (∀ q wr m, Inv q wr → _) := hId
  have HM0 : Hid (∀ q wr, Inv q wr → Inv (q + 1) wr) := hIm
  clear hstep0 hstep hlooks hIB hId hIm
  have hkc := hk 0 (by simp)
  have HK : Hid (KindsAt w kb (k0 :: ks)) := hk
  have HKL : Hid ((k0 :: ks).length ≤ maxLen) := hkl
  simp only [List.getElem_cons_zero] at hkc
  unfold maxLen at hn hkl
  have hkl1 : (1 : Int) ≤ ((k0 :: ks).length : Int) := by simp; omega
  generalize hL : (k0 :: ks) = L at *
  have HL : Hid (k0 :: ks = L) := hL
  clear hL hk
  go_enter Tryz.func9, Tryz.ntmps9
  go_wp2_with fail
  refine (H0.out _ hI0).mono ?_
  rintro e w1 ⟨rfl, hI1⟩
  go_wp2
  go_loopw [6, 7, 8, 9] (fun ok i _ _ wr => ∃ k : Nat, k ≤ n ∧ i = .int .i64 k ∧ ok = .bool true ∧ Inv (k + 1) wr) (fun _ i _ _ _ => n - (intOf i).toNat)
  case atStart => exact ⟨0, by omega, by simp, by simp, hI1⟩
  case round =>
    obtain ⟨k, hkn, rfl, rfl, hI⟩ := hrel
    by_cases hlt : k < n
    · obtain ⟨b, o, rfl, hb, hr, hs1, hs2, hs3⟩ := hs k hlt
      have hB := HB.out _ _ hI
      have hr2 : wr.rangeAt b (o + k * 24) (f k).cells := fun j v hv => by rw [hB.cell (p := ⟨b, o + k * 24 + j, none⟩) hb]; exact hr j v hv
      have kc := hr2 0 (.int .i64 (f k).kind) rfl
      rw [Nat.add_zero] at kc
      have HR : Hid (wr.rangeAt b (o + k * 24) (f k).cells) := hr2
      clear hr2
      go_wp2
      go_loopw [8, 9] (fun inn j w' => ∃ (q m : Nat), q ≤ L.length ∧ j = .int .i64 q ∧ inn = .bool ((L.take q).any (fun y => (f k).kind == y)) ∧ w' = wr.drewN m) (fun _ j _ => L.length - (intOf j).toNat)
      case atStart => exact ⟨0, 0, by omega, by simp, by simp, rfl⟩
      case round =>
        obtain ⟨q, m, hq, rfl, rfl, rfl⟩ := hrel
        by_cases hqlt : q < L.length
        · have hkq : wr.cell? ⟨kb, q, none⟩ = some (.int .i64 L[q]) := by rw [hB.cell (p := ⟨kb, q, none⟩) hkb]; exact HK.out q hqlt
          have HS : Hid (_ = _) := any_snoc L q hqlt (f k).kind
          generalize (L.take q).any (fun y => (f k).kind == y) = inn at *
          cases inn
          · go_wp2
            go_quiet (fail)
            go_wp2
            refine ⟨⟨q + 1, m + nq, by omega, by go_num, by rw [HS.out, Bool.false_or], rfl⟩, by simp [intOf]; omega⟩
          · go_wp2
            go_quiet (fail)
            go_wp2
            refine ⟨⟨q + 1, m + nq, by omega, by go_num, by rw [HS.out, Bool.true_or], rfl⟩, by simp [intOf]; omega⟩
        · have HE : Hid ((L.take q).any (fun y => (f k).kind == y) = L.any (fun y => (f k).kind == y)) := by
            unfold Hid; rw [List.take_of_length_le (by omega)]
          rw [HE.out]
          have hID := HD.out _ _ m hI
          have HM : Hid (L.any (fun y => (f k).kind == y) = true → (f k).kind ∈ L) := fun h => by
            obtain ⟨y, hy, he⟩ := List.any_eq_true.1 h
            rw [beq_iff_eq] at he
            rw [he]; exact hy
          generalize hany : L.any (fun y => (f k).kind == y) = bin at *
          have HA : Hid (L.any (fun y => (f k).kind == y) = bin) := hany
          clear hany
          cases bin
          · go_wp2
            refine ⟨⟨k + 1, by omega, by go_num, by simp, HM0.out _ _ hID⟩, by simp [intOf]; omega⟩
          · obtain ⟨d, hd1, hd2⟩ := Tryz.rowOp
            have hmem : Hid ((f k).kind ∈ L) := HM.out rfl
            clear HM
            have hsz : Hid ((Tryz.prog.info? 43).map (·.size) = some (f k).cells.length) := Tryz.sizeOp
            have HD1 : Hid (Tryz.prog.underlying 43 = some d) := hd1
            have HD2 : Hid (d.isRow = true) := hd2
            clear hd1 hd2
            go_wp2_with (refine wpList_load_mid (by rfl) 43 (.tmp 50) (by rfl) b (o + k * 24) (by rfl) (f k).cells d (by exact HR.out) HD1.out HD2.out hsz.out ?_)
            refine (H1.out _ _ (f k) (by omega) hID (hok k hlt) hmem.out hs1 hs2 hs3).mono ?_
            rintro e w2 ⟨rfl, hI2⟩
            go_wp2_with fail
            refine (H2.out _ _ hI2).mono ?_
            rintro e w3 ⟨rfl, hI3⟩
            go_wp2
            refine ⟨⟨k + 1, by omega, by go_num, by simp, hI3⟩, by simp [intOf]; omega⟩
    · go_wp2
      go_ret
      exact ⟨rfl, _, hI⟩

end Go.Proofs.YtekegfbjbainhaaGreat

/- The script of New, Put, Delete and Commit, whole. -/
namespace Go.Proofs.YtekegfbjbainhaaGreat
set_option linter.unusedVariables false
set_option linter.unusedSimpArgs false
open Go.RowKit

/-- What stands behind at most q steps. -/
def bk0 : BkV := (.slice none 0 0, .slice none 0 0, .slice none 0 0)
def lawInv (w : World) (q : Nat) (wr : World) : Prop := Below w.heap.size w wr ∧ ∃ ps ds, LawAt bk0 wr w.heap.size ps ds ∧ ds.length ≤ q
theorem lawInv_start (w : World) : lawInv w 0 (w.alloc (.cells #[.slice none 0 0, .slice none 0 0, .slice none 0 0, .slice none 0 0] 34)) :=
  ⟨(Below.refl _ _).alloc (Nat.le_refl _) _, ⟨none, 0, 0⟩, [], ⟨RowV.new w _ _, World.ownsRow_nil _ _ _ _, fun d hd => (by cases hd), fun d hd => (by cases hd), fun k hk => (by cases hk), fun i j d e _ h => (by simp at h)⟩, Nat.le_refl _⟩
theorem lawInv.mono {w wr : World} {q : Nat} (h : lawInv w q wr) : lawInv w (q + 1) wr := by
  obtain ⟨h1, ps, ds, h2, h3⟩ := h
  exact ⟨h1, ps, ds, h2, by omega⟩
theorem lawInv.drew {w wr : World} {q : Nat} (m : Nat) (h : lawInv w q wr) : lawInv w q (wr.drewN m) := by
  obtain ⟨h1, ps, ds, h2, h3⟩ := h
  have hb := Below.refl wr.heap.size wr
  exact ⟨⟨h1.os, h1.tape, h1.output, h1.size, h1.block⟩, ps, ds, h2.below ⟨hb.os, hb.tape, hb.output, hb.size, hb.block⟩, h3⟩

/-- What the three kinds of steps on a store promise. -/
def StoredOk (cs : List Value) : Prop := ∀ (p : Value) (W : World) (d : PairD), PairOk W d → Calls Tryz.prog 21 #[p, .agg cs.toArray, .pointer (some ⟨d.pb, 0, none⟩)] W fun e w' => e = .returned (.bool true) ∧ Stepped d W w'

theorem lawInv_new (w wr : World) (q : Nat) (cs : List Value) (hI : lawInv w q wr) (hlen : cs.length = 24) (k0 : cs[0]? = some (.int .i64 2)) (hq : q + 1 ≤ 17592186044416) :
    Calls Tryz.prog 12 #[.pointer (some ⟨w.heap.size, 0, none⟩), .agg cs.toArray] wr fun e w' => e = .returned (.bool true) ∧ lawInv w (q + 1) w' := by
  obtain ⟨h1, ps, ds, h2, h3⟩ := hI
  refine (step_store cs w.heap.size ps ds wr h2 hlen k0 (by omega)).mono ?_
  rintro e w' ⟨rfl, ⟨ps', d, h4, _, _⟩, hf⟩
  refine ⟨rfl, h1.trans (hf.below h1.size (fun k hk => ?_)), ps', _, h4, by simp; omega⟩
  rcases hk with rfl | hk
  · exact Nat.le_refl _
  · exact Nat.le_of_lt (h2.psb k hk)
theorem lawInv_old (w wr : World) (q : Nat) (cs : List Value) (kk oa : Int) (hI : lawInv w q wr) (hlen : cs.length = 24) (k0 : cs[0]? = some (.int .i64 kk)) (hk : kk = 3 ∨ kk = 4 ∨ kk = 5) (k1 : cs[1]? = some (.int .i64 oa)) (ha1 : -9223372036854775808 ≤ oa) (ha2 : oa ≤ 9223372036854775807) (hst : StoredOk cs) :
    Calls Tryz.prog 12 #[.pointer (some ⟨w.heap.size, 0, none⟩), .agg cs.toArray] wr fun e w' => e = .returned (.bool true) ∧ lawInv w (q + 1) w' := by
  obtain ⟨h1, ps, ds, h2, h3⟩ := hI
  by_cases hn : ds.length = 0
  · have hnil : ds = [] := List.length_eq_zero_iff.1 hn
    subst hnil
    refine (step_none cs kk w.heap.size ps wr h2 k0 hk).mono ?_
    rintro e w' ⟨rfl, hb⟩
    exact ⟨rfl, h1.trans (hb.mono h1.size), ps, [], h2.below hb, by omega⟩
  · refine (step_pair cs kk oa w.heap.size ps ds wr h2 hlen k0 hk k1 ha1 ha2 (by omega) (fun W d => hst _ W d)).mono ?_
    rintro e w' ⟨rfl, W, d, hd, hb, hs, i, hi⟩
    obtain ⟨ds', h4, h5, _⟩ := (h2.below hb).step hi hs
    obtain ⟨_, _, _, hf, _⟩ := hs
    refine ⟨rfl, (h1.trans (hb.mono h1.size)).trans (hf.below (Nat.le_trans h1.size hb.size) (fun k hk => Nat.le_of_lt (h2.low d hd k hk).1)), ps, ds', h4, by omega⟩

set_option maxRecDepth 100000 in
set_option maxHeartbeats 800000 in
theorem stored_law (a : Option Addr) (n cap : Nat) (f : Nat → OpR) (w : World) (hn : n ≤ 17592186044415) (hs : ScriptAt w a n f) (ho : ∀ i, i < n → -9223372036854775808 ≤ (f i).a ∧ (f i).a ≤ 9223372036854775807)
    (hst : ∀ o : OpR, (o.kind = 3 ∨ o.kind = 4 ∨ o.kind = 5) → o.s.size ≤ 140737488351232 → o.t.size ≤ 140737488351232 → StoredOk o.cells) :
    Calls Tryz.prog 4 #[.slice a n cap] w fun e w' => e = .returned (.bool true) ∧ Below w.heap.size w w' := by
  have HN : Hid (n ≤ 17592186044415) := hn
  clear hn
  go_enter Tryz.func4, Tryz.ntmps4
  go_wp2_with fail
  have hs' : ScriptAt (w.alloc (Obj.cells #[Value.int IntKind.i64 2, Value.int IntKind.i64 3, Value.int IntKind.i64 4, Value.int IntKind.i64 5] 3)) a n f := fun i hi => by
    obtain ⟨b, o, ha, hb, hr, h1, h2, h3⟩ := hs i hi
    exact ⟨b, o, ha, by simp; omega, fun j v hv => by rw [World.cell?_alloc_lt _ _ _ (by exact hb)]; exact hr j v hv, h1, h2, h3⟩
  refine (plays_n a n cap w.heap.size 2 [3, 4, 5] f (w.alloc (Obj.cells #[Value.int IntKind.i64 2, Value.int IntKind.i64 3, Value.int IntKind.i64 4, Value.int IntKind.i64 5] 3)) (lawInv (w.alloc (Obj.cells #[Value.int IntKind.i64 2, Value.int IntKind.i64 3, Value.int IntKind.i64 4, Value.int IntKind.i64 5] 3)))
    (fun o => -9223372036854775808 ≤ o.a ∧ o.a ≤ 9223372036854775807) (by have := HN.out; unfold maxLen; omega) hs' ho (by simp) (by simp [maxLen])
    (fun j hj => by
      have hj4 : j < 4 := by simpa using hj
      match j, hj4 with
      | 0, _ => simp [go_sem]
      | 1, _ => simp [go_sem]
      | 2, _ => simp [go_sem]
      | 3, _ => simp [go_sem]) (lawInv_start _) (fun q wr h => h.1) (fun q wr m h => h.drew m) (fun q wr h => h.mono) ?_ ?_ ?_).mono ?_
  · intro wr hI
    exact lawInv_new _ wr 0 _ hI rfl rfl (by omega)
  · intro q wr o hq hI hoo hk h1 h2 _
    have hk' : o.kind = 2 ∨ o.kind = 3 ∨ o.kind = 4 ∨ o.kind = 5 := by simpa using hk
    rcases hk' with hk' | hk'
    · exact lawInv_new _ wr q o.cells hI rfl (by rw [← hk']; rfl) (by have := HN.out; omega)
    · exact lawInv_old _ wr q o.cells o.kind o.a hI rfl rfl hk' rfl hoo.1 hoo.2 (hst o hk' h1 h2)
  · intro q wr hI
    obtain ⟨h1, ps, ds, h2, h3⟩ := hI
    refine (looks_nil _ 1 wr (h2.row.cell 1 (by simp)) (h2.row.cell 2 (by simp)) (h2.row.cell 3 (by simp))).mono ?_
    rintro e w1 ⟨rfl, rfl⟩
    exact ⟨rfl, h1, ps, ds, h2, h3⟩
  · rintro e w1 ⟨rfl, q, hI⟩
    go_wp2
    go_ret
    exact ⟨rfl, ((Below.refl _ _).alloc (Nat.le_refl _) _).trans (hI.1.mono (by simp))⟩
end Go.Proofs.YtekegfbjbainhaaGreat

/- What the reference's proofs are made of, walked: a page as it stands in a proof; which entries; which page below. -/
namespace Go.Proofs.YtekegfbjbainhaaGreat
set_option linter.unusedVariables false
set_option linter.unusedSimpArgs false
open Go.RowKit

/-- A page as it stands in a proof. -/
def frameB (level : Nat) (l : List ItR) : List UInt8 := bt ((codeB level l).length / 256) :: bt ((codeB level l).length % 256) :: codeB level l
def keyAt (l : List ItR) (i : Nat) : List UInt8 := (l[i]?.map (·.key)).getD []
/-- Do the pages of an entry belong to a range? -/
def withB (l : List ItR) (i : Nat) (fr tu : List UInt8) : Bool := !(Op.bytesLess (keyAt l i) fr) && (i == 0 || Op.bytesLess (keyAt l (i - 1)) tu)
theorem keyAt_lt {l : List ItR} {i : Nat} (h : i < l.length) : keyAt l i = l[i].key := by
  unfold keyAt; rw [List.getElem?_eq_getElem h]; rfl

set_option maxRecDepth 100000 in
set_option maxHeartbeats 1000000 in
theorem framed_any (level : Nat) (a : Option Addr) (n cap : Nat) (l : List ItR) (w : World) (hn : n = l.length) (hl : l.length ≤ 200) (hlv : level ≤ 200) (hok : ∀ x ∈ l, ItOk x) (hs : SlI w a l) :
    Calls Tryz.prog 124 #[.agg #[.int .i64 (level : Int), .slice a n cap]] w fun e w' => ∃ a' n' c', e = .returned (.slice a' n' c') ∧ OwnB w' w.heap.size (.slice a' n' c') (frameB level l) ∧ Below w.heap.size w w' := by
  have hb0 : Below w.heap.size w (w.alloc (.cells #[.int .i64 (level : Int), .slice a n cap] 80)) := (Below.refl _ _).alloc (Nat.le_refl _) _
  have HC : Hid (Calls _ _ _ _ _) := code_any level a n cap l _ hn hl hlv hok (SlV.below_all hs hb0)
  have HL : Hid ((codeB level l).length ≤ 6000) := by
    have := prefB_length level l.length l hok
    unfold prefB at this
    unfold Hid codeB
    omega
  clear hok hs hn hl hlv
  go_enter Tryz.func124, Tryz.ntmps124
  go_wp2_with fail
  refine HC.out.mono ?_
  rintro e w1 ⟨a1, n1, c1, rfl, ho1, hb1⟩
  obtain ⟨hs1, hn1, hnil1⟩ := OwnB.sl ho1
  have hn6 : n1 ≤ 6000 := by have := HL.out; omega
  have hnI : (n1 : Int) ≤ 6000 := by omega
  have HB : Hid (Below w.heap.size w w1) := hb0.trans (hb1.mono (by simp))
  have HO : Hid (OwnB w1 (w.heap.size + 1) (.slice a1 n1 c1) (codeB level l)) := by unfold Hid; simpa using ho1
  have HN : Hid (n1 = (codeB level l).length) := hn1
  clear ho1 hb1 hb0 hn1
  have HB2 : Hid (OwnB (w1.alloc (.cells #[.int .u8 ((n1 : Int) / 256), .int .u8 ((n1 : Int) % 256)] 5)) w.heap.size (.slice (some ⟨w1.heap.size, 0, none⟩) 2 2) [bt (n1 / 256), bt (n1 % 256)]) := by
    have := OwnB.built w1 w.heap.size [bt (n1 / 256), bt (n1 % 256)] (HB.out.size) (by simp [maxLen])
    simp only [List.map_cons, List.map_nil] at this
    rw [bt_c (by omega), bt_c (by omega)] at this
    unfold Hid
    simpa using this
  go_wp2_with (at_builtin; refine wp_appendB (by rfl) (.tmp 16) (.tmp 17) (by rfl) w.heap.size _ [bt (n1 / 256), bt (n1 % 256)] (by rfl) HB2.out a1 n1 c1 (codeB level l) (by rfl) HN.out (by exact SlB.below hs1 ((Below.refl _ _).alloc (Nat.le_refl _) _) (Nat.le_refl _)) hnil1 (by have := HL.out; simp; omega) (by have := HB.out.size; simp; omega) ?_; intro a2 n2 c2 w2 hn2 ho2 hs2 hf2 hat2; clear hn2)
  go_ret
  refine ⟨a2, n2, c2, rfl, ?_, ?_⟩
  · unfold frameB
    rw [← HN.out]
    exact ho2
  · exact (HB.out.alloc HB.out.size _).trans (hf2.below (by have := HB.out.size; simp; omega) (fun k hk => by
      have : k = w1.heap.size := by simpa [Value.ownBlock] using hk.symm
      have := HB.out.size; omega))

set_option maxRecDepth 100000 in
set_option maxHeartbeats 400000 in
theorem firstR_any (level : Nat) (a : Option Addr) (cap : Nat) (l : List ItR) (key : List UInt8) (w : World) (hl : l.length ≤ 1000000) (hs : SlI w a l) :
    Calls Tryz.prog 33 #[.agg #[.int .i64 (level : Int), .slice a l.length cap], strV key] w fun e w' => e = .returned (.int .i64 (placeN l key : Int)) ∧ Below w.heap.size w w' := by
  unfold strV
  have hs1 : SlI (w.alloc (.cells #[.int .i64 (level : Int), .slice a l.length cap] 80)) a l := SlV.below_all hs ((Below.refl _ _).alloc (Nat.le_refl _) _)
  go_enter Tryz.func33, Tryz.ntmps33
  go_wp2
  go_loop [5] (fun i => ∃ k : Nat, k ≤ l.length ∧ i = .int .i64 k ∧ Hid (placeN l key = k + ((l.drop k).takeWhile (lessK key)).length)) (fun i => l.length - (intOf i).toNat)
  case atStart => exact ⟨0, by omega, rfl, by simp [Hid, placeN]⟩
  case round =>
    obtain ⟨k, hk, rfl, HP⟩ := hrel
    by_cases hlt : k < l.length
    · obtain ⟨b, o, rfl, hb, c0, _, _⟩ := SlI.cells hs1 k hlt
      unfold strV at c0
      have HD : Hid (l.drop k = l[k] :: l.drop (k + 1)) := List.drop_eq_getElem_cons hlt
      have hltI : (k : Int) < l.length := by omega
      by_cases hless : lessK key l[k] = true
      · have hlb : Op.bytesLess l[k].key key = true := hless
        go_wp2
        go_round
        case rel => exact ⟨k + 1, by omega, by go_num, by
          have := HP.out
          rw [HD.out, List.takeWhile_cons, if_pos hless, List.length_cons] at this
          unfold Hid; omega⟩
        case measure => simp [intOf]; omega
      · have hlb : Op.bytesLess l[k].key key = false := by unfold lessK at hless; simpa using hless
        have HE : Hid (placeN l key = k) := by
          have := HP.out
          rw [HD.out, List.takeWhile_cons, if_neg hless] at this
          unfold Hid; simpa using this
        go_wp2
        go_ret
        exact ⟨by rw [HE.out]; rfl, by go_grown⟩
    · have HE : Hid (placeN l key = l.length) := by
          have := HP.out
          rw [List.drop_eq_nil_of_le (by omega)] at this
          unfold Hid
          simp at this; omega
      have hltI : ¬ (k : Int) < l.length := by omega
      go_wp2
      go_ret
      exact ⟨by rw [HE.out]; rfl, by go_grown⟩

set_option maxRecDepth 100000 in
set_option maxHeartbeats 400000 in
theorem withinR_any (level : Nat) (a : Option Addr) (cap : Nat) (l : List ItR) (i : Nat) (hi : i < l.length) (fr tu : List UInt8) (w : World) (hl : l.length ≤ 1000000) (hs : SlI w a l) :
    Calls Tryz.prog 127 #[.agg #[.int .i64 (level : Int), .slice a l.length cap], .int .i64 (i : Int), strV fr, strV tu] w fun e w' => e = .returned (.bool (withB l i fr tu)) ∧ Below w.heap.size w w' := by
  unfold strV
  have hs1 : SlI (w.alloc (.cells #[.int .i64 (level : Int), .slice a l.length cap] 80)) a l := SlV.below_all hs ((Below.refl _ _).alloc (Nat.le_refl _) _)
  obtain ⟨b, o, rfl, hb, c0, _, _⟩ := SlI.cells hs1 i hi
  unfold strV at c0
  have hiI : (i : Int) < l.length := by omega
  have HW : Hid (withB l i fr tu = (!(Op.bytesLess l[i].key fr) && (i == 0 || Op.bytesLess (keyAt l (i - 1)) tu))) := by unfold Hid withB; rw [keyAt_lt hi]
  cases hA : Op.bytesLess l[i].key fr with
  | true =>
    clear hs hs1
    go_enter Tryz.func127, Tryz.ntmps127
    go_wp2
    go_ret
    exact ⟨by rw [HW.out, hA]; rfl, by go_grown⟩
  | false =>
    cases i with
    | zero =>
      clear hs hs1
      rw [Nat.zero_mul, Nat.add_zero] at c0
      go_enter Tryz.func127, Tryz.ntmps127
      go_wp2
      go_ret
      exact ⟨by rw [HW.out, hA]; rfl, by go_grown⟩
    | succ j =>
      have hj : j < l.length := by omega
      obtain ⟨b', o', hb', _, d0, _, _⟩ := SlI.cells hs1 j hj
      unfold strV at d0
      cases hb'
      have HK : Hid (keyAt l (j + 1 - 1) = l[j].key) := by unfold Hid; rw [show j + 1 - 1 = j from rfl, keyAt_lt hj]
      have hj0 : ((j : Int) + 1 == 0) = false := by simp; omega
      have hjI : (j : Int) + 1 - 1 = j := by omega
      have hjJ : (j : Int) < l.length := by omega
      have hjM : (j : Int) ≤ 1000000 := by omega
      clear hs hs1
      cases hB : Op.bytesLess l[j].key tu with
      | true =>
        go_enter Tryz.func127, Tryz.ntmps127
        go_wp2
        go_ret
        exact ⟨by rw [HW.out, hA, HK.out, hB]; rfl, by go_grown⟩
      | false =>
        go_enter Tryz.func127, Tryz.ntmps127
        go_wp2
        go_ret
        exact ⟨by rw [HW.out, hA, HK.out, hB]; rfl, by go_grown⟩
end Go.Proofs.YtekegfbjbainhaaGreat

/- The reference's page below an entry, walked. -/
namespace Go.Proofs.YtekegfbjbainhaaGreat
set_option linter.unusedVariables false
set_option linter.unusedSimpArgs false
open Go.RowKit

/-- The reference's tree as it lies. -/
structure RTree (W : World) (base : Nat) (lv : SlR) (lvls : List LevR) : Prop where
  own : OwnL W base lv.val lvls
  ok : ∀ i (h : i < lvls.length), LvOk W base i lvls[i]
theorem RTree.below {W W' : World} {base : Nat} {lv : SlR} {lvls : List LevR} (h : RTree W base lv lvls) (hb : Below W.heap.size W W') : RTree W' base lv lvls :=
  ⟨owns_below h.own hb, fun i hi => (h.ok i hi).below hb⟩

set_option maxRecDepth 100000 in
set_option maxHeartbeats 1000000 in
theorem below_any (lv : SlR) (lvls : List LevR) (base m : Nat) (s : SlR) (ps : List (SlR × List ItR)) (a : Option Addr) (cap : Nat) (l : List ItR) (i : Nat) (hi : i < l.length) (q : SlR × List ItR) (w : World) (ho : RTree w base lv lvls) (hm : lvls[m]? = some (s, ps)) (hm2 : m ≤ 100) (hl : l.length ≤ 200) (hs : SlI w a l) (hp : ps.length ≤ 1000) (hq : ps[l[i].below]? = some q) :
    Calls Tryz.prog 125 #[.agg #[.slice lv.a lv.n lv.cap], .agg #[.int .i64 ((m : Int) + 1), .slice a l.length cap], .int .i64 (i : Int)] w fun e w' => e = .returned (.agg #[.int .i64 (m : Int), .slice q.1.a q.1.n q.1.cap]) ∧ Below w.heap.size w w' := by
  have hml : m < lvls.length := by
    rcases Nat.lt_or_ge m lvls.length with h | h
    · exact h
    · rw [List.getElem?_eq_none h] at hm; cases hm
  have hlv : LvOk w base m (s, ps) := by
    have := ho.ok m hml
    rw [List.getElem?_eq_getElem hml] at hm
    rw [Option.some.inj hm] at this
    exact this
  obtain ⟨hsl, hln⟩ := SlV.ofOwn (s := lv) ho.own
  obtain ⟨hsp, hsn⟩ := SlV.ofOwn (s := s) hlv.1
  obtain ⟨b, o, rfl, hb, _, _, x2⟩ := SlI.cells hs i hi
  obtain ⟨j, hj⟩ : ∃ j, j = l[i].below := ⟨_, rfl⟩
  rw [← hj] at hq x2
  have hjl : j < ps.length := by
    rcases Nat.lt_or_ge j ps.length with h | h
    · exact h
    · rw [List.getElem?_eq_none h] at hq; cases hq
  obtain ⟨lb, lo, hla, hlb, c0⟩ := SlV.at hsl (i := m) (v := .slice s.a s.n s.cap) (by unfold lvC; rw [List.getElem?_map, hm]; rfl)
  have hpg : ∀ r : Nat, r < 2 → (pgsC m ps)[j * 2 + r]? = (pgC m q)[r]? := fun r hr => by
    have h1 := flat_get (pgC m) 2 ps (fun _ _ => rfl) j hjl r hr
    have h2 : ps[j] = q := by rw [List.getElem?_eq_getElem hjl] at hq; exact Option.some.inj hq
    rw [h2] at h1
    exact h1
  obtain ⟨pb, po, hpa, hpb, d0⟩ := SlV.at hsp (i := j * 2 + 0) (v := .int .i64 (m : Int)) (by rw [hpg 0 (by omega)]; rfl)
  obtain ⟨pb', po', hpa', _, d1⟩ := SlV.at hsp (i := j * 2 + 1) (v := .slice q.1.a q.1.n q.1.cap) (by rw [hpg 1 (by omega)]; rfl)
  rw [hpa] at hpa'
  cases hpa'
  obtain ⟨la, ln, lc⟩ := lv
  obtain ⟨sa, sn, sc⟩ := s
  simp only at hla hpa c0 hln hsn
  subst hla; subst hpa
  have hmI : (0 : Int) ≤ (m : Int) := Int.natCast_nonneg _
  have hmJ : (m : Int) ≤ 100 := by omega
  have hmL : (m : Int) < (ln : Int) := by omega
  have hjI : (0 : Int) ≤ (j : Int) := Int.natCast_nonneg _
  have hjJ : (j : Int) ≤ 1000 := by omega
  have hjL : (j : Int) < (sn : Int) := by omega
  have hiI : (i : Int) < (l.length : Int) := by omega
  have hmm : (m : Int) + 1 - 1 = m := by omega
  rw [Nat.add_zero] at d0
  clear hsl hsp ho hlv hm hq hpg hs hln hsn hj
  have HW : Hid (Below w.heap.size w (((w.alloc (.cells #[.slice (some ⟨lb, lo, none⟩) ln lc] 146)).alloc (.cells #[.int .i64 ((m : Int) + 1), .slice (some ⟨b, o, none⟩) l.length cap] 80)).alloc (.cells #[.int .i64 0, .slice none 0 0] 80))) := by unfold Hid; go_grown
  have w0 := (((RowV.new w 146 [.slice (some ⟨lb, lo, none⟩) ln lc]).alloc (.cells #[.int .i64 ((m : Int) + 1), .slice (some ⟨b, o, none⟩) l.length cap] 80)).alloc (.cells #[.int .i64 0, .slice none 0 0] 80))
  have w1 := ((RowV.new_at (w.alloc (.cells #[.slice (some ⟨lb, lo, none⟩) ln lc] 146)) 80 (w.heap.size + 1) [.int .i64 ((m : Int) + 1), .slice (some ⟨b, o, none⟩) l.length cap] (by simp)).alloc (.cells #[.int .i64 0, .slice none 0 0] 80))
  have w2 := RowV.new_at ((w.alloc (.cells #[.slice (some ⟨lb, lo, none⟩) ln lc] 146)).alloc (.cells #[.int .i64 ((m : Int) + 1), .slice (some ⟨b, o, none⟩) l.length cap] 80)) 80 (w.heap.size + 1 + 1) [.int .i64 0, .slice none 0 0] (by simp)
  go_enter Tryz.func125, Tryz.ntmps125
  go_wp2
  generalize ((w.alloc (.cells #[.slice (some ⟨lb, lo, none⟩) ln lc] 146)).alloc (.cells #[.int .i64 ((m : Int) + 1), .slice (some ⟨b, o, none⟩) l.length cap] 80)).alloc (.cells #[.int .i64 0, .slice none 0 0] 80) = W at *
  have y2 : W.cell? ⟨b, o + i * 3 + 2, none⟩ = some (.int .i64 (j : Int)) := by rw [HW.out.cell (p := ⟨b, o + i * 3 + 2, none⟩) hb]; exact x2
  have y0 : W.cell? ⟨lb, lo + m, none⟩ = some (.slice (some ⟨pb, po, none⟩) sn sc) := by rw [HW.out.cell (p := ⟨lb, lo + m, none⟩) hlb]; exact c0
  have z0 : W.cell? ⟨pb, po + j * 2, none⟩ = some (.int .i64 (m : Int)) := by rw [HW.out.cell (p := ⟨pb, po + j * 2, none⟩) hpb]; exact d0
  have z1 : W.cell? ⟨pb, po + j * 2 + 1, none⟩ = some (.slice q.1.a q.1.n q.1.cap) := by rw [HW.out.cell (p := ⟨pb, po + j * 2 + 1, none⟩) hpb]; exact d1
  have t0 := w0.cell 0 (by simp)
  have u0 := w1.cell 0 (by simp)
  have u1 := w1.cell 1 (by simp)
  have v0 := w2.cell 0 (by simp)
  have v1 := w2.cell 1 (by simp)
  have f0 := w2.frozen 0
  have f1 := w2.frozen 1
  simp only [List.getElem_cons_zero, List.getElem_cons_succ] at t0 u0 u1 v0 v1
  have W2 : Hid (RowV W (w.heap.size + 1 + 1) 80 [.int .i64 0, .slice none 0 0]) := w2
  clear w0 w1 w2 x2 c0 d0 d1
  go_region
  go_wp2
  have R2 : RowV ((W.setCell ⟨w.heap.size + 1 + 1, 0, none⟩ (.int .i64 (m : Int))).setCell ⟨w.heap.size + 1 + 1, 1, none⟩ (.slice q.1.a q.1.n q.1.cap)) (w.heap.size + 1 + 1) 80 [.int .i64 (m : Int), .slice q.1.a q.1.n q.1.cap] := by
    simpa using (W2.out.set 0 (.int .i64 (m : Int))).set 1 (.slice q.1.a q.1.n q.1.cap)
  exact ret_agg (k := 6) (cs := [.int .i64 (m : Int), .slice q.1.a q.1.n q.1.cap]) rfl rfl R2 Tryz.underlying80 rfl Tryz.sizePage rfl ⟨rfl, ((HW.out.setCell (by show w.heap.size ≤ w.heap.size + 1 + 1; omega) _).setCell (by show w.heap.size ≤ w.heap.size + 1 + 1; omega) _).drew⟩
end Go.Proofs.YtekegfbjbainhaaGreat
