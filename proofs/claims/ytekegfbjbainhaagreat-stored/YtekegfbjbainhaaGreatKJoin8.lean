import Derived.Test.YtekegfbjbainhaaGreatKPr4
import Derived.Test.YtekegfbjbainhaaGreatKPr8
/- A slice cut anew, as a law; the program's store, its entries. -/
namespace Go.Proofs.YtekegfbjbainhaaGreat
set_option linter.unusedVariables false
set_option linter.unusedSimpArgs false
open Go.RowKit

/-- Where a slice lies that was cut at i. -/
def cutS (ad : Option Addr) (cap i size : Nat) : Option Addr := if cap = i then ad else ad.map (fun x => x.add (i * size))
theorem cutS_none {ad : Option Addr} {cap i size : Nat} (h : cutS ad cap i size = none) : ad = none := by
  unfold cutS at h
  split at h
  · exact h
  · simpa using h
theorem cutS_block {ad : Option Addr} {cap i size : Nat} {x : Addr} (h : cutS ad cap i size = some x) : ∃ y, ad = some y ∧ y.block = x.block := by
  unfold cutS at h
  split at h
  · exact ⟨x, h, rfl⟩
  · cases ad with
    | none => cases h
    | some y =>
      simp at h
      refine ⟨y, rfl, ?_⟩
      rw [← h]; unfold Addr.add; split <;> rfl
theorem SlV.cut {w : World} {ad : Option Addr} {cs : List Value} {n cap i size : Nat} (h : SlV w ad cs) (hl : cs.length = n * size) (hi : i ≤ n) (hc : n ≤ cap) : SlV w (cutS ad cap i size) (cs.drop (i * size)) := fun j hj => by
  have hlen : (cs.drop (i * size)).length = cs.length - i * size := List.length_drop
  by_cases e : cap = i
  · exfalso
    have : n = i := by omega
    rw [hlen, hl, this] at hj; simp at hj
  · obtain ⟨b, o, ha, hb, hcell⟩ := h (i * size + j) (by rw [hlen] at hj; omega)
    refine ⟨b, o + i * size, ?_, hb, ?_⟩
    · unfold cutS; rw [if_neg e, ha]; simp [Addr.add_mid]
    · rw [Nat.add_assoc, hcell]; simp
theorem SlV.take {w : World} {ad : Option Addr} {cs : List Value} (h : SlV w ad cs) (k : Nat) : SlV w ad (cs.take k) := fun j hj => by
  have h2 : j < cs.length := by rw [List.length_take] at hj; omega
  obtain ⟨b, o, ha, hb, hc⟩ := h j h2
  exact ⟨b, o, ha, hb, by rw [hc]; simp⟩

theorem run_sliceLo {P : Program} {w : World} (t e : TypeId) (ad : Option Addr) (n cap i size : Nat) (ht : P.underlying t = some (.slice e)) (hs : (P.info? e).map (·.size) = some size) (hin : i ≤ n) (hnc : n ≤ cap) :
    (Instr.slice t (.slice ad n cap) (some (.int .i64 (i : Int))) none none).run P w = .ok (.slice (cutS ad cap i size) (n - i) (cap - i)) w := by
  have h1 : (i : Int) ≤ n := by omega
  have hso : (Go.sizeOf e).run P w = .ok size w := by
    cases hi : P.info? e with
    | none => simp [hi] at hs
    | some inf => simp [hi] at hs; simp [sizeOf, typeInfo, hi, hs]
  simp [Instr.slice, run_underlying ht, Instr.sliceBounds, Instr.sliceBound, asIntOf, h1, hin, Result.andThen, hso, cutS]
theorem run_sliceLH {P : Program} {w : World} (t e : TypeId) (ad : Option Addr) (n cap i j size : Nat) (ht : P.underlying t = some (.slice e)) (hs : (P.info? e).map (·.size) = some size) (hij : i ≤ j) (hjc : j ≤ cap) :
    (Instr.slice t (.slice ad n cap) (some (.int .i64 (i : Int))) (some (.int .i64 (j : Int))) none).run P w = .ok (.slice (cutS ad cap i size) (j - i) (cap - i)) w := by
  have h1 : (i : Int) ≤ j := by omega
  have h2 : (j : Int) ≤ cap := by omega
  have hso : (Go.sizeOf e).run P w = .ok size w := by
    cases hi : P.info? e with
    | none => simp [hi] at hs
    | some inf => simp [hi] at hs; simp [sizeOf, typeInfo, hi, hs]
  simp [Instr.slice, run_underlying ht, Instr.sliceBounds, Instr.sliceBound, asIntOf, h1, h2, hij, hjc, Result.andThen, hso, cutS]

theorem wp_sliceLo {P : Program} {ops : Array Oper} {rest : List Oper} {o : Oper} {a : Act} {w : World} {Q : Exit → Act → World → Prop} (hgd : o.guard = none) (t e : TypeId) (x lo : Operand) (ho : o.op = .slice t x (some lo) none none)
    (ad : Option Addr) (n cap i size : Nat) (hx : a.eval x = .slice ad n cap) (hlo : a.eval lo = .int .i64 (i : Int)) (ht : P.underlying t = some (.slice e)) (hs : (P.info? e).map (·.size) = some size) (hin : i ≤ n) (hnc : n ≤ cap)
    (h : wpList P ops Q rest (a.put o.dst (.slice (cutS ad cap i size) (n - i) (cap - i))) w) : wpList P ops Q (o :: rest) a w := by
  refine wpList_plain hgd fun K hK => ?_
  have hr := run_sliceLo (w := w) t e ad n cap i size ht hs hin hnc
  unfold Oper.wp execOp
  simp only [ho, Option.map, hx, hlo]
  go_simp
  exact hK _ _ h
theorem wp_sliceLH {P : Program} {ops : Array Oper} {rest : List Oper} {o : Oper} {a : Act} {w : World} {Q : Exit → Act → World → Prop} (hgd : o.guard = none) (t e : TypeId) (x lo hi : Operand) (ho : o.op = .slice t x (some lo) (some hi) none)
    (ad : Option Addr) (n cap i j size : Nat) (hx : a.eval x = .slice ad n cap) (hlo : a.eval lo = .int .i64 (i : Int)) (hhi : a.eval hi = .int .i64 (j : Int)) (ht : P.underlying t = some (.slice e)) (hs : (P.info? e).map (·.size) = some size) (hij : i ≤ j) (hjc : j ≤ cap)
    (h : wpList P ops Q rest (a.put o.dst (.slice (cutS ad cap i size) (j - i) (cap - i))) w) : wpList P ops Q (o :: rest) a w := by
  refine wpList_plain hgd fun K hK => ?_
  have hr := run_sliceLH (w := w) t e ad n cap i j size ht hs hij hjc
  unfold Oper.wp execOp
  simp only [ho, Option.map, hx, hlo, hhi]
  go_simp
  exact hK _ _ h

/-- The entries of a store as they lie: what they stand for. -/
structure EntAt (w : World) (en : SlR) (xs : List EnP) (its : List ItR) : Prop where
  own : w.ownsRow 0 74 10 en.val xs.length (ensC xs)
  len : its.length = xs.length
  ok : ∀ i (h1 : i < xs.length) (h2 : i < its.length), EnOk w xs[i] its[i]
/-- Their blocks. -/
def entF (en : SlR) (xs : List EnP) (k : Nat) : Prop := en.val.ownBlock = some k ∨ ∃ x ∈ xs, (∃ y, x.k.a = some y ∧ y.block = k) ∨ (∃ y, x.v.a = some y ∧ y.block = k)
theorem EntAt.frame {w w' : World} {S : Nat → Prop} {en : SlR} {xs : List EnP} {its : List ItR} (h : EntAt w en xs its) (hf : Frame S w w') (hS : ∀ k, entF en xs k → ¬ S k) : EntAt w' en xs its :=
  ⟨owns_frame h.own hf (fun k hk => hS k (Or.inl hk)), h.len, fun i h1 h2 => (h.ok i h1 h2).frame hf (fun y hy => hS _ (Or.inr ⟨_, List.getElem_mem h1, Or.inl ⟨y, hy, rfl⟩⟩)) (fun y hy => hS _ (Or.inr ⟨_, List.getElem_mem h1, Or.inr ⟨y, hy, rfl⟩⟩))⟩
theorem EntAt.below {w w' : World} {en : SlR} {xs : List EnP} {its : List ItR} (h : EntAt w en xs its) (hf : Below w.heap.size w w') : EntAt w' en xs its :=
  ⟨owns_below h.own hf, h.len, fun i h1 h2 => (h.ok i h1 h2).below hf⟩
theorem EntAt.d8 {w : World} {en : SlR} {xs : List EnP} {its : List ItR} (h : EntAt w en xs its) : ∀ x ∈ xs, x.d.length = 8 := fun x hx => by
  obtain ⟨i, hi, rfl⟩ := List.getElem_of_mem hx
  rw [(h.ok i hi (by have := h.len; omega)).dig]; rfl
theorem EntAt.nil (w : World) : EntAt w ⟨none, 0, 0⟩ [] [] := ⟨World.ownsRow_nil _ _ _ _, rfl, fun i h1 => absurd h1 (Nat.not_lt_zero _)⟩

/-- Entries put together anew: some from the beginning, new ones, some from the end. -/
def putX (xs : List EnP) (i : Nat) (e : List EnP) (j : Nat) : List EnP := xs.take i ++ e ++ xs.drop j
theorem ensC_take (xs : List EnP) (h8 : ∀ x ∈ xs, x.d.length = 8) (k : Nat) (hk : k ≤ xs.length) : ensC (xs.take k) = (ensC xs).take (k * 10) := (flat_take enC 10 xs (fun x hx => enC_length x (h8 x hx)) k hk).symm
theorem ensC_drop (xs : List EnP) (h8 : ∀ x ∈ xs, x.d.length = 8) (k : Nat) (hk : k ≤ xs.length) : ensC (xs.drop k) = (ensC xs).drop (k * 10) := (flat_drop enC 10 xs (fun x hx => enC_length x (h8 x hx)) k hk).symm
end Go.Proofs.YtekegfbjbainhaaGreat

/- The program's pages: small parts. -/
namespace Go.Proofs.YtekegfbjbainhaaGreat
set_option linter.unusedVariables false
set_option linter.unusedSimpArgs false
open Go.RowKit

theorem Frame.inside {S T : Nat → Prop} {a b c : World} (h : Frame S a b) (k : Frame T b c) (hT : ∀ x, x < a.heap.size → T x → S x) : Frame S a c :=
  ⟨k.os.trans h.os, k.tape.trans h.tape, k.output.trans h.output, Nat.le_trans h.size k.size, fun i hi hs => (k.block i (Nat.lt_of_lt_of_le hi h.size) (fun ht => hs (hT i hi ht))).trans (h.block i hi hs)⟩

set_option maxRecDepth 100000 in
set_option maxHeartbeats 1000000 in
theorem tEnd_any (level : Nat) (sk : SlR) (key : List UInt8) (w : World) (hlv : level ≤ 200) (hK : BS w sk key) (hk : key.length ≤ 200) :
    Calls Tryz.prog 156 #[.int .i64 (level : Int), sk.val] w fun e w' => e = .returned (.bool (endB level key)) ∧ Below w.heap.size w w' := by
  have hlvI : (level : Int) ≤ 200 := by omega
  have hb1 : OwnB (w.alloc (.cells #[.int .u8 (level : Int)] 5)) w.heap.size (.slice (some ⟨w.heap.size, 0, none⟩) 1 1) [bt level] := by
    have := OwnB.built w w.heap.size [bt level] (Nat.le_refl _) (by simp [maxLen])
    simp only [List.map_cons, List.map_nil] at this
    rw [bt_c (by omega)] at this
    exact this
  have hs1 : SlB (w.alloc (.cells #[.int .u8 (level : Int)] 5)) sk.a key := hK.sl.below ((Below.refl _ _).alloc (Nat.le_refl _) _) (Nat.le_refl _)
  obtain ⟨dd, hdd⟩ : ∃ dd, dd = digB (bt level :: key) := ⟨_, rfl⟩
  have hdl : dd.length = 8 := by rw [hdd]; rfl
  obtain ⟨x0, x1, x2, x3, x4, x5, x6, x7, rfl⟩ := list8 dd hdl
  have HE : Hid (endB level key = (decide (level < 6) && x7.toNat % 4 == 0)) := by
    unfold Hid endB; rw [← hdd]; rfl
  have HV : Hid (digV (bt level :: key) = .agg #[.int .u8 (x0.toNat : Int), .int .u8 (x1.toNat : Int), .int .u8 (x2.toNat : Int), .int .u8 (x3.toNat : Int), .int .u8 (x4.toNat : Int), .int .u8 (x5.toNat : Int), .int .u8 (x6.toNat : Int), .int .u8 (x7.toNat : Int)]) := by
    unfold Hid; rw [digV_eq, ← hdd]; rfl
  clear hdd hdl
  have h7 : (x7.toNat : Int) ≤ 255 := by have := x7.toNat_lt; omega
  have HN : Hid (sk.n = key.length) := hK.n
  have HNL : Hid (sk.a = none → sk.cap = 0) := hK.nil
  unfold SlR.val
  by_cases h6 : level < 6
  · have H6 : ¬ (6 : Int) ≤ (level : Int) := by omega
    go_enter Tryz.func156, Tryz.ntmps156
    go_wp2_with (at_builtin; refine wp_appendB (by rfl) (.tmp 10) (.tmp 11) (by rfl) w.heap.size _ [bt level] (by rfl) hb1 sk.a sk.n sk.cap key (by rfl) HN.out hs1 HNL.out (by simp; omega) (by simp) ?_; intro a1 n1 c1 w1 hn1 ho1 hs1 hf1 hat1; clear hn1 hat1)
    obtain ⟨_, hn1, hnil1⟩ := ho1.sl
    refine (ofB_any a1 _ c1 (bt level :: key) _ (by rw [hn1]; simp) (by simp [maxLen]; omega) (by simpa using hs1)).mono ?_
    rintro e w2 ⟨rfl, hb2⟩
    rw [HV.out]
    go_wp2
    go_ret
    refine ⟨?_, ?_⟩
    · rw [HE.out]
      show Ending.returned (.bool ((x7.toNat : Int) % 4 == 0)) = _
      rw [mod4_nat]; simp [h6]
    · have h1 := hf1.below (B := w.heap.size) (by simp) (fun k hk => by simp [Value.ownBlock] at hk; omega)
      have z1 := h1.size
      simp only [World.size_alloc] at z1
      have h3 := (((Below.refl w.heap.size w).alloc (Nat.le_refl _) (.cells #[.int .u8 (level : Int)] 5)).trans h1).trans (hb2.mono (by omega))
      exact h3.alloc (by have := h3.size; omega) _
  · have H6 : (6 : Int) ≤ (level : Int) := by omega
    go_enter Tryz.func156, Tryz.ntmps156
    go_wp2
    go_ret
    exact ⟨by rw [HE.out]; simp [h6], Below.refl _ _⟩

set_option maxRecDepth 100000 in
theorem entryKey_any (k v : SlR) (w : World) :
    Calls Tryz.prog 139 #[.agg #[k.val, v.val, .int .u8 0, .int .u8 0, .int .u8 0, .int .u8 0, .int .u8 0, .int .u8 0, .int .u8 0, .int .u8 0]] w fun e w' => e = .returned k.val ∧ Below w.heap.size w w' := by
  unfold SlR.val
  go_enter Tryz.func139, Tryz.ntmps139
  go_wp2
  go_ret
  exact ⟨rfl, by go_grown⟩

set_option maxRecDepth 100000 in
theorem nodeKey_any (nb : Nat) (k : SlR) (w : World) (h0 : w.cell? ⟨nb, 0, none⟩ = some k.val) :
    Calls Tryz.prog 141 #[.pointer (some ⟨nb, 0, none⟩)] w fun e w' => e = .returned k.val ∧ Below w.heap.size w w' := by
  unfold SlR.val at *
  go_enter Tryz.func141, Tryz.ntmps141
  go_wp2
  go_ret
  exact ⟨rfl, Below.refl _ _⟩

set_option maxRecDepth 100000 in
set_option maxHeartbeats 1000000 in
theorem counted_any (base : Nat) (v s : SlR) (l m : List UInt8) (w : World) (ho : OwnB w base v.val l) (hs : BS w s m) (hsb : ∀ x, s.a = some x → x.block < base) (hb : base ≤ w.heap.size) (hl : l.length ≤ 100000) (hm : m.length ≤ 200) :
    Calls Tryz.prog 160 #[v.val, s.val] w fun e w' => ∃ v' : SlR, e = .returned v'.val ∧ OwnB w' base v'.val (l ++ bt m.length :: m) ∧ Frame (fun k => v.val.ownBlock = some k) w w' := by
  have hb1 : SlB (w.alloc (.cells #[.int .u8 (m.length : Int)] 5)) (some ⟨w.heap.size, 0, none⟩) [bt m.length] := by
    refine SlB.of_row (t := 5) ?_
    rw [List.map_cons, List.map_nil, bt_c (by omega)]
    exact RowV.new w _ _
  have hmI : (m.length : Int) ≤ 200 := by omega
  have HN : Hid (s.n = m.length) := hs.n
  have h0 := hs.n
  have HNL : Hid (s.a = none → s.cap = 0) := hs.nil
  have ho1 : OwnB (w.alloc (.cells #[.int .u8 (m.length : Int)] 5)) base (.slice v.a v.n v.cap) l := ho.alloc _
  have hs1 : SlB (w.alloc (.cells #[.int .u8 (m.length : Int)] 5)) s.a m := hs.sl.below ((Below.refl _ _).alloc (Nat.le_refl _) _) (Nat.le_refl _)
  have HF0 : Hid (Frame (fun k => (Value.slice v.a v.n v.cap).ownBlock = some k) w (w.alloc (.cells #[.int .u8 (m.length : Int)] 5))) := (Frame.refl _ _).alloc _
  have HSB : Hid (∀ x, s.a = some x → ¬ (Value.slice v.a v.n v.cap).ownBlock = some x.block) := fun x hx e => by have := (ho.lt _ e).1; have := hsb x hx; omega
  obtain ⟨sa, sn, sc⟩ := s
  simp only at h0 HN HNL hs1 HSB
  subst h0
  unfold SlR.val at *
  simp only
  go_enter Tryz.func160, Tryz.ntmps160
  go_wp2_with (first
    | (at_builtin; refine wp_appendB (by rfl) (.tmp 5) (.tmp 9) (by rfl) base _ l (by rfl) ho1 (some ⟨w.heap.size, 0, none⟩) 1 1 [bt m.length] (by rfl) (by rfl) hb1 (fun h => by cases h) (by simp; omega) (by simp; omega) ?_; intro a1 n1 c1 w1 hn1 ho2 hs2 hf1 hat1; have hs3 : SlB w1 sa m := SlB.frame hs1 hf1 (fun x hx => HSB.out x hx); have hz1 := hf1.size; clear hn1)
    | (at_builtin; refine wp_appendB (by rfl) (.tmp 10) (.tmp 11) (by rfl) base _ (l ++ [bt m.length]) (by rfl) ho2 sa m.length sc m (by rfl) rfl hs3 HNL.out (by simp; omega) (by simp only [World.size_alloc] at hz1; omega) ?_; intro a2 n2 c2 w2 hn2 ho3 hs4 hf2 hat2; clear hn2))
  go_ret
  refine ⟨⟨a2, n2, c2⟩, rfl, by simpa using ho3, ?_⟩
  refine Frame.inside (HF0.out.trans hf1) hf2 (fun x hx e => ?_)
  rcases hat1 with h | h
  · rw [← h]; exact e
  · exfalso
    rw [h] at e
    simp only [World.size_alloc, Option.some.injEq] at e
    omega
end Go.Proofs.YtekegfbjbainhaaGreat
