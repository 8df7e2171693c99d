import Derived.Test.YtekegfbjbainhaaGreatKRef3
import Derived.Test.YtekegfbjbainhaaGreatKJoin1
/- The reference's pages as bytes, walked. -/
namespace Go.Proofs.YtekegfbjbainhaaGreat
set_option linter.unusedVariables false
set_option linter.unusedSimpArgs false
open Go.RowKit

/-- A number as a byte. -/
def bt (n : Nat) : UInt8 := UInt8.ofNat n
theorem bt_c {n : Nat} (h : n < 256) : u8c (bt n) = .int .u8 (n : Int) := by
  unfold u8c bt
  rw [UInt8.toNat_ofNat_of_lt' h]
/-- An entry, a page as bytes. -/
def itB (level : Nat) (x : ItR) : List UInt8 := bt x.key.length :: x.key ++ ((if level = 0 then [bt x.more.length] else []) ++ x.more)
def codeB (level : Nat) (l : List ItR) : List UInt8 := bt level :: bt l.length :: l.flatMap (itB level)
def prefB (level n : Nat) (l : List ItR) : List UInt8 := bt level :: bt n :: l.flatMap (itB level)
def ItOk (x : ItR) : Prop := x.key.length ≤ 12 ∧ x.more.length ≤ 12
theorem itB_length (level : Nat) (x : ItR) (h : ItOk x) : (itB level x).length ≤ 26 := by
  obtain ⟨h1, h2⟩ := h
  unfold itB
  split <;> simp <;> omega
theorem flatB_length (level : Nat) : ∀ (l : List ItR), (∀ x ∈ l, ItOk x) → (l.flatMap (itB level)).length ≤ l.length * 26
  | [], _ => by simp
  | x :: l, h => by
    have h1 := flatB_length level l (fun y hy => h y (by simp [hy]))
    have h2 := itB_length level x (h x (by simp))
    rw [List.flatMap_cons, List.length_append, List.length_cons]; omega
theorem prefB_snoc (level n : Nat) (l : List ItR) (k : Nat) (hk : k < l.length) : prefB level n (l.take (k + 1)) = prefB level n (l.take k) ++ itB level l[k] := by
  unfold prefB
  rw [List.take_succ_eq_append_getElem hk, List.flatMap_append]; simp
theorem prefB_length (level n : Nat) (l : List ItR) (h : ∀ x ∈ l, ItOk x) : (prefB level n l).length ≤ l.length * 26 + 2 := by
  have := flatB_length level l h
  unfold prefB
  rw [List.length_cons, List.length_cons]; omega

/-- What stands while a page is laid out: the page's box, the entry's box. -/
def CodeSt (w : World) (xb : Nat) (P X : List Value) (W : World) : Prop := Below w.heap.size w W ∧ RowV W w.heap.size 80 P ∧ RowV W xb 84 X
theorem CodeSt.next {w W W' : World} {xb : Nat} {P X : List Value} {v : Value} {l : List UInt8} (h : CodeSt w xb P X W) (ho : OwnB W (w.heap.size + 1) v l) (hf : Frame (fun k => v.ownBlock = some k) W W') : CodeSt w xb P X W' := by
  have hz := h.1.size
  refine ⟨h.1.trans (hf.below (by omega) (fun k hk => by have := (ho.lt k hk).1; omega)), h.2.1.of_block (hf.block _ h.2.1.lt (owns_ne ho h.2.1 (by decide))), h.2.2.of_block (hf.block _ h.2.2.lt (owns_ne ho h.2.2 (by decide)))⟩
theorem CodeSt.alloc {w W : World} {xb : Nat} {P X : List Value} (h : CodeSt w xb P X W) (o : Obj) : CodeSt w xb P X (W.alloc o) := ⟨h.1.alloc h.1.size _, h.2.1.alloc _, h.2.2.alloc _⟩
theorem CodeSt.cells {w W : World} {xb : Nat} {p0 p1 x0 x1 x2 : Value} (h : CodeSt w xb [p0, p1] [x0, x1, x2] W) : W.cell? ⟨w.heap.size, 0, none⟩ = some p0 ∧ W.cell? ⟨w.heap.size, 1, none⟩ = some p1 ∧ W.cell? ⟨xb, 0, none⟩ = some x0 ∧ W.cell? ⟨xb, 1, none⟩ = some x1 :=
  ⟨h.2.1.cell 0 (by simp), h.2.1.cell 1 (by simp), h.2.2.cell 0 (by simp), h.2.2.cell 1 (by simp)⟩

set_option maxRecDepth 100000 in
set_option maxHeartbeats 1000000 in
theorem code_any (level : Nat) (a : Option Addr) (n cap : Nat) (l : List ItR) (w : World) (hn : n = l.length) (hl : l.length ≤ 200) (hlv : level ≤ 200) (hok : ∀ x ∈ l, ItOk x) (hs : SlI w a l) :
    Calls Tryz.prog 86 #[.agg #[.int .i64 (level : Int), .slice a n cap]] w fun e w' => ∃ a' n' c', e = .returned (.slice a' n' c') ∧ OwnB w' w.heap.size (.slice a' n' c') (codeB level l) ∧ Below w.heap.size w w' := by
  have hb1 : OwnB ((w.alloc (.cells #[.int .i64 (level : Int), .slice a n cap] 80)).alloc (.cells #[.int .u8 (level : Int), .int .u8 (n : Int)] 5)) (w.heap.size + 1) (.slice (some ⟨w.heap.size + 1, 0, none⟩) 2 2) (prefB level n []) := by
    have := OwnB.built (w.alloc (.cells #[.int .i64 (level : Int), .slice a n cap] 80)) (w.heap.size + 1) [bt level, bt n] (by simp) (by simp [maxLen])
    simp only [World.size_alloc, List.map_cons, List.map_nil] at this
    rw [bt_c (by omega), bt_c (by omega)] at this
    exact this
  have hp1 : RowV ((w.alloc (.cells #[.int .i64 (level : Int), .slice a n cap] 80)).alloc (.cells #[.int .u8 (level : Int), .int .u8 (n : Int)] 5)) w.heap.size 80 [.int .i64 (level : Int), .slice a n cap] := (RowV.new w _ _).alloc _
  have hlvI : (level : Int) ≤ 200 := by omega
  have hnI : (n : Int) ≤ 200 := by omega
  have HN : Hid (n = l.length) := hn
  clear hn
  go_enter Tryz.func86, Tryz.ntmps86
  go_wp2
  go_loopw [3, 4] (fun b i wr => ∃ (k n' c' : Nat) (a' : Option Addr), k ≤ n ∧ i = .int .i64 k ∧ b = .slice a' n' c' ∧ OwnB wr (w.heap.size + 1) (.slice a' n' c') (prefB level n (l.take k)) ∧ Below w.heap.size w wr ∧ RowV wr w.heap.size 80 [.int .i64 (level : Int), .slice a n cap]) (fun _ i _ => n - (intOf i).toNat)
  case atStart => exact ⟨0, 2, 2, _, by omega, by simp, rfl, by simpa using hb1, by go_grown, hp1⟩
  case round =>
    obtain ⟨k, n', c', a', hk, rfl, rfl, hown, hbel, hp⟩ := hrel
    have hc0 := hp.cell 0 (by simp)
    have hc1 := hp.cell 1 (by simp)
    simp only [List.getElem_cons_zero, List.getElem_cons_succ] at hc0 hc1
    by_cases hlt : k < n
    · have hkl : k < l.length := by have := HN.out; omega
      obtain ⟨b, o, rfl, hb, x0, x1, x2⟩ := SlI.cells hs k hkl
      have y0 : wr.cell? ⟨b, o + k * 3, none⟩ = some (.string ⟨l[k].key.toArray⟩) := by rw [hbel.cell (p := ⟨b, o + k * 3, none⟩) hb]; exact x0
      have y1 : wr.cell? ⟨b, o + k * 3 + 1, none⟩ = some (.string ⟨l[k].more.toArray⟩) := by rw [hbel.cell (p := ⟨b, o + k * 3 + 1, none⟩) hb]; exact x1
      have y2 : wr.cell? ⟨b, o + k * 3 + 2, none⟩ = some (.int .i64 (l[k].below : Int)) := by rw [hbel.cell (p := ⟨b, o + k * 3 + 2, none⟩) hb]; exact x2
      clear x0 x1 x2 hb1 hp1 hs
      obtain ⟨hkl12, hml12⟩ := hok l[k] (List.getElem_mem hkl)
      have hst : CodeSt w wr.heap.size [.int .i64 (level : Int), .slice (some ⟨b, o, none⟩) n cap] [.string ⟨l[k].key.toArray⟩, .string ⟨l[k].more.toArray⟩, .int .i64 (l[k].below : Int)] (wr.alloc (.cells #[.string ⟨l[k].key.toArray⟩, .string ⟨l[k].more.toArray⟩, .int .i64 (l[k].below : Int)] 84)) :=
        ⟨hbel.alloc hbel.size _, hp.alloc _, RowV.new wr _ _⟩
      have HLN : Hid ((prefB level n (l.take k)).length ≤ 6000) := by
        have := prefB_length level n (l.take k) (fun x hx => hok x (List.mem_of_mem_take hx))
        rw [List.length_take] at this
        unfold Hid; omega
      have hklI : (l[k].key.length : Int) ≤ 12 := by omega
      have hmlI : (l[k].more.length : Int) ≤ 12 := by omega
      have hltI : (k : Int) < n := by omega
      by_cases hl0 : level = 0
      · have hlI : ((level : Int) == 0) = true := by simp [hl0]
        have HPS : Hid (prefB level n (l.take (k + 1)) = prefB level n (l.take k) ++ [bt l[k].key.length] ++ l[k].key ++ [bt l[k].more.length] ++ l[k].more) := by
          unfold Hid; rw [prefB_snoc level n l k hkl]; simp [itB, hl0]
        clear hl0
        go_wp2_with (first
          | (at_builtin; refine wp_appendB (by rfl) (.tmp 26) (.tmp 31) (by rfl) (w.heap.size + 1) _ (prefB level n (l.take k)) (by rfl) (by exact (hown.alloc _).alloc _) (some ⟨wr.heap.size + 1, 0, none⟩) 1 1 [bt l[k].key.length] (by rfl) (by rfl) (by exact SlB.of_row (t := 5) (by rw [List.map_cons, List.map_nil, bt_c (by omega)]; exact RowV.new_at _ _ _ _ (by simp))) (fun h => by cases h) (by have := HLN.out; simp only [List.length_append, List.length_cons, List.length_nil] at this ⊢; omega) (by have := hbel.size; simp only [World.size_alloc]; omega) ?_; intro a1 n1 c1 w1 hn1 ho1 hs1 hf1 hat1; have hc1 := (hst.alloc _).next ((hown.alloc _).alloc _) hf1; obtain ⟨e10, e11, e12, e13⟩ := hc1.cells; clear hn1 hat1)
          | (at_builtin; refine wp_appendS (by rfl) (.tmp 33) (.tmp 35) (by rfl) (w.heap.size + 1) _ (prefB level n (l.take k) ++ [bt l[k].key.length]) (by rfl) ho1 l[k].key (by rfl) (by have := HLN.out; simp only [List.length_append, List.length_cons, List.length_nil] at this ⊢; omega) (by have := hbel.size; have := hc1.2.1.lt; omega) ?_; intro a2 n2 c2 w2 ho2 hs2 hf2; have hc2 := hc1.next ho1 hf2; obtain ⟨e20, e21, e22, e23⟩ := hc2.cells)
          | (at_builtin; refine wp_appendB (by rfl) (.tmp 40) (.tmp 45) (by rfl) (w.heap.size + 1) _ (prefB level n (l.take k) ++ [bt l[k].key.length] ++ l[k].key) (by rfl) (by exact ho2.alloc _) (some ⟨w2.heap.size, 0, none⟩) 1 1 [bt l[k].more.length] (by rfl) (by rfl) (by exact SlB.of_row (t := 5) (by rw [List.map_cons, List.map_nil, bt_c (by omega)]; exact RowV.new_at _ _ _ _ (by simp))) (fun h => by cases h) (by have := HLN.out; simp only [List.length_append, List.length_cons, List.length_nil] at this ⊢; omega) (by have := hbel.size; have := hc2.2.1.lt; simp only [World.size_alloc]; omega) ?_; intro a3 n3 c3 w3 hn3 ho3 hs3 hf3 hat3; have hc3 := (hc2.alloc _).next (ho2.alloc _) hf3; obtain ⟨e30, e31, e32, e33⟩ := hc3.cells; clear hn3 hat3)
          | (at_builtin; refine wp_appendS (by rfl) (.tmp 47) (.tmp 49) (by rfl) (w.heap.size + 1) _ (prefB level n (l.take k) ++ [bt l[k].key.length] ++ l[k].key ++ [bt l[k].more.length]) (by rfl) ho3 l[k].more (by rfl) (by have := HLN.out; simp only [List.length_append, List.length_cons, List.length_nil] at this ⊢; omega) (by have := hbel.size; have := hc3.2.1.lt; omega) ?_; intro a4 n4 c4 w4 ho4 hs4 hf4; have hc4 := hc3.next ho3 hf4))
        refine ⟨⟨k + 1, n4, c4, a4, by omega, by go_num, rfl, ?_, hc4.1, hc4.2.1⟩, by simp [intOf]; omega⟩
        rw [HPS.out]
        exact ho4
      · have hlI : ((level : Int) == 0) = false := by simp; omega
        have HPS : Hid (prefB level n (l.take (k + 1)) = prefB level n (l.take k) ++ [bt l[k].key.length] ++ l[k].key ++ l[k].more) := by
          unfold Hid; rw [prefB_snoc level n l k hkl]; simp [itB, hl0]
        clear hl0
        go_wp2_with (first
          | (at_builtin; refine wp_appendB (by rfl) (.tmp 26) (.tmp 31) (by rfl) (w.heap.size + 1) _ (prefB level n (l.take k)) (by rfl) (by exact (hown.alloc _).alloc _) (some ⟨wr.heap.size + 1, 0, none⟩) 1 1 [bt l[k].key.length] (by rfl) (by rfl) (by exact SlB.of_row (t := 5) (by rw [List.map_cons, List.map_nil, bt_c (by omega)]; exact RowV.new_at _ _ _ _ (by simp))) (fun h => by cases h) (by have := HLN.out; simp only [List.length_append, List.length_cons, List.length_nil] at this ⊢; omega) (by have := hbel.size; simp only [World.size_alloc]; omega) ?_; intro a1 n1 c1 w1 hn1 ho1 hs1 hf1 hat1; have hc1 := (hst.alloc _).next ((hown.alloc _).alloc _) hf1; obtain ⟨e10, e11, e12, e13⟩ := hc1.cells; clear hn1 hat1)
          | (at_builtin; refine wp_appendS (by rfl) (.tmp 33) (.tmp 35) (by rfl) (w.heap.size + 1) _ (prefB level n (l.take k) ++ [bt l[k].key.length]) (by rfl) ho1 l[k].key (by rfl) (by have := HLN.out; simp only [List.length_append, List.length_cons, List.length_nil] at this ⊢; omega) (by have := hbel.size; have := hc1.2.1.lt; omega) ?_; intro a2 n2 c2 w2 ho2 hs2 hf2; have hc2 := hc1.next ho1 hf2; obtain ⟨e20, e21, e22, e23⟩ := hc2.cells)
          | (at_builtin; refine wp_appendS (by rfl) (.tmp 47) (.tmp 49) (by rfl) (w.heap.size + 1) _ (prefB level n (l.take k) ++ [bt l[k].key.length] ++ l[k].key) (by rfl) ho2 l[k].more (by rfl) (by have := HLN.out; simp only [List.length_append, List.length_cons, List.length_nil] at this ⊢; omega) (by have := hbel.size; have := hc2.2.1.lt; omega) ?_; intro a4 n4 c4 w4 ho4 hs4 hf4; have hc4 := hc2.next ho2 hf4))
        refine ⟨⟨k + 1, n4, c4, a4, by omega, by go_num, rfl, ?_, hc4.1, hc4.2.1⟩, by simp [intOf]; omega⟩
        rw [HPS.out]
        exact ho4
    · have HE : Hid (prefB level n (l.take k) = codeB level l) := by
        unfold Hid prefB codeB; rw [List.take_of_length_le (by have := HN.out; omega), HN.out]
      go_wp2
      go_ret
      refine ⟨a', n', c', rfl, ?_, hbel⟩
      rw [HE.out] at hown
      exact owns_base hown (fun q hq => by have := (hown.lt q hq).1; omega)
end Go.Proofs.YtekegfbjbainhaaGreat

/- The reference's ends of pages, walked. -/
namespace Go.Proofs.YtekegfbjbainhaaGreat
set_option linter.unusedVariables false
set_option linter.unusedSimpArgs false
open Go.RowKit

/-- Does an entry on a level end its page? -/
def endB (level : Nat) (key : List UInt8) : Bool := decide (level < 6) && ((digB (bt level :: key)).getD 7 0).toNat % 4 == 0

theorem mod4_nat (n : Nat) : ((n : Int) % 4 == 0) = (n % 4 == 0) := by
  rw [Bool.eq_iff_iff]; simp; omega

set_option maxRecDepth 100000 in
set_option maxHeartbeats 1000000 in
theorem isEnd_any (level : Nat) (key : List UInt8) (w : World) (hlv : level ≤ 200) (hk : key.length ≤ 200) :
    Calls Tryz.prog 144 #[.int .i64 (level : Int), .string ⟨key.toArray⟩] w fun e w' => e = .returned (.bool (endB level key)) ∧ Below w.heap.size w w' := by
  have hlvI : (level : Int) ≤ 200 := by omega
  have hb1 : OwnB (w.alloc (.cells #[.int .u8 (level : Int)] 5)) w.heap.size (.slice (some ⟨w.heap.size, 0, none⟩) 1 1) [bt level] := by
    have := OwnB.built w w.heap.size [bt level] (Nat.le_refl _) (by simp [maxLen])
    simp only [List.map_cons, List.map_nil] at this
    rw [bt_c (by omega)] at this
    exact this
  obtain ⟨dd, hdd⟩ : ∃ dd, dd = digB (bt level :: key) := ⟨_, rfl⟩
  have hdl : dd.length = 8 := by rw [hdd]; rfl
  obtain ⟨x0, x1, x2, x3, x4, x5, x6, x7, rfl⟩ := list8 dd hdl
  have HE : Hid (endB level key = (decide (level < 6) && x7.toNat % 4 == 0)) := by
    unfold Hid endB; rw [← hdd]; rfl
  have HV : Hid (digV (bt level :: key) = .agg #[.int .u8 (x0.toNat : Int), .int .u8 (x1.toNat : Int), .int .u8 (x2.toNat : Int), .int .u8 (x3.toNat : Int), .int .u8 (x4.toNat : Int), .int .u8 (x5.toNat : Int), .int .u8 (x6.toNat : Int), .int .u8 (x7.toNat : Int)]) := by
    unfold Hid; rw [digV_eq, ← hdd]; rfl
  clear hdd hdl
  have h7 : (x7.toNat : Int) ≤ 255 := by have := x7.toNat_lt; omega
  by_cases h6 : level < 6
  all_goals
    have H6 : Hid (((level : Int) < 6) ↔ level < 6) := by unfold Hid; omega
    go_enter Tryz.func144, Tryz.ntmps144
    go_wp2_with (at_builtin; refine wp_appendS (by rfl) (.tmp 10) (.tmp 11) (by rfl) w.heap.size _ [bt level] (by rfl) hb1 key (by rfl) (by simp; omega) (by simp) ?_; intro a1 n1 c1 w1 ho1 hs1 hf1)
    obtain ⟨_, hn1, hnil1⟩ := ho1.sl
    refine (refDigest_any a1 _ c1 (bt level :: key) _ (by rw [hn1]; simp) (by simp [maxLen]; omega) (by simpa using hs1)).mono ?_
    rintro e w2 ⟨rfl, hb2⟩
    rw [HV.out]
    go_wp2
    go_ret
    refine ⟨?_, ?_⟩
    · rw [HE.out]
      first
        | (show Ending.returned (.bool ((x7.toNat : Int) % 4 == 0)) = _; rw [mod4_nat]; simp [h6]; done)
        | (show Ending.returned (.bool false) = _; simp [h6]; done)
    · have h1 := hf1.below (B := w.heap.size) (by simp) (fun k hk => by simp [Value.ownBlock] at hk; omega)
      have z1 := h1.size
      simp only [World.size_alloc] at z1
      have h3 := (((Below.refl w.heap.size w).alloc (Nat.le_refl _) (.cells #[.int .u8 (level : Int)] 5)).trans h1).trans (hb2.mono (by omega))
      exact h3.alloc (by have := h3.size; omega) _
end Go.Proofs.YtekegfbjbainhaaGreat
