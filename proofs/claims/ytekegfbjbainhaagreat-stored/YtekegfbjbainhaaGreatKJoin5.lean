import Derived.Test.YtekegfbjbainhaaGreatKRef10
import Derived.Test.YtekegfbjbainhaaGreatKJoin1
import Derived.Test.YtekegfbjbainhaaGreatKLaws1
import Derived.Deep.RegionWith
import Derived.Stop.BytesEq
/- The reference's root page, walked. -/
namespace Go.Proofs.YtekegfbjbainhaaGreat
set_option linter.unusedVariables false
set_option linter.unusedSimpArgs false
open Go.RowKit

theorem Tryz.sizePage : (Tryz.prog.info? 80).map (·.size) = some 2 := by kernel_rfl

set_option maxRecDepth 100000 in
set_option maxHeartbeats 1000000 in
theorem root_any (lv : SlR) (lvls : List LevR) (m : Nat) (s q : SlR) (ql : List ItR) (rest : List (SlR × List ItR)) (base : Nat) (w : World) (ho : OwnL w base lv.val lvls) (hm : lvls.length = m + 1) (hm2 : m ≤ 100) (hlast : lvls[m]? = some (s, (q, ql) :: rest)) (hl : LvOk w base m (s, (q, ql) :: rest)) :
    Calls Tryz.prog 85 #[.agg #[.slice lv.a lv.n lv.cap]] w fun e w' => e = .returned (.agg #[.int .i64 (m : Int), .slice q.a q.n q.cap]) ∧ Below w.heap.size w w' := by
  obtain ⟨hsl, hln⟩ := SlV.ofOwn (s := lv) ho
  obtain ⟨hsp, hsn⟩ := SlV.ofOwn (s := s) hl.1
  obtain ⟨lb, lo, hla, hlb, c0⟩ := SlV.at hsl (i := m) (v := .slice s.a s.n s.cap) (by unfold lvC; rw [List.getElem?_map, hlast]; rfl)
  obtain ⟨pb, po, hpa, hpb, d0⟩ := SlV.at hsp (i := 0) (v := .int .i64 (m : Int)) rfl
  obtain ⟨pb', po', hpa', _, d1⟩ := SlV.at hsp (i := 1) (v := .slice q.a q.n q.cap) rfl
  rw [hpa] at hpa'
  cases hpa'
  have hln1 : lv.n = m + 1 := by rw [hln]; exact hm
  have hsn1 : (1 : Int) ≤ s.n := by rw [hsn]; simp; omega
  obtain ⟨la, ln, lc⟩ := lv
  obtain ⟨sa, sn, sc⟩ := s
  simp only at hla hln1 hpa hsn1 c0
  subst hla; subst hln1; subst hpa
  have hmI : (0 : Int) ≤ (m : Int) := Int.natCast_nonneg _
  have hmJ : (m : Int) ≤ 100 := by omega
  rw [Nat.add_zero] at d0
  clear hsl hsp hsn hln ho hl hlast
  go_enter Tryz.func85, Tryz.ntmps85
  go_wp2
  exact ret_agg (k := 2) (cs := [.int .i64 (m : Int), .slice q.a q.n q.cap]) rfl rfl (RowV.new_at _ _ _ _ (by simp)) Tryz.underlying80 rfl Tryz.sizePage rfl ⟨rfl, by go_grown⟩
end Go.Proofs.YtekegfbjbainhaaGreat

/- The reference's sums, walked. -/
namespace Go.Proofs.YtekegfbjbainhaaGreat
set_option linter.unusedVariables false
set_option linter.unusedSimpArgs false
open Go.RowKit

/-- A digest that was handed in, in a box of its own. -/
abbrev boxD (w : World) (d : List UInt8) : World := w.alloc (.cells (d.map u8c).toArray 36)
/-- The place of a digest that is to come out. -/
abbrev resD (w : World) : World := w.alloc (.cells #[.int .u8 0, .int .u8 0, .int .u8 0, .int .u8 0, .int .u8 0, .int .u8 0, .int .u8 0, .int .u8 0] 36)
abbrev oneB (w : World) (x : Int) : World := w.alloc (.cells #[.int .u8 x] 5)
def z8 : List Value := [.int .u8 0, .int .u8 0, .int .u8 0, .int .u8 0, .int .u8 0, .int .u8 0, .int .u8 0, .int .u8 0]

theorem resD_row (w : World) : RowV (resD w) w.heap.size 36 z8 := RowV.new w 36 z8

set_option maxRecDepth 100000 in
set_option maxHeartbeats 400000 in
theorem leaf_any (d : List UInt8) (w : World) (hd : d.length = 8) :
    Calls Tryz.prog 121 #[dV d] w fun e w' => e = .returned (dV (digB (0 :: d))) ∧ Below w.heap.size w w' := by
  have hb1 : OwnB (oneB (resD (boxD w d)) 0) w.heap.size (.slice (some ⟨w.heap.size + 1 + 1, 0, none⟩) 1 1) [0] := by
    have := OwnB.built (resD (boxD w d)) w.heap.size [0] (by simp; omega) (by simp [maxLen])
    simp only [World.size_alloc] at this
    exact this
  have hs1 : SlB (oneB (resD (boxD w d)) 0) (some ⟨w.heap.size, 0, none⟩) d := SlB.of_row (((RowV.new w 36 _).alloc _).alloc _)
  have hr1 : RowV (oneB (resD (boxD w d)) 0) (w.heap.size + 1) 36 z8 := by
    have := (resD_row (boxD w d)).alloc (.cells #[.int .u8 0] 5)
    simp only [World.size_alloc] at this
    exact this
  obtain ⟨dd, hdd⟩ : ∃ dd, dd = digB (0 :: d) := ⟨_, rfl⟩
  have hdl : dd.length = 8 := by rw [hdd]; rfl
  have hv : dV d = .agg (d.map u8c).toArray := rfl
  rw [← hdd, hv]
  have HDD : Hid (dd = digB (0 :: d)) := hdd
  clear hdd hv
  go_enter Tryz.func121, Tryz.ntmps121
  go_wp2_with (at_builtin; refine wp_appendB (by rfl) (.tmp 5) (.tmp 6) (by rfl) w.heap.size _ [0] (by rfl) hb1 (some ⟨w.heap.size, 0, none⟩) 8 8 d (by rfl) hd.symm hs1 (fun h => by cases h) (by simp [hd]) (by simp; omega) ?_; intro a' n' cap' w4 hn' ho' hs' hf' hat')
  refine (refDigest_any a' _ cap' (0 :: d) w4 (by simp [hd]) (by simp [hd, maxLen]) hs').mono ?_
  rintro e w5 ⟨rfl, hb5⟩
  rw [digV_eq, ← HDD.out]
  have hR : RowV w5 (w.heap.size + 1) 36 z8 := by
    have h2 := hr1.of_block (hf'.block (w.heap.size + 1) (by simp) (by simp [Value.ownBlock]))
    exact h2.below h2.lt hb5
  have HB : Hid (Below w.heap.size w w5) := by
    have h3 := hf'.below (B := w.heap.size) (by simp; omega) (fun k hk => by simp [Value.ownBlock] at hk; omega)
    exact (((((Below.refl _ _).alloc (Nat.le_refl _) _).alloc (by simp) _).alloc (by simp; omega) _).trans h3).trans (hb5.mono (by have := h3.size; simp at this; omega))
  clear hf' hat' hs' ho' hb5 hs1 hb1 hr1
  go_wp2_with (refine wp_storeD (by rfl) (.tmp 2) (.tmp 9) (by rfl) (w.heap.size + 1) (by rfl) dd hdl (by rfl) hR (by rfl) ?_; intro w6 hR6 hf6 hz6)
  exact ret_dig (k := 2) rfl rfl hR6 hdl rfl ⟨rfl, HB.out.trans (hf6.below (by have := hR.lt; omega) (fun k hk => by omega))⟩

set_option maxRecDepth 100000 in
set_option maxHeartbeats 400000 in
theorem refPair_any (x y : List UInt8) (w : World) (hx : x.length = 8) (hy : y.length = 8) :
    Calls Tryz.prog 123 #[dV x, dV y] w fun e w' => e = .returned (dV (digB (1 :: (x ++ y)))) ∧ Below w.heap.size w w' := by
  have hb1 : OwnB (oneB (resD (boxD (boxD w x) y)) 1) w.heap.size (.slice (some ⟨w.heap.size + 1 + 1 + 1, 0, none⟩) 1 1) [1] := by
    have := OwnB.built (resD (boxD (boxD w x) y)) w.heap.size [1] (by simp; omega) (by simp [maxLen])
    simp only [World.size_alloc] at this
    exact this
  have hs1 : SlB (oneB (resD (boxD (boxD w x) y)) 1) (some ⟨w.heap.size, 0, none⟩) x := SlB.of_row ((((RowV.new w 36 _).alloc _).alloc _).alloc _)
  have hs2 : SlB (oneB (resD (boxD (boxD w x) y)) 1) (some ⟨w.heap.size + 1, 0, none⟩) y := by
    have := SlB.of_row (((RowV.new (boxD w x) 36 (y.map u8c)).alloc (.cells z8.toArray 36)).alloc (.cells #[.int .u8 1] 5))
    simp only [World.size_alloc] at this
    exact this
  have hr1 : RowV (oneB (resD (boxD (boxD w x) y)) 1) (w.heap.size + 1 + 1) 36 z8 := by
    have := (resD_row (boxD (boxD w x) y)).alloc (.cells #[.int .u8 1] 5)
    simp only [World.size_alloc] at this
    exact this
  obtain ⟨dd, hdd⟩ : ∃ dd, dd = digB (1 :: (x ++ y)) := ⟨_, rfl⟩
  have hdl : dd.length = 8 := by rw [hdd]; rfl
  have hvx : dV x = .agg (x.map u8c).toArray := rfl
  have hvy : dV y = .agg (y.map u8c).toArray := rfl
  rw [← hdd, hvx, hvy]
  have HDD : Hid (dd = digB (1 :: (x ++ y))) := hdd
  clear hdd hvx hvy
  go_enter Tryz.func123, Tryz.ntmps123
  go_wp2_with (first
    | (at_builtin; refine wp_appendB (by rfl) (.tmp 7) (.tmp 8) (by rfl) w.heap.size _ [1] (by rfl) hb1 (some ⟨w.heap.size, 0, none⟩) 8 8 x (by rfl) hx.symm hs1 (fun h => by cases h) (by simp [hx]) (by simp; omega) ?_; intro a' n' cap' w4 hn' ho' hs' hf' hat'; obtain rfl : n' = 9 := (by rw [hn', hx]; rfl); have hs2' := SlB.frame hs2 hf' (fun z hz => by cases hz; simp [Value.ownBlock]; omega); clear hn')
    | (at_builtin; refine wp_appendB (by rfl) (.tmp 10) (.tmp 11) (by rfl) w.heap.size _ ([1] ++ x) (by rfl) ho' (some ⟨w.heap.size + 1, 0, none⟩) 8 8 y (by rfl) hy.symm hs2' (fun h => by cases h) (by simp [hx, hy]) (by have := hf'.size; simp at this; omega) ?_; intro a'' n'' cap'' w5 hn'' ho'' hs'' hf'' hat''; obtain rfl : n'' = 17 := (by rw [hn'', hy]; simp [hx]); clear hn''))
  refine (refDigest_any a'' _ cap'' (1 :: (x ++ y)) w5 (by simp [hx, hy]) (by simp [hx, hy, maxLen]) (by simpa using hs'')).mono ?_
  rintro e w6 ⟨rfl, hb6⟩
  rw [digV_eq, ← HDD.out]
  have hg : ∀ k, (Value.slice a' 9 cap').ownBlock = some k → w.heap.size + 1 + 1 + 1 ≤ k := fun k hk => by
    rcases hat' with h | h
    · rw [h] at hk; simp [Value.ownBlock] at hk; omega
    · rw [h] at hk; simp at hk; omega
  have hR : RowV w6 (w.heap.size + 1 + 1) 36 z8 := by
    have h2 := hr1.of_block (hf'.block (w.heap.size + 1 + 1) (by simp) (by simp [Value.ownBlock]))
    have h3 := h2.of_block (hf''.block (w.heap.size + 1 + 1) h2.lt (fun e => by have := hg _ e; omega))
    exact h3.below h3.lt hb6
  have HB : Hid (Below w.heap.size w w6) := by
    have h3 := hf'.below (B := w.heap.size) (by simp; omega) (fun k hk => by simp [Value.ownBlock] at hk; omega)
    have z3 := h3.size
    simp only [World.size_alloc] at z3
    have h4 := hf''.below (B := w.heap.size) (by omega) (fun k hk => by have := hg _ hk; omega)
    have z4 := h4.size
    exact (((((((Below.refl _ _).alloc (Nat.le_refl _) _).alloc (by simp) _).alloc (by simp; omega) _).alloc (by simp; omega) _).trans h3).trans h4).trans (hb6.mono (by omega))
  clear hf' hat' hs' ho' hb6 hs1 hb1 hr1 hs2 hs2' hf'' hat'' hs'' ho'' hg
  go_wp2_with (refine wp_storeD (by rfl) (.tmp 4) (.tmp 14) (by rfl) (w.heap.size + 1 + 1) (by rfl) dd hdl (by rfl) hR (by rfl) ?_; intro w7 hR7 hf7 hz7)
  exact ret_dig (k := 4) rfl rfl hR7 hdl rfl ⟨rfl, HB.out.trans (hf7.below (by have := hR.lt; omega) (fun k hk => by omega))⟩

/-- The greatest power of 2 below n, as the reference finds it. -/
def halfF : Nat → Nat → Nat → Nat
  | 0, k, _ => k
  | f + 1, k, n => if k < n - k then halfF f (2 * k) n else k
def halfN (n : Nat) : Nat := halfF 64 1 n

set_option maxRecDepth 100000 in
set_option maxHeartbeats 400000 in
theorem half_any (n : Nat) (w : World) (hn : n ≤ 9223372036854775807) :
    Calls Tryz.prog 122 #[.int .i64 (n : Int)] w fun e w' => e = .returned (.int .i64 (halfN n : Int)) ∧ w' = w := by
  go_enter Tryz.func122, Tryz.ntmps122
  go_wp2
  go_loop [3] (fun k => ∃ (q f : Nat), 1 ≤ q ∧ q ≤ 9223372036854775807 ∧ k = .int .i64 q ∧ Hid (halfF f q n = halfN n ∧ q * 2 ^ f = 2 ^ 64)) (fun k => n - (intOf k).toNat)
  case atStart => exact ⟨1, 64, by omega, by omega, rfl, ⟨rfl, by omega⟩⟩
  case round =>
    obtain ⟨q, f, hq1, hq2, rfl, H⟩ := hrel
    by_cases hlt : q < n - q
    · have hlt' : (q : Int) < (n : Int) - (q : Int) := by omega
      have H2 : Hid (∃ f', halfF f' (2 * q) n = halfN n ∧ 2 * q * 2 ^ f' = 2 ^ 64) := by
        obtain ⟨h1, h2⟩ := H.out
        cases f with
        | zero => simp at h2; omega
        | succ f' =>
          refine ⟨f', ?_, ?_⟩
          · rw [halfF, if_pos hlt] at h1; exact h1
          · rw [← h2, Nat.pow_succ]; rw [Nat.mul_comm 2 q, Nat.mul_assoc, Nat.mul_comm 2]
      go_wp2
      go_round
      case rel =>
        obtain ⟨f', h3⟩ := H2.out
        exact ⟨2 * q, f', by omega, by omega, by go_num, h3⟩
      case measure => simp [intOf]; omega
    · have hlt' : ¬ ((q : Int) < (n : Int) - (q : Int)) := by omega
      have HE : Hid (halfN n = q) := by
        obtain ⟨h1, h2⟩ := H.out
        cases f with
        | zero => exact h1.symm
        | succ f' => rw [halfF, if_neg hlt] at h1; exact h1.symm
      go_wp2
      go_ret
      exact ⟨by rw [HE.out]; rfl, rfl⟩

/-- The sum of some roots: with fuel. -/
def sumF : Nat → List (List UInt8) → List UInt8
  | 0, _ => []
  | _ + 1, [] => digB []
  | _ + 1, [d] => digB (0 :: d)
  | f + 1, l => digB (1 :: (sumF f (l.take (halfN l.length)) ++ sumF f (l.drop (halfN l.length))))
def sumB (l : List (List UInt8)) : List UInt8 := sumF (l.length + 1) l

/-- Digests one behind the other in memory. -/
def digsC (l : List (List UInt8)) : List Value := l.flatMap (·.map u8c)
theorem sumF_length : ∀ (f : Nat) (l : List (List UInt8)), (sumF (f + 1) l).length = 8
  | _, [] => rfl
  | _, [_] => rfl
  | _, _ :: _ :: _ => rfl
theorem digsC_length : ∀ (l : List (List UInt8)), (∀ d ∈ l, d.length = 8) → (digsC l).length = l.length * 8
  | [], _ => rfl
  | d :: l, h => by
    have := digsC_length l (fun x hx => h x (by simp [hx]))
    simp only [digsC, List.flatMap_cons, List.length_append, List.length_map] at this ⊢
    rw [this, h d (by simp), List.length_cons]; omega
theorem digsC_take (l : List (List UInt8)) (h : ∀ d ∈ l, d.length = 8) (k : Nat) (hk : k ≤ l.length) : (digsC l).take (k * 8) = digsC (l.take k) := by
  have e : digsC l = digsC (l.take k) ++ digsC (l.drop k) := by
    unfold digsC
    rw [← List.flatMap_append, List.take_append_drop]
  rw [e]
  have hl : (digsC (l.take k)).length = k * 8 := by
    rw [digsC_length _ (fun d hd => h d (List.mem_of_mem_take hd)), List.length_take, Nat.min_eq_left hk]
  rw [← hl, List.take_left]
theorem digsC_drop (l : List (List UInt8)) (h : ∀ d ∈ l, d.length = 8) (k : Nat) (hk : k ≤ l.length) : (digsC l).drop (k * 8) = digsC (l.drop k) := by
  have e : digsC l = digsC (l.take k) ++ digsC (l.drop k) := by
    unfold digsC
    rw [← List.flatMap_append, List.take_append_drop]
  rw [e]
  have hl : (digsC (l.take k)).length = k * 8 := by
    rw [digsC_length _ (fun d hd => h d (List.mem_of_mem_take hd)), List.length_take, Nat.min_eq_left hk]
  rw [← hl, List.drop_left]
theorem halfF_bd : ∀ (f q n : Nat), 1 ≤ q → q < n → 1 ≤ halfF f q n ∧ halfF f q n < n
  | 0, q, n, h1, h2 => ⟨h1, h2⟩
  | f + 1, q, n, h1, h2 => by
    unfold halfF
    split
    · exact halfF_bd f (2 * q) n (by omega) (by omega)
    · exact ⟨h1, h2⟩
theorem halfN_bd (n : Nat) (h : 2 ≤ n) : 1 ≤ halfN n ∧ halfN n < n := halfF_bd 64 1 n (by omega) (by omega)
end Go.Proofs.YtekegfbjbainhaaGreat
