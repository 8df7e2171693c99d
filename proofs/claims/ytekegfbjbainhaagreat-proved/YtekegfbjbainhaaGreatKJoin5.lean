import Derived.Test.YtekegfbjbainhaaGreatKRef10
import Derived.Test.YtekegfbjbainhaaGreatKJoin2
import Derived.Test.YtekegfbjbainhaaGreatKLaws1
import Derived.Deep.RegionWith
import Derived.Stop.BytesEq
import Derived.Deep.DrawnRows
/- The reference's root page, walked. -/
namespace Go.Proofs.YtekegfbjbainhaaGreat
set_option linter.unusedVariables false
set_option linter.unusedSimpArgs false
open Go.RowKit

theorem Tryz.sizePage : (Tryz.prog.info? 80).map (·.size) = some 2 := by kernel_rfl

set_option maxRecDepth 100000 in
set_option maxHeartbeats 1000000 in
theorem root_any (lv : SlR) (lvls : List LevR) (m : Nat) (s q : SlR) (ql : List ItR) (rest : List (SlR × List ItR)) (base : Nat) (w : World) (ho : OwnL w base lv.val lvls) (hm : lvls.length = m + 1) (hm2 : m ≤ 100) (hlast : lvls[m]? = some (s, (q, ql) :: rest)) (hl : LvOk w base m (s, (q, ql) :: rest)) :
    Calls Tryz.prog 85 #[.agg #[.slice lv.a lv.n lv.cap]] w fun e w' => e = .returned (.agg #[.int .i64 (m : Int), .slice q.a q.n q.cap]) ∧ Below w.heap.size w w' := by
  obtain ⟨hsl, hln⟩ := SlV.ofOwn (s := lv) ho
  obtain ⟨hsp, hsn⟩ := SlV.ofOwn (s := s) hl.1
  obtain ⟨lb, lo, hla, hlb, c0⟩ := SlV.at hsl (i := m) (v := .slice s.a s.n s.cap) (by unfold lvC; rw [List.getElem?_map, hlast]; rfl)
  obtain ⟨pb, po, hpa, hpb, d0⟩ := SlV.at hsp (i := 0) (v := .int .i64 (m : Int)) rfl
  obtain ⟨pb', po', hpa', _, d1⟩ := SlV.at hsp (i := 1) (v := .slice q.a q.n q.cap) rfl
  rw [hpa] at hpa'
  cases hpa'
  have hln1 : lv.n = m + 1 := by rw [hln]; exact hm
  have hsn1 : (1 : Int) ≤ s.n := by rw [hsn]; simp; omega
  obtain ⟨la, ln, lc⟩ := lv
  obtain ⟨sa, sn, sc⟩ := s
  simp only at hla hln1 hpa hsn1 c0
  subst hla; subst hln1; subst hpa
  have hmI : (0 : Int) ≤ (m : Int) := Int.natCast_nonneg _
  have hmJ : (m : Int) ≤ 100 := by omega
  rw [Nat.add_zero] at d0
  clear hsl hsp hsn hln ho hl hlast
  go_enter Tryz.func85, Tryz.ntmps85
  go_wp2
  exact ret_agg (k := 2) (cs := [.int .i64 (m : Int), .slice q.a q.n q.cap]) rfl rfl (RowV.new_at _ _ _ _ (by simp)) Tryz.underlying80 rfl Tryz.sizePage rfl ⟨rfl, by go_grown⟩
end Go.Proofs.YtekegfbjbainhaaGreat

/- The reference's sums, walked. -/
namespace Go.Proofs.YtekegfbjbainhaaGreat
set_option linter.unusedVariables false
set_option linter.unusedSimpArgs false
open Go.RowKit

/-- A digest that was handed in, in a box of its own. -/
abbrev boxD (w : World) (d : List UInt8) : World := w.alloc (.cells (d.map u8c).toArray 36)
/-- The place of a digest that is to come out. -/
abbrev resD (w : World) : World := w.alloc (.cells #[.int .u8 0, .int .u8 0, .int .u8 0, .int .u8 0, .int .u8 0, .int .u8 0, .int .u8 0, .int .u8 0] 36)
abbrev oneB (w : World) (x : Int) : World := w.alloc (.cells #[.int .u8 x] 5)
def z8 : List Value := [.int .u8 0, .int .u8 0, .int .u8 0, .int .u8 0, .int .u8 0, .int .u8 0, .int .u8 0, .int .u8 0]

theorem resD_row (w : World) : RowV (resD w) w.heap.size 36 z8 := RowV.new w 36 z8

set_option maxRecDepth 100000 in
set_option maxHeartbeats 400000 in
theorem leaf_any (d : List UInt8) (w : World) (hd : d.length = 8) :
    Calls Tryz.prog 121 #[dV d] w fun e w' => e = .returned (dV (digB (0 :: d))) ∧ Below w.heap.size w w' := by
  have hb1 : OwnB (oneB (resD (boxD w d)) 0) w.heap.size (.slice (some ⟨w.heap.size + 1 + 1, 0, none⟩) 1 1) [0] := by
    have := OwnB.built (resD (boxD w d)) w.heap.size [0] (by simp; omega) (by simp [maxLen])
    simp only [World.size_alloc] at this
    exact this
  have hs1 : SlB (oneB (resD (boxD w d)) 0) (some ⟨w.heap.size, 0, none⟩) d := SlB.of_row (((RowV.new w 36 _).alloc _).alloc _)
  have hr1 : RowV (oneB (resD (boxD w d)) 0) (w.heap.size + 1) 36 z8 := by
    have := (resD_row (boxD w d)).alloc (.cells #[.int .u8 0] 5)
    simp only [World.size_alloc] at this
    exact this
  obtain ⟨dd, hdd⟩ : ∃ dd, dd = digB (0 :: d) := ⟨_, rfl⟩
  have hdl : dd.length = 8 := by rw [hdd]; rfl
  have hv : dV d = .agg (d.map u8c).toArray := rfl
  rw [← hdd, hv]
  have HDD : Hid (dd = digB (0 :: d)) := hdd
  clear hdd hv
  go_enter Tryz.func121, Tryz.ntmps121
  go_wp2_with (at_builtin; refine wp_appendB (by rfl) (.tmp 5) (.tmp 6) (by rfl) w.heap.size _ [0] (by rfl) hb1 (some ⟨w.heap.size, 0, none⟩) 8 8 d (by rfl) hd.symm hs1 (fun h => by cases h) (by simp [hd]) (by simp; omega) ?_; intro a' n' cap' w4 hn' ho' hs' hf' hat')
  refine (refDigest_any a' _ cap' (0 :: d) w4 (by simp [hd]) (by simp [hd, maxLen]) hs').mono ?_
  rintro e w5 ⟨rfl, hb5⟩
  rw [digV_eq, ← HDD.out]
  have hR : RowV w5 (w.heap.size + 1) 36 z8 := by
    have h2 := hr1.of_block (hf'.block (w.heap.size + 1) (by simp) (by simp [Value.ownBlock]))
    exact h2.below h2.lt hb5
  have HB : Hid (Below w.heap.size w w5) := by
    have h3 := hf'.below (B := w.heap.size) (by simp; omega) (fun k hk => by simp [Value.ownBlock] at hk; omega)
    exact (((((Below.refl _ _).alloc (Nat.le_refl _) _).alloc (by simp) _).alloc (by simp; omega) _).trans h3).trans (hb5.mono (by have := h3.size; simp at this; omega))
  clear hf' hat' hs' ho' hb5 hs1 hb1 hr1
  go_wp2_with (refine wp_storeD (by rfl) (.tmp 2) (.tmp 9) (by rfl) (w.heap.size + 1) (by rfl) dd hdl (by rfl) hR (by rfl) ?_; intro w6 hR6 hf6 hz6)
  exact ret_dig (k := 2) rfl rfl hR6 hdl rfl ⟨rfl, HB.out.trans (hf6.below (by have := hR.lt; omega) (fun k hk => by omega))⟩

set_option maxRecDepth 100000 in
set_option maxHeartbeats 400000 in
theorem refPair_any (x y : List UInt8) (w : World) (hx : x.length = 8) (hy : y.length = 8) :
    Calls Tryz.prog 123 #[dV x, dV y] w fun e w' => e = .returned (dV (digB (1 :: (x ++ y)))) ∧ Below w.heap.size w w' := by
  have hb1 : OwnB (oneB (resD (boxD (boxD w x) y)) 1) w.heap.size (.slice (some ⟨w.heap.size + 1 + 1 + 1, 0, none⟩) 1 1) [1] := by
    have := OwnB.built (resD (boxD (boxD w x) y)) w.heap.size [1] (by simp; omega) (by simp [maxLen])
    simp only [World.size_alloc] at this
    exact this
  have hs1 : SlB (oneB (resD (boxD (boxD w x) y)) 1) (some ⟨w.heap.size, 0, none⟩) x := SlB.of_row ((((RowV.new w 36 _).alloc _).alloc _).alloc _)
  have hs2 : SlB (oneB (resD (boxD (boxD w x) y)) 1) (some ⟨w.heap.size + 1, 0, none⟩) y := by
    have := SlB.of_row (((RowV.new (boxD w x) 36 (y.map u8c)).alloc (.cells z8.toArray 36)).alloc (.cells #[.int .u8 1] 5))
    simp only [World.size_alloc] at this
    exact this
  have hr1 : RowV (oneB (resD (boxD (boxD w x) y)) 1) (w.heap.size + 1 + 1) 36 z8 := by
    have := (resD_row (boxD (boxD w x) y)).alloc (.cells #[.int .u8 1] 5)
    simp only [World.size_alloc] at this
    exact this
  obtain ⟨dd, hdd⟩ : ∃ dd, dd = digB (1 :: (x ++ y)) := ⟨_, rfl⟩
  have hdl : dd.length = 8 := by rw [hdd]; rfl
  have hvx : dV x = .agg (x.map u8c).toArray := rfl
  have hvy : dV y = .agg (y.map u8c).toArray := rfl
  rw [← hdd, hvx, hvy]
  have HDD : Hid (dd = digB (1 :: (x ++ y))) := hdd
  clear hdd hvx hvy
  go_enter Tryz.func123, Tryz.ntmps123
  go_wp2_with (first
    | (at_builtin; refine wp_appendB (by rfl) (.tmp 7) (.tmp 8) (by rfl) w.heap.size _ [1] (by rfl) hb1 (some ⟨w.heap.size, 0, none⟩) 8 8 x (by rfl) hx.symm hs1 (fun h => by cases h) (by simp [hx]) (by simp; omega) ?_; intro a' n' cap' w4 hn' ho' hs' hf' hat'; obtain rfl : n' = 9 := (by rw [hn', hx]; rfl); have hs2' := SlB.frame hs2 hf' (fun z hz => by cases hz; simp [Value.ownBlock]; omega); clear hn')
    | (at_builtin; refine wp_appendB (by rfl) (.tmp 10) (.tmp 11) (by rfl) w.heap.size _ ([1] ++ x) (by rfl) ho' (some ⟨w.heap.size + 1, 0, none⟩) 8 8 y (by rfl) hy.symm hs2' (fun h => by cases h) (by simp [hx, hy]) (by have := hf'.size; simp at this; omega) ?_; intro a'' n'' cap'' w5 hn'' ho'' hs'' hf'' hat''; obtain rfl : n'' = 17 := (by rw [hn'', hy]; simp [hx]); clear hn''))
  refine (refDigest_any a'' _ cap'' (1 :: (x ++ y)) w5 (by simp [hx, hy]) (by simp [hx, hy, maxLen]) (by simpa using hs'')).mono ?_
  rintro e w6 ⟨rfl, hb6⟩
  rw [digV_eq, ← HDD.out]
  have hg : ∀ k, (Value.slice a' 9 cap').ownBlock = some k → w.heap.size + 1 + 1 + 1 ≤ k := fun k hk => by
    rcases hat' with h | h
    · rw [h] at hk; simp [Value.ownBlock] at hk; omega
    · rw [h] at hk; simp at hk; omega
  have hR : RowV w6 (w.heap.size + 1 + 1) 36 z8 := by
    have h2 := hr1.of_block (hf'.block (w.heap.size + 1 + 1) (by simp) (by simp [Value.ownBlock]))
    have h3 := h2.of_block (hf''.block (w.heap.size + 1 + 1) h2.lt (fun e => by have := hg _ e; omega))
    exact h3.below h3.lt hb6
  have HB : Hid (Below w.heap.size w w6) := by
    have h3 := hf'.below (B := w.heap.size) (by simp; omega) (fun k hk => by simp [Value.ownBlock] at hk; omega)
    have z3 := h3.size
    simp only [World.size_alloc] at z3
    have h4 := hf''.below (B := w.heap.size) (by omega) (fun k hk => by have := hg _ hk; omega)
    have z4 := h4.size
    exact (((((((Below.refl _ _).alloc (Nat.le_refl _) _).alloc (by simp) _).alloc (by simp; omega) _).alloc (by simp; omega) _).trans h3).trans h4).trans (hb6.mono (by omega))
  clear hf' hat' hs' ho' hb6 hs1 hb1 hr1 hs2 hs2' hf'' hat'' hs'' ho'' hg
  go_wp2_with (refine wp_storeD (by rfl) (.tmp 4) (.tmp 14) (by rfl) (w.heap.size + 1 + 1) (by rfl) dd hdl (by rfl) hR (by rfl) ?_; intro w7 hR7 hf7 hz7)
  exact ret_dig (k := 4) rfl rfl hR7 hdl rfl ⟨rfl, HB.out.trans (hf7.below (by have := hR.lt; omega) (fun k hk => by omega))⟩

/-- The greatest power of 2 below n, as the reference finds it. -/
def halfF : Nat → Nat → Nat → Nat
  | 0, k, _ => k
  | f + 1, k, n => if k < n - k then halfF f (2 * k) n else k
def halfN (n : Nat) : Nat := halfF 64 1 n

set_option maxRecDepth 100000 in
set_option maxHeartbeats 400000 in
theorem half_any (n : Nat) (w : World) (hn : n ≤ 9223372036854775807) :
    Calls Tryz.prog 122 #[.int .i64 (n : Int)] w fun e w' => e = .returned (.int .i64 (halfN n : Int)) ∧ w' = w := by
  go_enter Tryz.func122, Tryz.ntmps122
  go_wp2
  go_loop [3] (fun k => ∃ (q f : Nat), 1 ≤ q ∧ q ≤ 9223372036854775807 ∧ k = .int .i64 q ∧ Hid (halfF f q n = halfN n ∧ q * 2 ^ f = 2 ^ 64)) (fun k => n - (intOf k).toNat)
  case atStart => exact ⟨1, 64, by omega, by omega, rfl, ⟨rfl, by omega⟩⟩
  case round =>
    obtain ⟨q, f, hq1, hq2, rfl, H⟩ := hrel
    by_cases hlt : q < n - q
    · have hlt' : (q : Int) < (n : Int) - (q : Int) := by omega
      have H2 : Hid (∃ f', halfF f' (2 * q) n = halfN n ∧ 2 * q * 2 ^ f' = 2 ^ 64) := by
        obtain ⟨h1, h2⟩ := H.out
        cases f with
        | zero => simp at h2; omega
        | succ f' =>
          refine ⟨f', ?_, ?_⟩
          · rw [halfF, if_pos hlt] at h1; exact h1
          · rw [← h2, Nat.pow_succ]; rw [Nat.mul_comm 2 q, Nat.mul_assoc, Nat.mul_comm 2]
      go_wp2
      go_round
      case rel =>
        obtain ⟨f', h3⟩ := H2.out
        exact ⟨2 * q, f', by omega, by omega, by go_num, h3⟩
      case measure => simp [intOf]; omega
    · have hlt' : ¬ ((q : Int) < (n : Int) - (q : Int)) := by omega
      have HE : Hid (halfN n = q) := by
        obtain ⟨h1, h2⟩ := H.out
        cases f with
        | zero => exact h1.symm
        | succ f' => rw [halfF, if_neg hlt] at h1; exact h1.symm
      go_wp2
      go_ret
      exact ⟨by rw [HE.out]; rfl, rfl⟩

/-- The sum of some roots: with fuel. -/
def sumF : Nat → List (List UInt8) → List UInt8
  | 0, _ => []
  | _ + 1, [] => digB []
  | _ + 1, [d] => digB (0 :: d)
  | f + 1, l => digB (1 :: (sumF f (l.take (halfN l.length)) ++ sumF f (l.drop (halfN l.length))))
def sumB (l : List (List UInt8)) : List UInt8 := sumF (l.length + 1) l

/-- Digests one behind the other in memory. -/
def digsC (l : List (List UInt8)) : List Value := l.flatMap (·.map u8c)
theorem sumF_length : ∀ (f : Nat) (l : List (List UInt8)), (sumF (f + 1) l).length = 8
  | _, [] => rfl
  | _, [_] => rfl
  | _, _ :: _ :: _ => rfl
theorem digsC_length : ∀ (l : List (List UInt8)), (∀ d ∈ l, d.length = 8) → (digsC l).length = l.length * 8
  | [], _ => rfl
  | d :: l, h => by
    have := digsC_length l (fun x hx => h x (by simp [hx]))
    simp only [digsC, List.flatMap_cons, List.length_append, List.length_map] at this ⊢
    rw [this, h d (by simp), List.length_cons]; omega
theorem digsC_take (l : List (List UInt8)) (h : ∀ d ∈ l, d.length = 8) (k : Nat) (hk : k ≤ l.length) : (digsC l).take (k * 8) = digsC (l.take k) := by
  have e : digsC l = digsC (l.take k) ++ digsC (l.drop k) := by
    unfold digsC
    rw [← List.flatMap_append, List.take_append_drop]
  rw [e]
  have hl : (digsC (l.take k)).length = k * 8 := by
    rw [digsC_length _ (fun d hd => h d (List.mem_of_mem_take hd)), List.length_take, Nat.min_eq_left hk]
  rw [← hl, List.take_left]
theorem digsC_drop (l : List (List UInt8)) (h : ∀ d ∈ l, d.length = 8) (k : Nat) (hk : k ≤ l.length) : (digsC l).drop (k * 8) = digsC (l.drop k) := by
  have e : digsC l = digsC (l.take k) ++ digsC (l.drop k) := by
    unfold digsC
    rw [← List.flatMap_append, List.take_append_drop]
  rw [e]
  have hl : (digsC (l.take k)).length = k * 8 := by
    rw [digsC_length _ (fun d hd => h d (List.mem_of_mem_take hd)), List.length_take, Nat.min_eq_left hk]
  rw [← hl, List.drop_left]
theorem halfF_bd : ∀ (f q n : Nat), 1 ≤ q → q < n → 1 ≤ halfF f q n ∧ halfF f q n < n
  | 0, q, n, h1, h2 => ⟨h1, h2⟩
  | f + 1, q, n, h1, h2 => by
    unfold halfF
    split
    · exact halfF_bd f (2 * q) n (by omega) (by omega)
    · exact ⟨h1, h2⟩
theorem halfN_bd (n : Nat) (h : 2 ≤ n) : 1 ≤ halfN n ∧ halfN n < n := halfF_bd 64 1 n (by omega) (by omega)
end Go.Proofs.YtekegfbjbainhaaGreat

/- The reference's Sum, walked. -/
namespace Go.Proofs.YtekegfbjbainhaaGreat
set_option linter.unusedVariables false
set_option linter.unusedSimpArgs false
open Go.RowKit
attribute [local go_sem ↓] Go.wp_at_zero Go.wp_at_succ

/-- What a function that hands back a digest keeps: all that was there, and the place of its result (block b). -/
def KeepD (w : World) (b : Nat) (W : World) : Prop := Below w.heap.size w W ∧ RowV W b 36 z8
theorem KeepD.start (w : World) : KeepD w w.heap.size (resD w) := ⟨(Below.refl _ _).alloc (Nat.le_refl _) _, resD_row w⟩
theorem KeepD.drew {w W : World} {b : Nat} (h : KeepD w b W) : KeepD w b W.drew := ⟨h.1.drew, h.2⟩
theorem KeepD.next {w W W' : World} {b : Nat} (h : KeepD w b W) (hb : Below W.heap.size W W') : KeepD w b W' := ⟨h.1.trans (hb.mono h.1.size), h.2.below h.2.lt hb⟩

theorem SlV.sub {w : World} {b o k n : Nat} {cs ds : List Value} (h : SlV w (some ⟨b, o, none⟩) cs) (hd : ∀ i (hi : i < ds.length), cs[k + i]? = some ds[i]) : SlV w (some ⟨b, o + k, none⟩) ds := fun i hi => by
  obtain ⟨h1, h2⟩ := List.getElem?_eq_some_iff.1 (hd i hi)
  obtain ⟨b', o', ha, hb, hc⟩ := h (k + i) h1
  cases ha
  exact ⟨b, o + k, rfl, hb, by rw [Nat.add_assoc, hc, h2]⟩

/-- Digests in memory, as a slice. -/
def SlD (w : World) (a : Option Addr) (l : List (List UInt8)) : Prop := SlV w a (digsC l) ∧ ∀ d ∈ l, d.length = 8
theorem SlD.take {w : World} {a : Option Addr} {l : List (List UInt8)} (h : SlD w a l) (k : Nat) (hk : k ≤ l.length) : SlD w a (l.take k) := by
  refine ⟨fun i hi => ?_, fun d hd => h.2 d (List.mem_of_mem_take hd)⟩
  have e := digsC_take l h.2 k hk
  have hi' : i < ((digsC l).take (k * 8)).length := by rw [e]; exact hi
  obtain ⟨b, o, ha, hb, hc⟩ := h.1 i (by rw [List.length_take] at hi'; omega)
  refine ⟨b, o, ha, hb, ?_⟩
  rw [hc]
  congr 1
  have : (digsC (l.take k))[i]? = ((digsC l).take (k * 8))[i]? := by rw [e]
  rw [List.getElem?_eq_getElem hi, List.getElem?_eq_getElem hi', List.getElem_take] at this
  exact (Option.some.inj this).symm
theorem SlD.drop {w : World} {b o : Nat} {l : List (List UInt8)} (h : SlD w (some ⟨b, o, none⟩) l) (k : Nat) (hk : k ≤ l.length) : SlD w (some ⟨b, o + k * 8, none⟩) (l.drop k) := by
  refine ⟨SlV.sub (n := 0) h.1 (fun i hi => ?_), fun d hd => h.2 d (List.mem_of_mem_drop hd)⟩
  have e := digsC_drop l h.2 k hk
  rw [← List.getElem?_drop, e]
  exact List.getElem?_eq_getElem hi
theorem SlD.below {w w' : World} {a : Option Addr} {l : List (List UInt8)} (h : SlD w a l) (hb : Below w.heap.size w w') : SlD w' a l := ⟨h.1.below_all hb, h.2⟩

set_option maxRecDepth 100000 in
set_option maxHeartbeats 1600000 in
theorem sum_any : ∀ (f : Nat) (l : List (List UInt8)) (a : Option Addr) (cap : Nat) (w : World), l.length < f → l.length ≤ cap → cap ≤ 9223372036854775807 → SlD w a l →
    Calls Tryz.prog 87 #[.slice a l.length cap] w fun e w' => e = .returned (dV (sumF f l)) ∧ Below w.heap.size w w'
  | 0, l, a, cap, w, hf, _, _, _ => absurd hf (Nat.not_lt_zero _)
  | f + 1, [], a, cap, w, hf, hc, hcap, hs => by
    have hK := KeepD.start w
    obtain ⟨dd, hdd⟩ : ∃ dd, dd = sumF (f + 1) [] := ⟨_, rfl⟩
    have hdl : dd.length = 8 := by rw [hdd]; rfl
    rw [← hdd]
    have HDD : Hid (dd = digB []) := hdd
    clear hdd
    go_enter Tryz.func87, Tryz.ntmps87
    go_wp2_with fail
    refine (refDigest_any none 0 0 [] _ rfl (by simp) (SlB.nil _ _)).mono ?_
    rintro e w5 ⟨rfl, hb5⟩
    rw [digV_eq, ← HDD.out]
    have hK5 := hK.next hb5
    go_wp2_with (refine wp_storeD (by rfl) (.tmp 2) (.tmp 8) (by rfl) w.heap.size (by rfl) dd hdl (by rfl) hK5.2 (by rfl) ?_; intro w6 hR6 hf6 hz6)
    exact ret_dig (k := 2) rfl rfl hR6 hdl rfl ⟨rfl, hK5.1.trans (hf6.below (by have := hK5.2.lt; omega) (fun k hk => by omega))⟩
  | f + 1, [d], a, cap, w, hf, hc, hcap, hs => by
    have hK := KeepD.start w
    have hd : d.length = 8 := hs.2 d (by simp)
    obtain ⟨b, o, rfl, hb, _⟩ := hs.1 0 (by simp [digsC, hd])
    have hr : (resD w).rangeAt b o (d.map u8c) := fun j v hv => by
      obtain ⟨hj, hv⟩ := List.getElem?_eq_some_iff.1 hv
      obtain ⟨b', o', ha, hb', hc'⟩ := hs.1 j (by simpa [digsC] using hj)
      cases ha
      rw [World.cell?_alloc_lt _ _ _ (by exact hb'), hc']
      simp only [digsC, List.flatMap_cons, List.flatMap_nil, List.append_nil]
      rw [hv]
    have hcap1 : (1 : Int) ≤ cap := by simp at hc; omega
    obtain ⟨dd, hdd⟩ : ∃ dd, dd = sumF (f + 1) [d] := ⟨_, rfl⟩
    have hdl : dd.length = 8 := by rw [hdd]; rfl
    rw [← hdd]
    have HDD : Hid (dd = digB (0 :: d)) := hdd
    clear hdd
    go_enter Tryz.func87, Tryz.ntmps87
    go_wp2_with (refine wpList_load_mid (by rfl) 36 (.tmp 12) (by rfl) b o (by rfl) (d.map u8c) _ hr Tryz.underlying36 (by rfl) (by simpa [hd] using Tryz.infoDig) ?_)
    refine (leaf_any d _ hd).mono ?_
    rintro e w5 ⟨rfl, hb5⟩
    rw [← HDD.out]
    have hK5 := hK.next hb5
    go_wp2_with (refine wp_storeD (by rfl) (.tmp 2) (.tmp 14) (by rfl) w.heap.size (by rfl) dd hdl (by rfl) hK5.2 (by rfl) ?_; intro w6 hR6 hf6 hz6)
    exact ret_dig (k := 2) rfl rfl hR6 hdl rfl ⟨rfl, hK5.1.trans (hf6.below (by have := hK5.2.lt; omega) (fun k hk => by omega))⟩
  | f + 1, x :: y :: r, a, cap, w, hf, hc, hcap, hs => by
    have hK := KeepD.start w
    have hn2 : 2 ≤ (x :: y :: r).length := by simp
    have hhb := halfN_bd _ hn2
    obtain ⟨dd, hdd⟩ : ∃ dd, dd = sumF (f + 1) (x :: y :: r) := ⟨_, rfl⟩
    have hdl : dd.length = 8 := by rw [hdd]; rfl
    rw [← hdd]
    have HDD : Hid (dd = digB (1 :: (sumF f ((x :: y :: r).take (halfN (x :: y :: r).length)) ++ sumF f ((x :: y :: r).drop (halfN (x :: y :: r).length))))) := hdd
    clear hdd
    generalize (x :: y :: r) = l at *
    obtain ⟨b, o, rfl, hb, hcx⟩ := hs.1 0 (by rw [digsC_length _ hs.2]; omega)
    clear hcx
    have hhalf := half_any l.length
    have HH : Hid (∀ w : World, l.length ≤ 9223372036854775807 → _) := hhalf
    clear hhalf
    generalize halfN l.length = k at *
    obtain ⟨hk1, hk2⟩ := hhb
    have e1 : (l.take k).length = k := by rw [List.length_take]; omega
    have e2 : (l.drop k).length = l.length - k := by rw [List.length_drop]
    have H1 : Hid (∀ W, KeepD w w.heap.size W → Calls Tryz.prog 87 #[.slice (some ⟨b, o, none⟩) k cap] W fun e w' => e = .returned (dV (sumF f (l.take k))) ∧ KeepD w w.heap.size w') := fun W hW => by
      have h := sum_any f (l.take k) (some ⟨b, o, none⟩) cap W (by omega) (by omega) hcap ((hs.below hW.1).take k (by omega))
      rw [e1] at h
      exact h.mono fun e w' ⟨he, hb'⟩ => ⟨he, hW.next hb'⟩
    have H2 : Hid (∀ W, KeepD w w.heap.size W → Calls Tryz.prog 87 #[.slice (some ⟨b, o + k * 8, none⟩) (l.length - k) (cap - k)] W fun e w' => e = .returned (dV (sumF f (l.drop k))) ∧ KeepD w w.heap.size w') := fun W hW => by
      have h := sum_any f (l.drop k) (some ⟨b, o + k * 8, none⟩) (cap - k) W (by omega) (by omega) (by omega) ((hs.below hW.1).drop k (by omega))
      rw [e2] at h
      exact h.mono fun e w' ⟨he, hb'⟩ => ⟨he, hW.next hb'⟩
    obtain ⟨f', rfl⟩ : ∃ f', f = f' + 1 := ⟨f - 1, by omega⟩
    have g1 : (sumF (f' + 1) (l.take k)).length = 8 := sumF_length _ _
    have g2 : (sumF (f' + 1) (l.drop k)).length = 8 := sumF_length _ _
    generalize sumF (f' + 1) (l.take k) = s1 at *
    generalize sumF (f' + 1) (l.drop k) = s2 at *
    obtain ⟨x0, x1, x2, x3, x4, x5, x6, x7, rfl⟩ := list8 dd hdl
    have hcapI : (l.length : Int) ≤ cap := by omega
    have hcapJ : (cap : Int) ≤ 9223372036854775807 := by omega
    have hkI1 : (1 : Int) ≤ k := by omega
    have hkI2 : (k : Int) < l.length := by omega
    have hln : ¬ (l.length : Int) = 0 := by omega
    have hne0 : ((l.length : Int) == 0) = false := by simpa using hln
    have hne1 : ((l.length : Int) == 1) = false := by simp; omega
    have hkc : ¬ cap = k := by omega
    clear hs e1 e2 hdl
    go_enter Tryz.func87, Tryz.ntmps87
    go_wp2_with fail
    refine (HH.out _ (by omega)).mono ?_
    rintro e w1 ⟨rfl, rfl⟩
    have HV : Hid (dV [x0, x1, x2, x3, x4, x5, x6, x7] = .agg #[Value.int .u8 (x0.toNat : Int), Value.int .u8 (x1.toNat : Int), Value.int .u8 (x2.toNat : Int), Value.int .u8 (x3.toNat : Int), Value.int .u8 (x4.toNat : Int), Value.int .u8 (x5.toNat : Int), Value.int .u8 (x6.toNat : Int), Value.int .u8 (x7.toNat : Int)]) := rfl
    go_wp2
    go_region_with (first
      | (go_at_call_of 87 (Value.slice (some ⟨b, o, none⟩) k cap); refine (H1.out _ (by exact hK.drew)).mono ?_; rintro e w2 ⟨rfl, hK2⟩)
      | (go_at_call_of 87 (Value.slice (some ⟨b, o + k * 8, none⟩) (l.length - k) (cap - k)); refine (H2.out _ (by assumption)).mono ?_; rintro e w3 ⟨rfl, hK3⟩)
      | (go_at_call 123; refine (refPair_any s1 s2 _ g1 g2).mono ?_; rintro e w4 ⟨rfl, hb4⟩; rw [← HDD.out, HV.out]; have hK4 := KeepD.next hK3 hb4; have c0 : w4.cell? ⟨w.heap.size, 0, none⟩ = some (.int .u8 0) := hK4.2.cell 0 (by decide); have f0 : w4.frozen? ⟨w.heap.size, 0, none⟩ = false := hK4.2.frozen 0; have c1 : w4.cell? ⟨w.heap.size, 1, none⟩ = some (.int .u8 0) := hK4.2.cell 1 (by decide); have f1 : w4.frozen? ⟨w.heap.size, 1, none⟩ = false := hK4.2.frozen 1; have c2 : w4.cell? ⟨w.heap.size, 2, none⟩ = some (.int .u8 0) := hK4.2.cell 2 (by decide); have f2 : w4.frozen? ⟨w.heap.size, 2, none⟩ = false := hK4.2.frozen 2; have c3 : w4.cell? ⟨w.heap.size, 3, none⟩ = some (.int .u8 0) := hK4.2.cell 3 (by decide); have f3 : w4.frozen? ⟨w.heap.size, 3, none⟩ = false := hK4.2.frozen 3; have c4 : w4.cell? ⟨w.heap.size, 4, none⟩ = some (.int .u8 0) := hK4.2.cell 4 (by decide); have f4 : w4.frozen? ⟨w.heap.size, 4, none⟩ = false := hK4.2.frozen 4; have c5 : w4.cell? ⟨w.heap.size, 5, none⟩ = some (.int .u8 0) := hK4.2.cell 5 (by decide); have f5 : w4.frozen? ⟨w.heap.size, 5, none⟩ = false := hK4.2.frozen 5; have c6 : w4.cell? ⟨w.heap.size, 6, none⟩ = some (.int .u8 0) := hK4.2.cell 6 (by decide); have f6 : w4.frozen? ⟨w.heap.size, 6, none⟩ = false := hK4.2.frozen 6; have c7 : w4.cell? ⟨w.heap.size, 7, none⟩ = some (.int .u8 0) := hK4.2.cell 7 (by decide); have f7 : w4.frozen? ⟨w.heap.size, 7, none⟩ = false := hK4.2.frozen 7))
    all_goals
      go_wp2
      exact ret_dig (k := 2) (d := [x0, x1, x2, x3, x4, x5, x6, x7]) rfl rfl (by exact ((((((((hK4.2.set 0 _).set 1 _).set 2 _).set 3 _).set 4 _).set 5 _).set 6 _).set 7 _)) rfl rfl ⟨rfl, ((((((((hK4.1.setCell (by exact Nat.le_refl _) _).setCell (by exact Nat.le_refl _) _).setCell (by exact Nat.le_refl _) _).setCell (by exact Nat.le_refl _) _).setCell (by exact Nat.le_refl _) _).setCell (by exact Nat.le_refl _) _).setCell (by exact Nat.le_refl _) _).setCell (by exact Nat.le_refl _) _)⟩
end Go.Proofs.YtekegfbjbainhaaGreat
