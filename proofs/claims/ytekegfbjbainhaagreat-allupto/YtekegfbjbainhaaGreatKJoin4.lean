import Derived.Test.YtekegfbjbainhaaGreatKJoin3
import Derived.Test.YtekegfbjbainhaaGreatKJoin2
import Derived.Test.YtekegfbjbainhaaGreatKJoin1
import Derived.Deep.RegionWith
import Derived.Stop.BytesEq
import Derived.Deep.DrawnRows
import Derived.Lib.Bytealg
set_option linter.unusedVariables false
set_option linter.unusedSimpArgs false

namespace Go.Proofs.YtekegfbjbainhaaGreat
open Go.RowKit
theorem Tryz.sizePage : (Tryz.prog.info? 80).map (·.size) = some 2 := by kernel_rfl
set_option maxRecDepth 100000 in
set_option maxHeartbeats 1000000 in
theorem root_any (lv : SlR) (lvls : List LevR) (m : Nat) (s q : SlR) (ql : List ItR) (rest : List (SlR × List ItR)) (base : Nat) (w : World) (ho : OwnL w base lv.val lvls) (hm : lvls.length = m + 1) (hm2 : m ≤ 100) (hlast : lvls[m]? = some (s, (q, ql) :: rest)) (hl : LvOk w base m (s, (q, ql) :: rest)) :
  Calls Tryz.prog 85 #[.agg #[.slice lv.a lv.n lv.cap]] w fun e w' => e = .returned (.agg #[.int .i64 (m : Int), .slice q.a q.n q.cap]) ∧ Below w.heap.size w w' := by
 obtain ⟨hsl, hln⟩ := SlV.ofOwn (s := lv) ho
 obtain ⟨hsp, hsn⟩ := SlV.ofOwn (s := s) hl.1
 obtain ⟨lb, lo, hla, hlb, c0⟩ := SlV.at hsl (i := m) (v := .slice s.a s.n s.cap) (by unfold lvC; rw [List.getElem?_map, hlast]; rfl)
 obtain ⟨pb, po, hpa, hpb, d0⟩ := SlV.at hsp (i := 0) (v := .int .i64 (m : Int)) rfl
 obtain ⟨pb', po', hpa', _, d1⟩ := SlV.at hsp (i := 1) (v := .slice q.a q.n q.cap) rfl
 rw [hpa] at hpa'
 cases hpa'
 have hln1 : lv.n = m + 1 := by rw [hln]; exact hm
 have hsn1 : (1 : Int) ≤ s.n := by rw [hsn]; simp; omega
 obtain ⟨la, ln, lc⟩ := lv
 obtain ⟨sa, sn, sc⟩ := s
 simp only at hla hln1 hpa hsn1 c0
 subst hla; subst hln1; subst hpa
 have hmI : (0 : Int) ≤ (m : Int) := Int.natCast_nonneg _
 have hmJ : (m : Int) ≤ 100 := by omega
 rw [Nat.add_zero] at d0
 clear hsl hsp hsn hln ho hl hlast
 go_enter Tryz.func85, Tryz.ntmps85
 go_wp2
 exact ret_agg (k := 2) (cs := [.int .i64 (m : Int), .slice q.a q.n q.cap]) rfl rfl (RowV.new_at _ _ _ _ (by simp)) Tryz.underlying80 rfl Tryz.sizePage rfl ⟨rfl, by go_grown⟩
end Go.Proofs.YtekegfbjbainhaaGreat


namespace Go.Proofs.YtekegfbjbainhaaGreat
open Go.RowKit
abbrev boxD (w : World) (d : List UInt8) : World := w.alloc (.cells (d.map u8c).toArray 36)
abbrev resD (w : World) : World := w.alloc (.cells #[.int .u8 0, .int .u8 0, .int .u8 0, .int .u8 0, .int .u8 0, .int .u8 0, .int .u8 0, .int .u8 0] 36)
abbrev oneB (w : World) (x : Int) : World := w.alloc (.cells #[.int .u8 x] 5)
def z8 : List Value := [.int .u8 0, .int .u8 0, .int .u8 0, .int .u8 0, .int .u8 0, .int .u8 0, .int .u8 0, .int .u8 0]
theorem resD_row (w : World) : RowV (resD w) w.heap.size 36 z8 := RowV.new w 36 z8
set_option maxRecDepth 100000 in
set_option maxHeartbeats 400000 in
theorem leaf_any (d : List UInt8) (w : World) (hd : d.length = 8) :
  Calls Tryz.prog 121 #[dV d] w fun e w' => e = .returned (dV (digB (0 :: d))) ∧ Below w.heap.size w w' := by
 have hb1 : OwnB (oneB (resD (boxD w d)) 0) w.heap.size (.slice (some ⟨w.heap.size + 1 + 1, 0, none⟩) 1 1) [0] := by
  have := OwnB.built (resD (boxD w d)) w.heap.size [0] (by simp; omega) (by simp [maxLen])
  simp only [World.size_alloc] at this
  exact this
 have hs1 : SlB (oneB (resD (boxD w d)) 0) (some ⟨w.heap.size, 0, none⟩) d := SlB.of_row (((RowV.new w 36 _).alloc _).alloc _)
 have hr1 : RowV (oneB (resD (boxD w d)) 0) (w.heap.size + 1) 36 z8 := by
  have := (resD_row (boxD w d)).alloc (.cells #[.int .u8 0] 5)
  simp only [World.size_alloc] at this
  exact this
 obtain ⟨dd, hdd⟩ : ∃ dd, dd = digB (0 :: d) := ⟨_, rfl⟩
 have hdl : dd.length = 8 := by rw [hdd]; rfl
 have hv : dV d = .agg (d.map u8c).toArray := rfl
 rw [← hdd, hv]
 have HDD : Hid (dd = digB (0 :: d)) := hdd
 clear hdd hv
 go_enter Tryz.func121, Tryz.ntmps121
 go_wp2_with (at_builtin; refine wp_appendB (by rfl) (.tmp 5) (.tmp 6) (by rfl) w.heap.size _ [0] (by rfl) hb1 (some ⟨w.heap.size, 0, none⟩) 8 8 d (by rfl) hd.symm hs1 (fun h => by cases h) (by simp [hd]) (by simp; omega) ?_; intro a' n' cap' w4 hn' ho' hs' hf' hat')
 refine (refDigest_any a' _ cap' (0 :: d) w4 (by simp [hd]) (by simp [hd, maxLen]) hs').mono ?_
 rintro e w5 ⟨rfl, hb5⟩
 rw [digV_eq, ← HDD.out]
 have hR : RowV w5 (w.heap.size + 1) 36 z8 := by
  have h2 := hr1.of_block (hf'.block (w.heap.size + 1) (by simp) (by simp [Value.ownBlock]))
  exact h2.below h2.lt hb5
 have HB : Hid (Below w.heap.size w w5) := by
  have h3 := hf'.below (B := w.heap.size) (by simp; omega) (fun k hk => by simp [Value.ownBlock] at hk; omega)
  exact (((((Below.refl _ _).alloc (Nat.le_refl _) _).alloc (by simp) _).alloc (by simp; omega) _).trans h3).trans (hb5.mono (by have := h3.size; simp at this; omega))
 clear hf' hat' hs' ho' hb5 hs1 hb1 hr1
 go_wp2_with (refine wp_storeD (by rfl) (.tmp 2) (.tmp 9) (by rfl) (w.heap.size + 1) (by rfl) dd hdl (by rfl) hR (by rfl) ?_; intro w6 hR6 hf6 hz6)
 exact ret_dig (k := 2) rfl rfl hR6 hdl rfl ⟨rfl, HB.out.trans (hf6.below (by have := hR.lt; omega) (fun k hk => by omega))⟩
set_option maxRecDepth 100000 in
set_option maxHeartbeats 400000 in
theorem refPair_any (x y : List UInt8) (w : World) (hx : x.length = 8) (hy : y.length = 8) :
  Calls Tryz.prog 123 #[dV x, dV y] w fun e w' => e = .returned (dV (digB (1 :: (x ++ y)))) ∧ Below w.heap.size w w' := by
 have hb1 : OwnB (oneB (resD (boxD (boxD w x) y)) 1) w.heap.size (.slice (some ⟨w.heap.size + 1 + 1 + 1, 0, none⟩) 1 1) [1] := by
  have := OwnB.built (resD (boxD (boxD w x) y)) w.heap.size [1] (by simp; omega) (by simp [maxLen])
  simp only [World.size_alloc] at this
  exact this
 have hs1 : SlB (oneB (resD (boxD (boxD w x) y)) 1) (some ⟨w.heap.size, 0, none⟩) x := SlB.of_row ((((RowV.new w 36 _).alloc _).alloc _).alloc _)
 have hs2 : SlB (oneB (resD (boxD (boxD w x) y)) 1) (some ⟨w.heap.size + 1, 0, none⟩) y := by
  have := SlB.of_row (((RowV.new (boxD w x) 36 (y.map u8c)).alloc (.cells z8.toArray 36)).alloc (.cells #[.int .u8 1] 5))
  simp only [World.size_alloc] at this
  exact this
 have hr1 : RowV (oneB (resD (boxD (boxD w x) y)) 1) (w.heap.size + 1 + 1) 36 z8 := by
  have := (resD_row (boxD (boxD w x) y)).alloc (.cells #[.int .u8 1] 5)
  simp only [World.size_alloc] at this
  exact this
 obtain ⟨dd, hdd⟩ : ∃ dd, dd = digB (1 :: (x ++ y)) := ⟨_, rfl⟩
 have hdl : dd.length = 8 := by rw [hdd]; rfl
 have hvx : dV x = .agg (x.map u8c).toArray := rfl
 have hvy : dV y = .agg (y.map u8c).toArray := rfl
 rw [← hdd, hvx, hvy]
 have HDD : Hid (dd = digB (1 :: (x ++ y))) := hdd
 clear hdd hvx hvy
 go_enter Tryz.func123, Tryz.ntmps123
 go_wp2_with (first
  | (at_builtin; refine wp_appendB (by rfl) (.tmp 7) (.tmp 8) (by rfl) w.heap.size _ [1] (by rfl) hb1 (some ⟨w.heap.size, 0, none⟩) 8 8 x (by rfl) hx.symm hs1 (fun h => by cases h) (by simp [hx]) (by simp; omega) ?_; intro a' n' cap' w4 hn' ho' hs' hf' hat'; obtain rfl : n' = 9 := (by rw [hn', hx]; rfl); have hs2' := SlB.frame hs2 hf' (fun z hz => by cases hz; simp [Value.ownBlock]; omega); clear hn')
  | (at_builtin; refine wp_appendB (by rfl) (.tmp 10) (.tmp 11) (by rfl) w.heap.size _ ([1] ++ x) (by rfl) ho' (some ⟨w.heap.size + 1, 0, none⟩) 8 8 y (by rfl) hy.symm hs2' (fun h => by cases h) (by simp [hx, hy]) (by have := hf'.size; simp at this; omega) ?_; intro a'' n'' cap'' w5 hn'' ho'' hs'' hf'' hat''; obtain rfl : n'' = 17 := (by rw [hn'', hy]; simp [hx]); clear hn''))
 refine (refDigest_any a'' _ cap'' (1 :: (x ++ y)) w5 (by simp [hx, hy]) (by simp [hx, hy, maxLen]) (by simpa using hs'')).mono ?_
 rintro e w6 ⟨rfl, hb6⟩
 rw [digV_eq, ← HDD.out]
 have hg : ∀ k, (Value.slice a' 9 cap').ownBlock = some k → w.heap.size + 1 + 1 + 1 ≤ k := fun k hk => by
  rcases hat' with h | h
  ·rw [h] at hk; simp [Value.ownBlock] at hk; omega
  ·rw [h] at hk; simp at hk; omega
 have hR : RowV w6 (w.heap.size + 1 + 1) 36 z8 := by
  have h2 := hr1.of_block (hf'.block (w.heap.size + 1 + 1) (by simp) (by simp [Value.ownBlock]))
  have h3 := h2.of_block (hf''.block (w.heap.size + 1 + 1) h2.lt (fun e => by have := hg _ e; omega))
  exact h3.below h3.lt hb6
 have HB : Hid (Below w.heap.size w w6) := by
  have h3 := hf'.below (B := w.heap.size) (by simp; omega) (fun k hk => by simp [Value.ownBlock] at hk; omega)
  have z3 := h3.size
  simp only [World.size_alloc] at z3
  have h4 := hf''.below (B := w.heap.size) (by omega) (fun k hk => by have := hg _ hk; omega)
  have z4 := h4.size
  exact (((((((Below.refl _ _).alloc (Nat.le_refl _) _).alloc (by simp) _).alloc (by simp; omega) _).alloc (by simp; omega) _).trans h3).trans h4).trans (hb6.mono (by omega))
 clear hf' hat' hs' ho' hb6 hs1 hb1 hr1 hs2 hs2' hf'' hat'' hs'' ho'' hg
 go_wp2_with (refine wp_storeD (by rfl) (.tmp 4) (.tmp 14) (by rfl) (w.heap.size + 1 + 1) (by rfl) dd hdl (by rfl) hR (by rfl) ?_; intro w7 hR7 hf7 hz7)
 exact ret_dig (k := 4) rfl rfl hR7 hdl rfl ⟨rfl, HB.out.trans (hf7.below (by have := hR.lt; omega) (fun k hk => by omega))⟩
def halfF : Nat → Nat → Nat → Nat
 | 0, k, _ => k
 | f + 1, k, n => if k < n - k then halfF f (2 * k) n else k
def halfN (n : Nat) : Nat := halfF 64 1 n
set_option maxRecDepth 100000 in
set_option maxHeartbeats 400000 in
theorem half_any (n : Nat) (w : World) (hn : n ≤ 9223372036854775807) :
  Calls Tryz.prog 122 #[.int .i64 (n : Int)] w fun e w' => e = .returned (.int .i64 (halfN n : Int)) ∧ w' = w := by
 go_enter Tryz.func122, Tryz.ntmps122
 go_wp2
 go_loop [3] (fun k => ∃ (q f : Nat), 1 ≤ q ∧ q ≤ 9223372036854775807 ∧ k = .int .i64 q ∧ Hid (halfF f q n = halfN n ∧ q * 2 ^ f = 2 ^ 64)) (fun k => n - (intOf k).toNat)
 case atStart => exact ⟨1, 64, by omega, by omega, rfl, ⟨rfl, by omega⟩⟩
 case round =>
  obtain ⟨q, f, hq1, hq2, rfl, H⟩ := hrel
  by_cases hlt : q < n - q
  ·have hlt' : (q : Int) < (n : Int) - (q : Int) := by omega
   have H2 : Hid (∃ f', halfF f' (2 * q) n = halfN n ∧ 2 * q * 2 ^ f' = 2 ^ 64) := by
    obtain ⟨h1, h2⟩ := H.out
    cases f with
    | zero => simp at h2; omega
    | succ f' =>
     refine ⟨f', ?_, ?_⟩
     ·rw [halfF, if_pos hlt] at h1; exact h1
     ·rw [← h2, Nat.pow_succ]; rw [Nat.mul_comm 2 q, Nat.mul_assoc, Nat.mul_comm 2]
   go_wp2
   go_round
   case rel =>
    obtain ⟨f', h3⟩ := H2.out
    exact ⟨2 * q, f', by omega, by omega, by go_num, h3⟩
   case measure => simp [intOf]; omega
  ·have hlt' : ¬ ((q : Int) < (n : Int) - (q : Int)) := by omega
   have HE : Hid (halfN n = q) := by
    obtain ⟨h1, h2⟩ := H.out
    cases f with
    | zero => exact h1.symm
    | succ f' => rw [halfF, if_neg hlt] at h1; exact h1.symm
   go_wp2
   go_ret
   exact ⟨by rw [HE.out]; rfl, rfl⟩
def sumF : Nat → List (List UInt8) → List UInt8
 | 0, _ => []
 | _ + 1, [] => digB []
 | _ + 1, [d] => digB (0 :: d)
 | f + 1, l => digB (1 :: (sumF f (l.take (halfN l.length)) ++ sumF f (l.drop (halfN l.length))))
def digsC (l : List (List UInt8)) : List Value := l.flatMap (·.map u8c)
theorem sumF_length : ∀ (f : Nat) (l : List (List UInt8)), (sumF (f + 1) l).length = 8
 | _, [] => rfl
 | _, [_] => rfl
 | _, _ :: _ :: _ => rfl
theorem digsC_length : ∀ (l : List (List UInt8)), (∀ d ∈ l, d.length = 8) → (digsC l).length = l.length * 8
 | [], _ => rfl
 | d :: l, h => by
  have := digsC_length l (fun x hx => h x (by simp [hx]))
  simp only [digsC, List.flatMap_cons, List.length_append, List.length_map] at this ⊢
  rw [this, h d (by simp), List.length_cons]; omega
theorem digsC_take (l : List (List UInt8)) (h : ∀ d ∈ l, d.length = 8) (k : Nat) (hk : k ≤ l.length) : (digsC l).take (k * 8) = digsC (l.take k) := by
 have e : digsC l = digsC (l.take k) ++ digsC (l.drop k) := by
  unfold digsC
  rw [← List.flatMap_append, List.take_append_drop]
 rw [e]
 have hl : (digsC (l.take k)).length = k * 8 := by
  rw [digsC_length _ (fun d hd => h d (List.mem_of_mem_take hd)), List.length_take, Nat.min_eq_left hk]
 rw [← hl, List.take_left]
theorem digsC_drop (l : List (List UInt8)) (h : ∀ d ∈ l, d.length = 8) (k : Nat) (hk : k ≤ l.length) : (digsC l).drop (k * 8) = digsC (l.drop k) := by
 have e : digsC l = digsC (l.take k) ++ digsC (l.drop k) := by
  unfold digsC
  rw [← List.flatMap_append, List.take_append_drop]
 rw [e]
 have hl : (digsC (l.take k)).length = k * 8 := by
  rw [digsC_length _ (fun d hd => h d (List.mem_of_mem_take hd)), List.length_take, Nat.min_eq_left hk]
 rw [← hl, List.drop_left]
theorem halfF_bd : ∀ (f q n : Nat), 1 ≤ q → q < n → 1 ≤ halfF f q n ∧ halfF f q n < n
 | 0, q, n, h1, h2 => ⟨h1, h2⟩
 | f + 1, q, n, h1, h2 => by
  unfold halfF
  split
  ·exact halfF_bd f (2 * q) n (by omega) (by omega)
  ·exact ⟨h1, h2⟩
theorem halfN_bd (n : Nat) (h : 2 ≤ n) : 1 ≤ halfN n ∧ halfN n < n := halfF_bd 64 1 n (by omega) (by omega)
end Go.Proofs.YtekegfbjbainhaaGreat


namespace Go.Proofs.YtekegfbjbainhaaGreat
open Go.RowKit
attribute [local go_sem ↓] Go.wp_at_zero Go.wp_at_succ
def KeepD (w : World) (b : Nat) (W : World) : Prop := Below w.heap.size w W ∧ RowV W b 36 z8
theorem KeepD.start (w : World) : KeepD w w.heap.size (resD w) := ⟨(Below.refl _ _).alloc (Nat.le_refl _) _, resD_row w⟩
theorem KeepD.drew {w W : World} {b : Nat} (h : KeepD w b W) : KeepD w b W.drew := ⟨h.1.drew, h.2⟩
theorem KeepD.next {w W W' : World} {b : Nat} (h : KeepD w b W) (hb : Below W.heap.size W W') : KeepD w b W' := ⟨h.1.trans (hb.mono h.1.size), h.2.below h.2.lt hb⟩
theorem SlV.sub {w : World} {b o k n : Nat} {cs ds : List Value} (h : SlV w (some ⟨b, o, none⟩) cs) (hd : ∀ i (hi : i < ds.length), cs[k + i]? = some ds[i]) : SlV w (some ⟨b, o + k, none⟩) ds := fun i hi => by
 obtain ⟨h1, h2⟩ := List.getElem?_eq_some_iff.1 (hd i hi)
 obtain ⟨b', o', ha, hb, hc⟩ := h (k + i) h1
 cases ha
 exact ⟨b, o + k, rfl, hb, by rw [Nat.add_assoc, hc, h2]⟩
def SlD (w : World) (a : Option Addr) (l : List (List UInt8)) : Prop := SlV w a (digsC l) ∧ ∀ d ∈ l, d.length = 8
theorem SlD.take {w : World} {a : Option Addr} {l : List (List UInt8)} (h : SlD w a l) (k : Nat) (hk : k ≤ l.length) : SlD w a (l.take k) := by
 refine ⟨fun i hi => ?_, fun d hd => h.2 d (List.mem_of_mem_take hd)⟩
 have e := digsC_take l h.2 k hk
 have hi' : i < ((digsC l).take (k * 8)).length := by rw [e]; exact hi
 obtain ⟨b, o, ha, hb, hc⟩ := h.1 i (by rw [List.length_take] at hi'; omega)
 refine ⟨b, o, ha, hb, ?_⟩
 rw [hc]
 congr 1
 have : (digsC (l.take k))[i]? = ((digsC l).take (k * 8))[i]? := by rw [e]
 rw [List.getElem?_eq_getElem hi, List.getElem?_eq_getElem hi', List.getElem_take] at this
 exact (Option.some.inj this).symm
theorem SlD.drop {w : World} {b o : Nat} {l : List (List UInt8)} (h : SlD w (some ⟨b, o, none⟩) l) (k : Nat) (hk : k ≤ l.length) : SlD w (some ⟨b, o + k * 8, none⟩) (l.drop k) := by
 refine ⟨SlV.sub (n := 0) h.1 (fun i hi => ?_), fun d hd => h.2 d (List.mem_of_mem_drop hd)⟩
 have e := digsC_drop l h.2 k hk
 rw [← List.getElem?_drop, e]
 exact List.getElem?_eq_getElem hi
theorem SlD.below {w w' : World} {a : Option Addr} {l : List (List UInt8)} (h : SlD w a l) (hb : Below w.heap.size w w') : SlD w' a l := ⟨h.1.below_all hb, h.2⟩
set_option maxRecDepth 100000 in
set_option maxHeartbeats 1600000 in
theorem sum_any : ∀ (f : Nat) (l : List (List UInt8)) (a : Option Addr) (cap : Nat) (w : World), l.length < f → l.length ≤ cap → cap ≤ 9223372036854775807 → SlD w a l →
  Calls Tryz.prog 87 #[.slice a l.length cap] w fun e w' => e = .returned (dV (sumF f l)) ∧ Below w.heap.size w w'
 | 0, l, a, cap, w, hf, _, _, _ => absurd hf (Nat.not_lt_zero _)
 | f + 1, [], a, cap, w, hf, hc, hcap, hs => by
  have hK := KeepD.start w
  obtain ⟨dd, hdd⟩ : ∃ dd, dd = sumF (f + 1) [] := ⟨_, rfl⟩
  have hdl : dd.length = 8 := by rw [hdd]; rfl
  rw [← hdd]
  have HDD : Hid (dd = digB []) := hdd
  clear hdd
  go_enter Tryz.func87, Tryz.ntmps87
  go_wp2_with fail
  refine (refDigest_any none 0 0 [] _ rfl (by simp) (SlB.nil _ _)).mono ?_
  rintro e w5 ⟨rfl, hb5⟩
  rw [digV_eq, ← HDD.out]
  have hK5 := hK.next hb5
  go_wp2_with (refine wp_storeD (by rfl) (.tmp 2) (.tmp 8) (by rfl) w.heap.size (by rfl) dd hdl (by rfl) hK5.2 (by rfl) ?_; intro w6 hR6 hf6 hz6)
  exact ret_dig (k := 2) rfl rfl hR6 hdl rfl ⟨rfl, hK5.1.trans (hf6.below (by have := hK5.2.lt; omega) (fun k hk => by omega))⟩
 | f + 1, [d], a, cap, w, hf, hc, hcap, hs => by
  have hK := KeepD.start w
  have hd : d.length = 8 := hs.2 d (by simp)
  obtain ⟨b, o, rfl, hb, _⟩ := hs.1 0 (by simp [digsC, hd])
  have hr : (resD w).rangeAt b o (d.map u8c) := fun j v hv => by
   obtain ⟨hj, hv⟩ := List.getElem?_eq_some_iff.1 hv
   obtain ⟨b', o', ha, hb', hc'⟩ := hs.1 j (by simpa [digsC] using hj)
   cases ha
   rw [World.cell?_alloc_lt _ _ _ (by exact hb'), hc']
   simp only [digsC, List.flatMap_cons, List.flatMap_nil, List.append_nil]
   rw [hv]
  have hcap1 : (1 : Int) ≤ cap := by simp at hc; omega
  obtain ⟨dd, hdd⟩ : ∃ dd, dd = sumF (f + 1) [d] := ⟨_, rfl⟩
  have hdl : dd.length = 8 := by rw [hdd]; rfl
  rw [← hdd]
  have HDD : Hid (dd = digB (0 :: d)) := hdd
  clear hdd
  go_enter Tryz.func87, Tryz.ntmps87
  go_wp2_with (refine wpList_load_mid (by rfl) 36 (.tmp 12) (by rfl) b o (by rfl) (d.map u8c) _ hr Tryz.underlying36 (by rfl) (by simpa [hd] using Tryz.infoDig) ?_)
  refine (leaf_any d _ hd).mono ?_
  rintro e w5 ⟨rfl, hb5⟩
  rw [← HDD.out]
  have hK5 := hK.next hb5
  go_wp2_with (refine wp_storeD (by rfl) (.tmp 2) (.tmp 14) (by rfl) w.heap.size (by rfl) dd hdl (by rfl) hK5.2 (by rfl) ?_; intro w6 hR6 hf6 hz6)
  exact ret_dig (k := 2) rfl rfl hR6 hdl rfl ⟨rfl, hK5.1.trans (hf6.below (by have := hK5.2.lt; omega) (fun k hk => by omega))⟩
 | f + 1, x :: y :: r, a, cap, w, hf, hc, hcap, hs => by
  have hK := KeepD.start w
  have hn2 : 2 ≤ (x :: y :: r).length := by simp
  have hhb := halfN_bd _ hn2
  obtain ⟨dd, hdd⟩ : ∃ dd, dd = sumF (f + 1) (x :: y :: r) := ⟨_, rfl⟩
  have hdl : dd.length = 8 := by rw [hdd]; rfl
  rw [← hdd]
  have HDD : Hid (dd = digB (1 :: (sumF f ((x :: y :: r).take (halfN (x :: y :: r).length)) ++ sumF f ((x :: y :: r).drop (halfN (x :: y :: r).length))))) := hdd
  clear hdd
  generalize (x :: y :: r) = l at *
  obtain ⟨b, o, rfl, hb, hcx⟩ := hs.1 0 (by rw [digsC_length _ hs.2]; omega)
  clear hcx
  have hhalf := half_any l.length
  have HH : Hid (∀ w : World, l.length ≤ 9223372036854775807 → _) := hhalf
  clear hhalf
  generalize halfN l.length = k at *
  obtain ⟨hk1, hk2⟩ := hhb
  have e1 : (l.take k).length = k := by rw [List.length_take]; omega
  have e2 : (l.drop k).length = l.length - k := by rw [List.length_drop]
  have H1 : Hid (∀ W, KeepD w w.heap.size W → Calls Tryz.prog 87 #[.slice (some ⟨b, o, none⟩) k cap] W fun e w' => e = .returned (dV (sumF f (l.take k))) ∧ KeepD w w.heap.size w') := fun W hW => by
   have h := sum_any f (l.take k) (some ⟨b, o, none⟩) cap W (by omega) (by omega) hcap ((hs.below hW.1).take k (by omega))
   rw [e1] at h
   exact h.mono fun e w' ⟨he, hb'⟩ => ⟨he, hW.next hb'⟩
  have H2 : Hid (∀ W, KeepD w w.heap.size W → Calls Tryz.prog 87 #[.slice (some ⟨b, o + k * 8, none⟩) (l.length - k) (cap - k)] W fun e w' => e = .returned (dV (sumF f (l.drop k))) ∧ KeepD w w.heap.size w') := fun W hW => by
   have h := sum_any f (l.drop k) (some ⟨b, o + k * 8, none⟩) (cap - k) W (by omega) (by omega) (by omega) ((hs.below hW.1).drop k (by omega))
   rw [e2] at h
   exact h.mono fun e w' ⟨he, hb'⟩ => ⟨he, hW.next hb'⟩
  obtain ⟨f', rfl⟩ : ∃ f', f = f' + 1 := ⟨f - 1, by omega⟩
  have g1 : (sumF (f' + 1) (l.take k)).length = 8 := sumF_length _ _
  have g2 : (sumF (f' + 1) (l.drop k)).length = 8 := sumF_length _ _
  generalize sumF (f' + 1) (l.take k) = s1 at *
  generalize sumF (f' + 1) (l.drop k) = s2 at *
  obtain ⟨x0, x1, x2, x3, x4, x5, x6, x7, rfl⟩ := list8 dd hdl
  have hcapI : (l.length : Int) ≤ cap := by omega
  have hcapJ : (cap : Int) ≤ 9223372036854775807 := by omega
  have hkI1 : (1 : Int) ≤ k := by omega
  have hkI2 : (k : Int) < l.length := by omega
  have hln : ¬ (l.length : Int) = 0 := by omega
  have hne0 : ((l.length : Int) == 0) = false := by simpa using hln
  have hne1 : ((l.length : Int) == 1) = false := by simp; omega
  have hkc : ¬ cap = k := by omega
  clear hs e1 e2 hdl
  go_enter Tryz.func87, Tryz.ntmps87
  go_wp2_with fail
  refine (HH.out _ (by omega)).mono ?_
  rintro e w1 ⟨rfl, rfl⟩
  have HV : Hid (dV [x0, x1, x2, x3, x4, x5, x6, x7] = .agg #[Value.int .u8 (x0.toNat : Int), Value.int .u8 (x1.toNat : Int), Value.int .u8 (x2.toNat : Int), Value.int .u8 (x3.toNat : Int), Value.int .u8 (x4.toNat : Int), Value.int .u8 (x5.toNat : Int), Value.int .u8 (x6.toNat : Int), Value.int .u8 (x7.toNat : Int)]) := rfl
  go_wp2
  go_region_with (first
   | (go_at_call_of 87 (Value.slice (some ⟨b, o, none⟩) k cap); refine (H1.out _ (by exact hK.drew)).mono ?_; rintro e w2 ⟨rfl, hK2⟩)
   | (go_at_call_of 87 (Value.slice (some ⟨b, o + k * 8, none⟩) (l.length - k) (cap - k)); refine (H2.out _ (by assumption)).mono ?_; rintro e w3 ⟨rfl, hK3⟩)
   | (go_at_call 123; refine (refPair_any s1 s2 _ g1 g2).mono ?_; rintro e w4 ⟨rfl, hb4⟩; rw [← HDD.out, HV.out]; have hK4 := KeepD.next hK3 hb4; have c0 : w4.cell? ⟨w.heap.size, 0, none⟩ = some (.int .u8 0) := hK4.2.cell 0 (by decide); have f0 : w4.frozen? ⟨w.heap.size, 0, none⟩ = false := hK4.2.frozen 0; have c1 : w4.cell? ⟨w.heap.size, 1, none⟩ = some (.int .u8 0) := hK4.2.cell 1 (by decide); have f1 : w4.frozen? ⟨w.heap.size, 1, none⟩ = false := hK4.2.frozen 1; have c2 : w4.cell? ⟨w.heap.size, 2, none⟩ = some (.int .u8 0) := hK4.2.cell 2 (by decide); have f2 : w4.frozen? ⟨w.heap.size, 2, none⟩ = false := hK4.2.frozen 2; have c3 : w4.cell? ⟨w.heap.size, 3, none⟩ = some (.int .u8 0) := hK4.2.cell 3 (by decide); have f3 : w4.frozen? ⟨w.heap.size, 3, none⟩ = false := hK4.2.frozen 3; have c4 : w4.cell? ⟨w.heap.size, 4, none⟩ = some (.int .u8 0) := hK4.2.cell 4 (by decide); have f4 : w4.frozen? ⟨w.heap.size, 4, none⟩ = false := hK4.2.frozen 4; have c5 : w4.cell? ⟨w.heap.size, 5, none⟩ = some (.int .u8 0) := hK4.2.cell 5 (by decide); have f5 : w4.frozen? ⟨w.heap.size, 5, none⟩ = false := hK4.2.frozen 5; have c6 : w4.cell? ⟨w.heap.size, 6, none⟩ = some (.int .u8 0) := hK4.2.cell 6 (by decide); have f6 : w4.frozen? ⟨w.heap.size, 6, none⟩ = false := hK4.2.frozen 6; have c7 : w4.cell? ⟨w.heap.size, 7, none⟩ = some (.int .u8 0) := hK4.2.cell 7 (by decide); have f7 : w4.frozen? ⟨w.heap.size, 7, none⟩ = false := hK4.2.frozen 7))
  all_goals
   go_wp2
   exact ret_dig (k := 2) (d := [x0, x1, x2, x3, x4, x5, x6, x7]) rfl rfl (by exact ((((((((hK4.2.set 0 _).set 1 _).set 2 _).set 3 _).set 4 _).set 5 _).set 6 _).set 7 _)) rfl rfl ⟨rfl, ((((((((hK4.1.setCell (by exact Nat.le_refl _) _).setCell (by exact Nat.le_refl _) _).setCell (by exact Nat.le_refl _) _).setCell (by exact Nat.le_refl _) _).setCell (by exact Nat.le_refl _) _).setCell (by exact Nat.le_refl _) _).setCell (by exact Nat.le_refl _) _).setCell (by exact Nat.le_refl _) _)⟩
end Go.Proofs.YtekegfbjbainhaaGreat


namespace Go.Proofs.YtekegfbjbainhaaGreat
open Go.RowKit
theorem step_appendV {P : Program} {ops : Array Oper} {w : World} {o : Oper} {a : Act} {K : Act → World → Prop} {Q : Exit → Act → World → Prop} {E : Prop} (hgd : o.guard = none) (s x : Operand) (t : TypeId)
  (ho : o.op = .call { callee := .builtin .append, args := #[s, x], argTypes := #[t, t] })
  (base : Nat) (e : TypeId) (z : Value) (size bytes : Nat) (ht : P.underlying t = some (.slice e)) (hi : (P.info? e).map (fun i => (i.zero, i.size, i.bytes)) = some (some z, size, bytes)) (hzs : z.cells.size = size) (hsz : 0 < size)
  (v : Value) (n : Nat) (xs : List Value) (hs : a.eval s = v) (hown : w.ownsRow base e size v n xs)
  (ad : Addr) (m c : Nat) (news : List Value) (hx : a.eval x = .slice (some ad) m c) (hl : news.length = m * size) (hnews : SlV w (some ad) news) (h1 : ∀ u ∈ news, u.oneCell' = true)
  (h63 : n + m ≤ maxLen) (hbytes : (n + m) * bytes ≤ 140737488355328) (hbase : base ≤ w.heap.size)
  (h : ∀ a' n' cap' w', w'.ownsRow base e size (.slice a' n' cap') (n + m) (xs ++ news) → Frame (fun k => v.ownBlock = some k) w w' → ((Value.slice a' n' cap').ownBlock = v.ownBlock ∨ (Value.slice a' n' cap').ownBlock = some w.heap.size) → K (a.put o.dst (.slice a' n' cap')) w') :
  if Region.wanted o (yielded ops a.tmps) = true then Oper.wp P o a w K Q else E := by
 have hw : Region.wanted o (yielded ops a.tmps) = true := by simp [Region.wanted, hgd]
 rw [if_pos hw]
 refine op_appendV s x t ho base e z size bytes ht hi hzs hsz v n xs hs hown ad m c news hx hl hnews h1 h63 hbytes hbase ?_
 intro v' w' ho' hf hat
 obtain ⟨a', cap', rfl, _⟩ := owns_form ho'
 exact h a' _ cap' w' ho' hf hat
theorem Tryz.infoItems : (Tryz.prog.info? 78).map (fun i => (i.zero, i.size, i.bytes)) = some (some (.slice none 0 0), 1, 24) := by kernel_rfl
theorem Tryz.infoDigs : (Tryz.prog.info? 36).map (fun i => (i.zero, i.size, i.bytes)) = some (some (.agg #[.int .u8 0, .int .u8 0, .int .u8 0, .int .u8 0, .int .u8 0, .int .u8 0, .int .u8 0, .int .u8 0]), 8, 8) := by kernel_rfl
theorem Tryz.sizeCommit : (Tryz.prog.info? 103).map (·.size) = some 18 := by kernel_rfl
structure RefAt (W : World) (sb base : Nat) (now past roots : SlR) (nowL : List ItR) (pastL : List (SlR × List ItR)) (rootsL : List (List UInt8)) : Prop where
 row : RefRow W sb now.val past.val roots.val
 hnow : OwnI W base now.val nowL
 hpast : W.ownsRow base 78 1 past.val pastL.length (pastL.map (fun q => q.1.val))
 hpok : ∀ q ∈ pastL, OwnI W base q.1.val q.2
 hroots : W.ownsRow base 36 8 roots.val rootsL.length (digsC rootsL)
 h8 : ∀ d ∈ rootsL, d.length = 8
theorem RefAt.below {W W' : World} {sb base : Nat} {now past roots : SlR} {nowL : List ItR} {pastL : List (SlR × List ItR)} {rootsL : List (List UInt8)} (h : RefAt W sb base now past roots nowL pastL rootsL) (hb : Below W.heap.size W W') : RefAt W' sb base now past roots nowL pastL rootsL :=
 ⟨RowV.below h.row (RowV.lt h.row) hb, owns_below h.hnow hb, owns_below h.hpast hb, fun q hq => owns_below (h.hpok q hq) hb, owns_below h.hroots hb, h.h8⟩
theorem RefAt.drew {W : World} {sb base : Nat} {now past roots : SlR} {nowL : List ItR} {pastL : List (SlR × List ItR)} {rootsL : List (List UInt8)} (h : RefAt W sb base now past roots nowL pastL rootsL) : RefAt W.drew sb base now past roots nowL pastL rootsL :=
 ⟨h.row, h.hnow, h.hpast, h.hpok, h.hroots, h.h8⟩
theorem ret_agg2 {fn : Func} {R : Ending → World → Prop} {a : Act} {w : World} {k k2 b T : Nat} {cs : List Value} {v2 : Value} {d : TypeDesc} (hf : fn.results = #[ResultVar.cell k T, ResultVar.tmp k2]) (ha : a.tmps.getD k undef = .pointer (some ⟨b, 0, none⟩)) (ha2 : a.tmps.getD k2 undef = v2)
  (hR : RowV w b T cs) (hu : Tryz.prog.underlying T = some d) (hd : d.isRow = true) (hi : (Tryz.prog.info? T).map (·.size) = some cs.length) (hdf : a.defers = []) (h : R (.returned (.tuple #[.agg cs.toArray, v2])) w) : bodyPost Tryz.prog fn R .ret a w := by
 refine bodyPost_ret (v := .tuple #[.agg cs.toArray, v2]) ?_ hdf h
 have hl := run_loadVar_mid (P := Tryz.prog) w b 0 T cs d hR.range hu hd hi
 have ha' : a.tmps[k]?.getD undef = .pointer (some ⟨b, 0, none⟩) := by rw [← ha]; simp [Array.getD_eq_getD_getElem?]
 have ha2' : a.tmps[k2]?.getD undef = v2 := by rw [← ha2]; simp [Array.getD_eq_getD_getElem?]
 unfold results
 rw [hf]
 simp [ha', ha2', hl, asAddr]
def commitC (epoch : Nat) (root : List UInt8) (size : Nat) (sum : List UInt8) : List Value := [.int .i64 (epoch : Int)] ++ root.map u8c ++ [.int .i64 (size : Int)] ++ sum.map u8c
def zero18 : List Value := [.int .i64 0, .int .u8 0, .int .u8 0, .int .u8 0, .int .u8 0, .int .u8 0, .int .u8 0, .int .u8 0, .int .u8 0, .int .i64 0, .int .u8 0, .int .u8 0, .int .u8 0, .int .u8 0, .int .u8 0, .int .u8 0, .int .u8 0, .int .u8 0]
set_option maxRecDepth 100000 in
set_option maxHeartbeats 1000000 in
theorem refCommit_full (sb base : Nat) (now past roots : SlR) (nowL : List ItR) (pastL : List (SlR × List ItR)) (rootsL : List (List UInt8)) (w : World) (h : RefAt w sb base now past roots nowL pastL rootsL) (h40 : rootsL.length = 40) :
  Calls Tryz.prog 45 #[.pointer (some ⟨sb, 0, none⟩)] w fun e w' => e = .returned (.tuple #[.agg zero18.toArray, .int .i64 2]) ∧ Below w.heap.size w w' := by
 have hsb := RowV.lt h.row
 have c2 : w.cell? ⟨sb, 2, none⟩ = some (.slice roots.a roots.n roots.cap) := RowV.cell h.row 2 (by simp)
 have hrn : roots.n = 40 := by rw [← h40]; exact (SlV.ofOwn h.hroots).2
 rw [hrn] at c2
 clear h
 go_enter Tryz.func45, Tryz.ntmps45
 go_wp2
 exact ret_agg2 (k := 2) (k2 := 3) (cs := zero18) rfl rfl rfl (RowV.new_at _ _ _ _ (by simp)) Tryz.underlying103 rfl Tryz.sizeCommit rfl ⟨rfl, by go_grown⟩
end Go.Proofs.YtekegfbjbainhaaGreat


namespace Go.Proofs.YtekegfbjbainhaaGreat
open Go.RowKit
attribute [local go_sem ↓] Go.wp_at_zero Go.wp_at_succ
theorem partedN_pos (level : Nat) (l : List ItR) : 1 ≤ (partedN level l).length := (partF_length level l []).1
theorem grownF_ok : ∀ (f level : Nat) (l : List ItR), (∀ x ∈ l, ItOk x) → l.length ≤ 200 → ∀ ps ∈ grownF f level l, ps ≠ [] ∧ ∀ p ∈ ps, p.length ≤ 200 ∧ ∀ x ∈ p, ItOk x
 | 0, _, _, _, _, ps, hp => by cases hp
 | f + 1, level, l, hok, hl, ps, hp => by
  have hpart : partedN level l ≠ [] ∧ ∀ p ∈ partedN level l, p.length ≤ 200 ∧ ∀ x ∈ p, ItOk x :=
   ⟨fun e => by have := partedN_pos level l; rw [e] at this; simp at this, fun p hp => ⟨by have := partF_size level l [] p hp; simp at this; omega, parted_ok hok p hp⟩⟩
  unfold grownF at hp
  split at hp
  ·simp only [List.mem_singleton] at hp
   subst hp; exact hpart
  ·rename_i h1
   rcases List.mem_cons.1 hp with rfl | hp
   ·exact hpart
   ·refine grownF_ok f (level + 1) _ (nextF_ok level 0 _ (parted_ok hok)) ?_ ps hp
    rw [nextF_length]
    by_cases hne : l = []
    ·subst hne; exact absurd rfl h1
    ·have := partF_bound level l [] hne; unfold partedN; omega
theorem grownF_length : ∀ (f level : Nat) (l : List ItR), 1 ≤ f → 1 ≤ (grownF f level l).length ∧ (grownF f level l).length ≤ f
 | 0, _, _, h => absurd h (by omega)
 | f + 1, level, l, _ => by
  unfold grownF
  split
  ·simp
  ·cases f with
   | zero => simp [grownF]
   | succ f' => have := grownF_length (f' + 1) (level + 1) (nextF level 0 (partedN level l)) (by omega); simp; omega
def rootLevel (l : List ItR) : Nat := (grownN l).length - 1
def rootPage (l : List ItR) : List ItR := ((grownN l)[(grownN l).length - 1]?.getD []).headD []
def rootB (l : List ItR) : List UInt8 := digB (codeB (rootLevel l) (rootPage l))
theorem lvls_last {lvls : List LevR} {l : List ItR} (hn : lvN lvls = grownN l) (hok : ∀ x ∈ l, ItOk x) (hl : l.length ≤ 200) :
  ∃ m s q ql rest, lvls.length = m + 1 ∧ m ≤ 6 ∧ lvls[m]? = some (s, (q, ql) :: rest) ∧ rootLevel l = m ∧ rootPage l = ql ∧ ql.length ≤ 200 ∧ ∀ x ∈ ql, ItOk x := by
 have hlen : (grownN l).length = lvls.length := by rw [← hn]; simp [lvN]
 obtain ⟨h1, h7⟩ := grownF_length 7 0 l (by omega)
 have h1 : 1 ≤ (grownN l).length := h1
 have h7 : (grownN l).length ≤ 7 := h7
 obtain ⟨⟨s, ps⟩, hq⟩ : ∃ x, lvls[lvls.length - 1]? = some x := ⟨_, List.getElem?_eq_getElem (by omega)⟩
 have hg : (grownN l)[lvls.length - 1]? = some (ps.map (·.2)) := by
  rw [← hn]; unfold lvN; rw [List.getElem?_map, hq]; rfl
 have hm := grownF_ok 7 0 l hok hl _ (List.mem_of_getElem? hg)
 cases ps with
 | nil => exact absurd rfl hm.1
 | cons x rest =>
  obtain ⟨q, ql⟩ := x
  refine ⟨lvls.length - 1, s, q, ql, rest, by omega, by omega, hq, ?_, ?_, (hm.2 ql (by simp)).1, (hm.2 ql (by simp)).2⟩
  ·unfold rootLevel; rw [hlen]
  ·unfold rootPage; rw [hlen, hg]; rfl
theorem RefAt.pushPast {W W1 : World} {sb base : Nat} {now past roots past' : SlR} {nowL : List ItR} {pastL : List (SlR × List ItR)} {rootsL : List (List UInt8)} (h : RefAt W sb base now past roots nowL pastL rootsL)
  (ho : W1.ownsRow base 78 1 past'.val (pastL.length + 1) (pastL.map (fun q => q.1.val) ++ [now.val])) (hf : Frame (fun k => past.val.ownBlock = some k) W W1) :
  RefAt (W1.setCell ⟨sb, 1, none⟩ past'.val) sb base now past' roots nowL (pastL ++ [(now, nowL)]) rootsL := by
 have hr1 : RefRow W1 sb now.val past.val roots.val := RowV.of_block h.row (hf.block _ (RowV.lt h.row) (fun e => owns_ne h.hpast h.row (by decide) e))
 have hf2 : Frame (fun k => k = sb) W1 (W1.setCell ⟨sb, 1, none⟩ past'.val) := (Frame.refl (fun k => k = sb) _).setCell (p := ⟨sb, 1, none⟩) rfl _
 have key : ∀ {base' e size n : Nat} {v : Value} {xs : List Value}, W.ownsRow base' e size v n xs → e ≠ 78 → e ≠ 91 → (W1.setCell ⟨sb, 1, none⟩ past'.val).ownsRow base' e size v n xs := fun {base' e size n v xs} hx h1 h2 => by
  have hx1 := owns_frame hx hf (fun k hk e' => owns_ne2 hx h.hpast h1 k hk e')
  exact owns_frame hx1 hf2 (fun k hk e' => owns_ne hx1 hr1 h2 (by rw [hk, e']))
 refine ⟨by simpa [RefRow] using RowV.set hr1 1 past'.val, key h.hnow (by decide) (by decide), ?_, ?_, key h.hroots (by decide) (by decide), h.h8⟩
 ·rw [List.length_append, List.map_append]
  exact owns_frame ho hf2 (fun k hk e => owns_ne ho hr1 (by decide) (by rw [hk, e]))
 ·intro q hq
  rcases List.mem_append.1 hq with hq | hq
  ·exact key (h.hpok q hq) (by decide) (by decide)
  ·simp only [List.mem_singleton] at hq
   subst hq; exact key h.hnow (by decide) (by decide)
theorem RefAt.pushRoot {W W1 : World} {sb base : Nat} {now past roots roots' : SlR} {nowL : List ItR} {pastL : List (SlR × List ItR)} {rootsL : List (List UInt8)} {d : List UInt8} (h : RefAt W sb base now past roots nowL pastL rootsL) (hd : d.length = 8)
  (ho : W1.ownsRow base 36 8 roots'.val (rootsL.length + 1) (digsC rootsL ++ d.map u8c)) (hf : Frame (fun k => roots.val.ownBlock = some k) W W1) :
  RefAt (W1.setCell ⟨sb, 2, none⟩ roots'.val) sb base now past roots' nowL pastL (rootsL ++ [d]) := by
 have hr1 : RefRow W1 sb now.val past.val roots.val := RowV.of_block h.row (hf.block _ (RowV.lt h.row) (fun e => owns_ne h.hroots h.row (by decide) e))
 have hf2 : Frame (fun k => k = sb) W1 (W1.setCell ⟨sb, 2, none⟩ roots'.val) := (Frame.refl (fun k => k = sb) _).setCell (p := ⟨sb, 2, none⟩) rfl _
 have key : ∀ {base' e size n : Nat} {v : Value} {xs : List Value}, W.ownsRow base' e size v n xs → e ≠ 36 → e ≠ 91 → (W1.setCell ⟨sb, 2, none⟩ roots'.val).ownsRow base' e size v n xs := fun {base' e size n v xs} hx h1 h2 => by
  have hx1 := owns_frame hx hf (fun k hk e' => owns_ne2 hx h.hroots h1 k hk e')
  exact owns_frame hx1 hf2 (fun k hk e' => owns_ne hx1 hr1 h2 (by rw [hk, e']))
 refine ⟨by simpa [RefRow] using RowV.set hr1 2 roots'.val, key h.hnow (by decide) (by decide), key h.hpast (by decide) (by decide), fun q hq => key (h.hpok q hq) (by decide) (by decide), ?_, ?_⟩
 ·have e : digsC (rootsL ++ [d]) = digsC rootsL ++ d.map u8c := by simp [digsC]
  rw [List.length_append, e]
  exact owns_frame ho hf2 (fun k hk e => owns_ne ho hr1 (by decide) (by rw [hk, e]))
 ·intro x hx
  rcases List.mem_append.1 hx with hx | hx
  ·exact h.h8 x hx
  ·simp only [List.mem_singleton] at hx; subst hx; exact hd
end Go.Proofs.YtekegfbjbainhaaGreat


namespace Go.Proofs.YtekegfbjbainhaaGreat
open Go.RowKit
structure BS (w : World) (s : SlR) (l : List UInt8) : Prop where
 sl : SlB w s.a l
 n : s.n = l.length
 nil : s.a = none → s.cap = 0
 lt : ∀ x, s.a = some x → x.block < w.heap.size
theorem BS.frame {w w' : World} {S : Nat → Prop} {s : SlR} {l : List UInt8} (h : BS w s l) (hf : Frame S w w') (hS : ∀ x, s.a = some x → ¬ S x.block) : BS w' s l := ⟨h.sl.frame hf hS, h.n, h.nil, fun x hx => Nat.lt_of_lt_of_le (h.lt x hx) hf.size⟩
theorem BS.below {w w' : World} {s : SlR} {l : List UInt8} (h : BS w s l) (hf : Below w.heap.size w w') : BS w' s l := ⟨h.sl.below hf (Nat.le_refl _), h.n, h.nil, fun x hx => Nat.lt_of_lt_of_le (h.lt x hx) hf.size⟩
set_option maxRecDepth 100000 in
theorem isKey_any (a : Option Addr) (n cap : Nat) (w : World) (hn : n ≤ maxLen) :
  Calls Tryz.prog 27 #[.slice a n cap] w fun e w' => e = .returned (.bool (decide (1 ≤ n) && decide (n ≤ 12))) ∧ w' = w := by
 unfold maxLen at hn
 by_cases h1 : 1 ≤ n
 ·by_cases h2 : n ≤ 12
  ·have h1' : (1 : Int) ≤ n := by omega
   have h2' : (n : Int) ≤ 12 := by omega
   go_enter Tryz.func27, Tryz.ntmps27
   go_wp2
   go_ret
   exact ⟨by simp [h1, h2], rfl⟩
  ·have h1' : (1 : Int) ≤ n := by omega
   have h2' : ¬ (n : Int) ≤ 12 := by omega
   go_enter Tryz.func27, Tryz.ntmps27
   go_wp2
   go_ret
   exact ⟨by simp [h1, h2], rfl⟩
 ·have h1' : ¬ (1 : Int) ≤ n := by omega
  go_enter Tryz.func27, Tryz.ntmps27
  go_wp2
  go_ret
  exact ⟨by simp [h1], rfl⟩
set_option maxRecDepth 100000 in
theorem isValue_any (a : Option Addr) (n cap : Nat) (w : World) (hn : n ≤ maxLen) :
  Calls Tryz.prog 78 #[.slice a n cap] w fun e w' => e = .returned (.bool (decide (n ≤ 12))) ∧ w' = w := by
 unfold maxLen at hn
 by_cases h2 : n ≤ 12
 ·have h2' : (n : Int) ≤ 12 := by omega
  go_enter Tryz.func78, Tryz.ntmps78
  go_wp2
  go_ret
  exact ⟨by simp [h2], rfl⟩
 ·have h2' : ¬ (n : Int) ≤ 12 := by omega
  go_enter Tryz.func78, Tryz.ntmps78
  go_wp2
  go_ret
  exact ⟨by simp [h2], rfl⟩
theorem run_loadBytes {P : Program} {w : World} (b : Nat) : ∀ (l : List UInt8) (o : Nat) (acc : ByteArray), (∀ i (h : i < l.length), w.cell? ⟨b, o + i, none⟩ = some (.int .u8 (l[i].toNat : Int))) →
  (Extern.Bytes.loadBytes ⟨b, o, none⟩ l.length acc).run P w = .ok ⟨acc.data ++ l.toArray⟩ w
 | [], o, acc, h => by simp [Extern.Bytes.loadBytes]
 | x :: l, o, acc, h => by
  have h0 := h 0 (by simp)
  have ih := run_loadBytes (P := P) (w := w) b l (o + 1) (acc.push x) (fun i hi => by
   have := h (i + 1) (by simpa using hi)
   rw [show o + 1 + i = o + (i + 1) by omega]
   simpa using this)
  simp only [Nat.add_zero, List.getElem_cons_zero] at h0
  have hx : ((x.toNat : Int)).toNat.toUInt8 = x := by simp
  have ha : (Addr.add ⟨b, o, none⟩ 1) = ⟨b, o + 1, none⟩ := rfl
  have hl : (Go.load ⟨b, o, none⟩).run P w = .ok (.int .u8 (x.toNat : Int)) w := by
   simp [h0]
  simp only [List.length_cons, Extern.Bytes.loadBytes, Sem.run_bind, hl, Result.andThen, hx, ha, ih]
  congr 2
  simp [ByteArray.push]
theorem run_bytesOf {P : Program} {w : World} {s : SlR} {l : List UInt8} (h : BS w s l) : (Extern.Bytes.bytesOf s.val).run P w = .ok ⟨l.toArray⟩ w := by
 obtain ⟨a, n, cap⟩ := s
 obtain ⟨hs, hn, hnil, _⟩ := h
 simp only at hs hn hnil
 subst hn
 cases a with
 | none =>
  cases l with
  | nil => simp [SlR.val, Extern.Bytes.bytesOf]; rfl
  | cons y r => obtain ⟨b, o, ha, _⟩ := hs 0 (by simp); cases ha
 | some x =>
  simp only [SlR.val, Extern.Bytes.bytesOf]
  cases l with
  | nil => simp [Extern.Bytes.loadBytes]; rfl
  | cons y r =>
   obtain ⟨b, o, ha, _⟩ := hs 0 (by simp)
   cases ha
   rw [run_loadBytes b (y :: r) o _ (fun i hi => by
    obtain ⟨b', o', ha', _, hc⟩ := hs i hi
    cases ha'; exact hc)]
   congr 2
   simp [ByteArray.empty, ByteArray.emptyWithCapacity]
   try rfl
theorem run_compare {P : Program} {w : World} {s t : SlR} {l m : List UInt8} (h : BS w s l) (k : BS w t m) :
  (Extern.BytealgCompare.compare #[s.val, t.val]).run P w = .ok (.int .i64 (Lib.compareBytes l m)) w := by
 change Sem.run P (do pure (goInt (Extern.BytealgCompare.cmp (← Extern.Bytes.bytesOf s.val) (← Extern.Bytes.bytesOf t.val)))) w = _
 simp only [Sem.run_bind, Sem.run_pure, Result.andThen, run_bytesOf h, run_bytesOf k]
 rw [Lib.cmp_eq]
 rfl
theorem cmp_neg : ∀ (l m : List UInt8), (Lib.compareBytes l m < 0) ↔ Op.bytesLess l m = true
 | [], [] => by simp [Lib.compareBytes, Op.bytesLess]
 | [], _ :: _ => by simp [Lib.compareBytes, Op.bytesLess]
 | _ :: _, [] => by simp [Lib.compareBytes, Op.bytesLess]
 | a :: l, b :: m => by
  have ih := cmp_neg l m
  unfold Lib.compareBytes Op.bytesLess
  by_cases h1 : a < b
  ·simp [h1]
  ·by_cases h2 : b < a
   ·have hne : ¬ a = b := fun e => by subst e; exact UInt8.lt_irrefl _ h2
    simp [h1, h2, hne]
   ·have he : a = b := UInt8.le_antisymm (UInt8.not_lt.1 h2) (UInt8.not_lt.1 h1)
    subst he
    simp [h1, ih]
theorem cmp_zero : ∀ (l m : List UInt8), (Lib.compareBytes l m = 0) ↔ l = m
 | [], [] => by simp [Lib.compareBytes]
 | [], _ :: _ => by simp [Lib.compareBytes]
 | _ :: _, [] => by simp [Lib.compareBytes]
 | a :: l, b :: m => by
  have ih := cmp_zero l m
  unfold Lib.compareBytes
  by_cases h1 : a < b
  ·have hne : ¬ a = b := fun e => by subst e; exact UInt8.lt_irrefl _ h1
   simp [h1, hne]
  ·by_cases h2 : b < a
   ·have hne : ¬ a = b := fun e => by subst e; exact UInt8.lt_irrefl _ h2
    simp [h1, h2, hne]
   ·have he : a = b := UInt8.le_antisymm (UInt8.not_lt.1 h2) (UInt8.not_lt.1 h1)
    subst he
    simp [h1, ih]
theorem cmp_bd : ∀ (l m : List UInt8), -1 ≤ Lib.compareBytes l m ∧ Lib.compareBytes l m ≤ 1
 | [], [] => by simp [Lib.compareBytes]
 | [], _ :: _ => by simp [Lib.compareBytes]
 | _ :: _, [] => by simp [Lib.compareBytes]
 | a :: l, b :: m => by
  have ih := cmp_bd l m
  unfold Lib.compareBytes
  split
  ·simp
  ·split
   ·simp
   ·exact ih
set_option maxRecDepth 100000 in
theorem compare_any (s t : SlR) (l m : List UInt8) (w : World) (h : BS w s l) (k : BS w t m) :
  Calls Tryz.prog 63 #[s.val, t.val] w fun e w' => e = .returned (.int .i64 (Lib.compareBytes l m)) ∧ w' = w := by
 have hc := run_compare (P := Tryz.prog) h k
 unfold SlR.val at hc ⊢
 go_enter Tryz.func63, Tryz.ntmps63
 go_wp2
 rw [run_callFunc_extern Tryz.func106 (by kernel_rfl) (by kernel_rfl) (by kernel_rfl) (e := Extern.BytealgCompare.compare) (by kernel_rfl), hc]
 simp only [Result.andThen]
 rw [Oper.upon_value]
 go_wp2
 go_ret
 exact ⟨rfl, rfl⟩
end Go.Proofs.YtekegfbjbainhaaGreat
