import Derived.Test.YtekegfbjbainhaaGreatKJoin21
import Derived.Test.YtekegfbjbainhaaGreatKLog11
import Derived.Test.YtekegfbjbainhaaGreatKJoin15
set_option linter.unusedVariables false
set_option linter.unusedSimpArgs false

namespace Go.Proofs.YtekegfbjbainhaaGreat
open Go.RowKit
attribute [local go_sem ↓] Go.wp_at_zero Go.wp_at_succ
set_option maxRecDepth 100000 in
set_option maxHeartbeats 1600000 in
theorem on_any (m n : Int) (osum sum : List UInt8) (l : List (List UInt8)) (a : Option Addr) (cap : Nat) (w : World) (ho : osum.length = 8) (hs : sum.length = 8) (hn : n ≤ 9223372036854775807) (hp : SlD w a l) (hl : l.length ≤ 17592186044416) (hlc : l.length ≤ cap) (hc : cap ≤ 9223372036854775807) (ha : (a = none ∧ l = [] ∧ cap = 0) ∨ ∃ ad, a = some ad) :
  Calls Tryz.prog 39 #[headV m osum, headV n sum, .slice a l.length cap] w fun v w' => v = .returned (.bool true) ∧ Below w.heap.size w w' := by
 have hB0 : Below w.heap.size w ((w.alloc (.cells ((Value.int .i64 m :: osum.map u8c).toArray) 98)).alloc (.cells ((Value.int .i64 n :: sum.map u8c).toArray) 98)) := ((Below.refl _ _).alloc (Nat.le_refl _) _).alloc (by simp) _
 have hA0 : RowV ((w.alloc (.cells ((Value.int .i64 m :: osum.map u8c).toArray) 98)).alloc (.cells ((Value.int .i64 n :: sum.map u8c).toArray) 98)) w.heap.size 98 (Value.int .i64 m :: osum.map u8c) := (RowV.new w _ _).alloc _
 have hX0 : RowV ((w.alloc (.cells ((Value.int .i64 m :: osum.map u8c).toArray) 98)).alloc (.cells ((Value.int .i64 n :: sum.map u8c).toArray) 98)) (w.heap.size + 1) 98 (Value.int .i64 n :: sum.map u8c) := RowV.new_at _ _ _ _ (by simp)
 have HV : Hid (∀ (W : World) (a' : Option Addr) (cap' : Nat), SlD W a' l → l.length ≤ cap' → cap' ≤ 9223372036854775807 → Calls Tryz.prog 76 #[headV m osum, headV n sum, .slice a' l.length cap'] W fun v w' => v = .returned (.bool (extF m n osum sum l.reverse)) ∧ Below W.heap.size W w') := fun W a' cap' h1 h2 h3 => by
  have h := extP_any m n osum sum l.reverse a' cap' W ho hs hn (by rw [List.reverse_reverse]; exact h1) (by rw [List.length_reverse]; exact h2) h3
  rw [List.length_reverse] at h
  exact h
 have HR : Hid (∀ (W : World) (a' : Option Addr) (cap' : Nat), SlD W a' l → l.length ≤ cap' → cap' ≤ 9223372036854775807 → Calls Tryz.prog 77 #[headV m osum, headV n sum, .slice a' l.length cap'] W fun v w' => v = .returned (.bool (extF m n osum sum l.reverse)) ∧ Below W.heap.size W w') := fun W a' cap' h1 h2 h3 => by
  have h := checkExt_any m n osum sum l.reverse a' cap' W ho hs hn (by rw [List.reverse_reverse]; exact h1) (by rw [List.length_reverse]; exact h2) h3
  rw [List.length_reverse] at h
  exact h
 generalize extF m n osum sum l.reverse = q at *
 rw [show headV m osum = .agg (Value.int .i64 m :: osum.map u8c).toArray from rfl, show headV n sum = .agg (Value.int .i64 n :: sum.map u8c).toArray from rfl]
 have hz0 : ((w.alloc (.cells ((Value.int .i64 m :: osum.map u8c).toArray) 98)).alloc (.cells ((Value.int .i64 n :: sum.map u8c).toArray) 98)).heap.size = w.heap.size + 1 + 1 := by simp
 rcases ha with ⟨rfl, rfl, rfl⟩ | ⟨ad, rfl⟩
 ·go_enter Tryz.func39, Tryz.ntmps39
  go_wp2_with fail
  refine (lentPath_nil _).mono ?_
  rintro v w1 ⟨rfl, rfl⟩
  go_wp2_with (first | (refine wpList_load_mid (by rfl) 98 (.tmp 3) (by rfl) w.heap.size 0 (by rfl) (Value.int .i64 m :: osum.map u8c) _ (by exact hA0.range) Tryz.underlying98 (by rfl) (by simpa [ho] using Tryz.sizeHead) ?_) | (refine wpList_load_mid (by rfl) 98 (.tmp 4) (by rfl) (w.heap.size + 1) 0 (by rfl) (Value.int .i64 n :: sum.map u8c) _ (by exact hX0.range) Tryz.underlying98 (by rfl) (by simpa [hs] using Tryz.sizeHead) ?_))
  refine (HV.out _ none 0 (hp.below hB0) (Nat.le_refl _) (by omega)).mono ?_
  rintro v w2 ⟨rfl, hb2⟩
  have hB2 : Below w.heap.size w w2 := hB0.trans (hb2.mono hB0.size)
  have hA2 := RowV.past hb2 hA0
  have hX2 := RowV.past hb2 hX0
  clear hb2
  go_wp2_with fail
  refine (backPath_nil _).mono ?_
  rintro v w3 ⟨rfl, rfl⟩
  go_wp2_with (first | (refine wpList_load_mid (by rfl) 98 (.tmp 3) (by rfl) w.heap.size 0 (by rfl) (Value.int .i64 m :: osum.map u8c) _ (by exact hA2.range) Tryz.underlying98 (by rfl) (by simpa [ho] using Tryz.sizeHead) ?_) | (refine wpList_load_mid (by rfl) 98 (.tmp 4) (by rfl) (w.heap.size + 1) 0 (by rfl) (Value.int .i64 n :: sum.map u8c) _ (by exact hX2.range) Tryz.underlying98 (by rfl) (by simpa [hs] using Tryz.sizeHead) ?_))
  refine (HR.out _ none 0 (hp.below hB2) (Nat.le_refl _) (by omega)).mono ?_
  rintro v w4 ⟨rfl, hb4⟩
  go_wp2
  go_ret
  exact ⟨by cases q <;> rfl, hB2.trans (hb4.mono hB2.size)⟩
 ·go_enter Tryz.func39, Tryz.ntmps39
  go_wp2_with fail
  refine (lentPath_some l ad cap _ (hp.below hB0) hl).mono ?_
  rintro v w1 ⟨rfl, hr1, hb1⟩
  have hB1 : Below w.heap.size w w1 := hB0.trans (hb1.mono hB0.size)
  have hA1 := RowV.past hb1 hA0
  have hX1 := RowV.past hb1 hX0
  have hC1 : SlD w1 (some ⟨((w.alloc (.cells ((Value.int .i64 m :: osum.map u8c).toArray) 98)).alloc (.cells ((Value.int .i64 n :: sum.map u8c).toArray) 98)).heap.size, 0, none⟩) l := ⟨fun i hi => ⟨_, 0, rfl, hr1.lt, by
   rw [Nat.zero_add, RowV.cell? hr1 i]
   unfold lentC
   rw [List.getElem?_append_left hi, List.getElem?_eq_getElem hi]⟩, hp.2⟩
  have hbl := hr1.lt
  clear hb1
  rw [hz0] at hr1 hC1 hbl
  go_wp2_with (first | (refine wpList_load_mid (by rfl) 98 (.tmp 3) (by rfl) w.heap.size 0 (by rfl) (Value.int .i64 m :: osum.map u8c) _ (by exact hA1.range) Tryz.underlying98 (by rfl) (by simpa [ho] using Tryz.sizeHead) ?_) | (refine wpList_load_mid (by rfl) 98 (.tmp 4) (by rfl) (w.heap.size + 1) 0 (by rfl) (Value.int .i64 n :: sum.map u8c) _ (by exact hX1.range) Tryz.underlying98 (by rfl) (by simpa [hs] using Tryz.sizeHead) ?_))
  refine (HV.out _ _ (l.length + 8) (by exact hC1) (by omega) (by omega)).mono ?_
  rintro v w2 ⟨rfl, hb2⟩
  have hB2 : Below w.heap.size w w2 := hB1.trans (hb2.mono hB1.size)
  have hA2 := RowV.past hb2 hA1
  have hX2 := RowV.past hb2 hX1
  have hr2 := RowV.past hb2 hr1
  clear hb2 hC1
  go_wp2_with fail
  refine (backPath_some l ad _ cap _ (hp.below hB2) hl (by exact hr2)).mono ?_
  rintro v w3 ⟨rfl, hf3⟩
  have hB3 : Below w.heap.size w w3 := hB2.trans (hf3.below hB2.size (fun k hk => by omega))
  have hA3 : RowV w3 w.heap.size 98 (Value.int .i64 m :: osum.map u8c) := hA2.of_block (hf3.block _ hA2.lt (fun e => by omega))
  have hX3 : RowV w3 (w.heap.size + 1) 98 (Value.int .i64 n :: sum.map u8c) := hX2.of_block (hf3.block _ hX2.lt (fun e => by omega))
  clear hf3
  go_wp2_with (first | (refine wpList_load_mid (by rfl) 98 (.tmp 3) (by rfl) w.heap.size 0 (by rfl) (Value.int .i64 m :: osum.map u8c) _ (by exact hA3.range) Tryz.underlying98 (by rfl) (by simpa [ho] using Tryz.sizeHead) ?_) | (refine wpList_load_mid (by rfl) 98 (.tmp 4) (by rfl) (w.heap.size + 1) 0 (by rfl) (Value.int .i64 n :: sum.map u8c) _ (by exact hX3.range) Tryz.underlying98 (by rfl) (by simpa [hs] using Tryz.sizeHead) ?_))
  refine (HR.out _ _ cap (hp.below hB3) hlc hc).mono ?_
  rintro v w4 ⟨rfl, hb4⟩
  go_wp2
  go_ret
  exact ⟨by cases q <;> rfl, hB3.trans (hb4.mono hB3.size)⟩
end Go.Proofs.YtekegfbjbainhaaGreat


namespace Go.Proofs.YtekegfbjbainhaaGreat
open Go.RowKit
set_option maxRecDepth 100000 in
theorem new_any (w : World) : Calls Tryz.prog 36 #[] w fun e w' => e = .returned (.pointer (some ⟨w.heap.size, 0, none⟩)) ∧ w' = w.alloc (.cells #[.slice none 0 0, .map none, .slice none 0 0] 130) := by
 go_enter Tryz.func36, Tryz.ntmps36
 go_wp2
 go_ret
 exact ⟨rfl, rfl⟩
def newD (pb sb rb : Nat) : PairD := ⟨pb, sb, rb, ⟨none, 0, 0⟩, 0, [], 0, ⟨none, 0, 0⟩, ⟨none, 0, 0⟩, none, [], [], [], [], ⟨none, 0, 0⟩, ⟨none, 0, 0⟩, ⟨none, 0, 0⟩, [], [], [], [], []⟩
theorem newD_F {pb sb rb k : Nat} (h : (newD pb sb rb).F k) : k = pb ∨ k = sb ∨ k = rb := by
 rcases h with (h | h) | h | h
 ·exact Or.inl h
 ·cases h
 ·rcases h with ((h | h | ⟨e, he, _⟩) | (h | ⟨x, hx, _⟩) | ⟨e, he, _⟩ | h | ⟨nd, hn, _⟩) | ⟨L, hL, _⟩
  ·exact Or.inr (Or.inl h)
  ·cases h
  ·cases he
  ·cases h
  ·cases hx
  ·cases he
  ·cases h
  ·cases hn
  ·cases hL
 ·rcases h with h | h | h | h | ⟨q, hq, _⟩
  ·exact Or.inr (Or.inr h)
  ·cases h
  ·cases h
  ·cases h
  ·cases hq
theorem newD_s {pb sb rb k : Nat} (h : (newD pb sb rb).sF k) : k = sb := by
 rcases h with ((h | h | ⟨e, he, _⟩) | (h | ⟨x, hx, _⟩) | ⟨e, he, _⟩ | h | ⟨nd, hn, _⟩) | ⟨L, hL, _⟩
 ·exact h
 ·cases h
 ·cases he
 ·cases h
 ·cases hx
 ·cases he
 ·cases h
 ·cases hn
 ·cases hL
theorem newD_r {pb sb rb k : Nat} (h : (newD pb sb rb).rF k) : k = rb := by
 rcases h with h | h | h | h | ⟨q, hq, _⟩
 ·exact h
 ·cases h
 ·cases h
 ·cases h
 ·cases hq
theorem newD_o {pb sb rb k : Nat} (h : (newD pb sb rb).oF k) : k = pb := by
 rcases h with h | h
 ·exact h
 ·cases h
theorem pair_new {w : World} {pb sb rb : Nat} (h1 : RowV w pb 94 [ptrV sb, ptrV rb, .slice none 0 0]) (h2 : RowV w sb 130 [.slice none 0 0, .map none, .slice none 0 0]) (h3 : RowV w rb 91 [.slice none 0 0, .slice none 0 0, .slice none 0 0])
  (n1 : pb ≠ sb) (n2 : pb ≠ rb) (n3 : sb ≠ rb) : PairOk w (newD pb sb rb) := by
 refine ⟨⟨h1, World.ownsRow_nil _ _ _ _, ⟨h2, ⟨rfl, fun e he => (by cases he), fun e he => (by cases he), fun e he => (by cases he), ?_, fun e he => (by cases he), fun e he => (by cases he), fun e he => (by cases he), List.nodup_nil⟩, ⟨World.ownsRow_nil _ _ _ _, rfl, fun i h _ => absurd h (by simp [newD])⟩, ?_, World.ownsRow_nil _ _ _ _, ?_, fun nd hn => (by cases hn), List.Pairwise.nil, fun x hx => (by cases hx), fun x hx => (by cases hx), by simp [newD]⟩,
  ⟨h3, World.ownsRow_nil _ _ _ _, World.ownsRow_nil _ _ _ _, fun q hq => (by cases hq), World.ownsRow_nil _ _ _ _, fun x hx => (by cases hx)⟩, ⟨fun L hL => (by cases hL), rfl, rfl, fun i L p nd e1 => (by simp [newD] at e1)⟩, ?_, ?_, ?_⟩, rfl, rfl, rfl, rfl, by simp [newD], by simp [newD], rfl, rfl⟩
 ·intro i j e f _ he
  simp [newD] at he
 ·intro k hk
  rcases hk with hk | ⟨x, hx, _⟩
  ·cases hk
  ·cases hx
 ·intro k hk
  cases hk
 ·intro k hk hk'
  exact n1 ((newD_o hk).symm.trans (newD_s hk'))
 ·intro k hk hk'
  exact n2 ((newD_o hk).symm.trans (newD_r hk'))
 ·intro k hk hk'
  exact n3 ((newD_s hk).symm.trans (newD_r hk'))
end Go.Proofs.YtekegfbjbainhaaGreat


namespace Go.Proofs.YtekegfbjbainhaaGreat
open Go.RowKit
def BkV : Type := Value × Value × Value
structure LawAt (B : BkV) (w : World) (wb : Nat) (ps : SlR) (ds : List PairD) : Prop where
 row : RowV w wb 34 [ps.val, B.1, B.2.1, B.2.2]
 own : w.ownsRow 0 55 1 ps.val ds.length (ds.map (fun d => ptrV d.pb))
 ok : ∀ d ∈ ds, PairOk w d
 low : ∀ d ∈ ds, ∀ k, d.F k → wb < k ∧ ps.val.ownBlock ≠ some k
 psb : ∀ k, ps.val.ownBlock = some k → wb < k
 apart : ∀ (i j : Nat) (d e : PairD), i ≠ j → ds[i]? = some d → ds[j]? = some e → ∀ k, d.F k → ¬ e.F k
theorem LawAt.frame {B : BkV} {w W : World} {S : Nat → Prop} {wb : Nat} {ps : SlR} {ds : List PairD} (h : LawAt B w wb ps ds) (hf : Frame S w W) (h1 : ¬ S wb) (h2 : ∀ k, ps.val.ownBlock = some k → ¬ S k) (h3 : ∀ d ∈ ds, ∀ k, d.F k → ¬ S k) : LawAt B W wb ps ds :=
 ⟨RowV.of_block h.row (hf.block _ (RowV.lt h.row) h1), owns_frame h.own hf h2, fun d hd => (h.ok d hd).frame hf (h3 d hd), h.low, h.psb, h.apart⟩
theorem LawAt.below {B : BkV} {w W : World} {wb : Nat} {ps : SlR} {ds : List PairD} (h : LawAt B w wb ps ds) (hb : Below w.heap.size w W) : LawAt B W wb ps ds := h.frame (Frame.of_below_all (S := fun _ => False) hb) (fun e => e) (fun _ _ e => e) (fun _ _ _ _ e => e)
theorem LawAt.step {B : BkV} {w w' : World} {wb : Nat} {ps : SlR} {ds : List PairD} (h : LawAt B w wb ps ds) {i : Nat} {d : PairD} (hi : ds[i]? = some d) (hs : Stepped d w w') : ∃ ds', LawAt B w' wb ps ds' ∧ ds'.length = ds.length ∧ (∀ x ∈ ds', ∀ k, x.F k → (∃ y ∈ ds, y.F k) ∨ w.heap.size ≤ k) := by
 obtain ⟨d', hp, hok, hf, hn⟩ := hs
 have hd : d ∈ ds := List.mem_of_getElem? hi
 have hil : i < ds.length := (List.getElem?_eq_some_iff.1 hi).1
 have hsz := hf.size
 have hnew : ∀ k, d'.F k → (k < w.heap.size ∧ d.F k) ∨ w.heap.size ≤ k := fun k hk => by
  by_cases hlt : k < w.heap.size
  ·exact Or.inl ⟨hlt, hn k hk hlt⟩
  ·exact Or.inr (by omega)
 have hget : ∀ j, (ds.set i d')[j]? = if i = j then some d' else ds[j]? := fun j => by
  rw [List.getElem?_set]
  by_cases e : i = j
  ·subst e; simp [hil]
  ·simp [e]
 refine ⟨ds.set i d', ⟨RowV.of_block h.row (hf.block _ (RowV.lt h.row) (fun e => by have := (h.low d hd wb e).1; omega)), ?_, ?_, ?_, h.psb, ?_⟩, by simp, ?_⟩
 ·have e1 : (ds.set i d').map (fun d => ptrV d.pb) = ds.map (fun d => ptrV d.pb) := by
   rw [List.map_set, hp]
   have hg : ds[i] = d := (List.getElem?_eq_some_iff.1 hi).2
   apply List.ext_getElem?
   intro j
   rw [List.getElem?_set]
   by_cases e : i = j
   ·subst e; simp [hil, hg]
   ·simp [e]
  rw [List.length_set, e1]
  exact owns_frame h.own hf (fun k hk e => (h.low d hd k e).2 hk)
 ·intro x hx
  obtain ⟨j, hj⟩ := List.getElem?_of_mem hx
  rw [hget] at hj
  by_cases e : i = j
  ·rw [if_pos e] at hj; cases hj; exact hok
  ·rw [if_neg e] at hj
   exact (h.ok x (List.mem_of_getElem? hj)).frame hf (fun k hk hk' => h.apart i j d x e hi hj k hk' hk)
 ·intro x hx k hk
  obtain ⟨j, hj⟩ := List.getElem?_of_mem hx
  rw [hget] at hj
  by_cases e : i = j
  ·rw [if_pos e] at hj; cases hj
   rcases hnew k hk with ⟨_, h1⟩ | h1
   ·exact h.low d hd k h1
   ·refine ⟨by have := RowV.lt h.row; omega, fun e => by have := (h.own.lt k e).2; omega⟩
  ·rw [if_neg e] at hj
   exact h.low x (List.mem_of_getElem? hj) k hk
 ·intro a b x y hab hx hy k hkx hky
  rw [hget] at hx hy
  by_cases ea : i = a
  ·rw [if_pos ea] at hx; cases hx
   rw [if_neg (fun eb => hab (ea.symm.trans eb))] at hy
   have hlt := (h.ok y (List.mem_of_getElem? hy)).lay.lt k hky
   exact h.apart i b d y (fun eb => hab (ea.symm.trans eb)) hi hy k (hn k hkx hlt) hky
  ·rw [if_neg ea] at hx
   by_cases eb : i = b
   ·rw [if_pos eb] at hy; cases hy
    have hlt := (h.ok x (List.mem_of_getElem? hx)).lay.lt k hkx
    exact h.apart a i x d (fun e => ea e.symm) hx hi k hkx (hn k hky hlt)
   ·rw [if_neg eb] at hy
    exact h.apart a b x y hab hx hy k hkx hky
 ·intro x hx k hk
  obtain ⟨j, hj⟩ := List.getElem?_of_mem hx
  rw [hget] at hj
  by_cases e : i = j
  ·rw [if_pos e] at hj; cases hj
   rcases hnew k hk with ⟨_, h1⟩ | h1
   ·exact Or.inl ⟨d, hd, h1⟩
   ·exact Or.inr h1
  ·rw [if_neg e] at hj
   exact Or.inl ⟨x, List.mem_of_getElem? hj, hk⟩
theorem LawAt.push {B : BkV} {w W W1 : World} {wb : Nat} {ps ps' : SlR} {ds : List PairD} {d : PairD} (h : LawAt B w wb ps ds) (hb : Below w.heap.size w W) (hd : PairOk W d) (hnew : ∀ k, d.F k → w.heap.size ≤ k)
  (ho : W1.ownsRow 0 55 1 ps'.val (ds.length + 1) (ds.map (fun d => ptrV d.pb) ++ [ptrV d.pb])) (hf : Frame (fun k => ps.val.ownBlock = some k) W W1) (hat : ps'.val.ownBlock = ps.val.ownBlock ∨ ps'.val.ownBlock = some W.heap.size) :
  LawAt B (W1.setCell ⟨wb, 0, none⟩ ps'.val) wb ps' (ds ++ [d]) := by
 have hW := h.below hb
 have hwb := RowV.lt h.row
 have hsz := hb.size
 have hsf := hf.size
 have hr1 : RowV W1 wb 34 [ps.val, B.1, B.2.1, B.2.2] := RowV.of_block hW.row (hf.block _ (RowV.lt hW.row) (fun e => by have := h.psb _ e; omega))
 have hf2 : Frame (fun k => k = wb) W1 (W1.setCell ⟨wb, 0, none⟩ ps'.val) := (Frame.refl (fun k => k = wb) _).setCell (p := ⟨wb, 0, none⟩) rfl _
 have hpl : ∀ k, ps'.val.ownBlock = some k → ps.val.ownBlock = some k ∨ k = W.heap.size := fun k hk => by
  rcases hat with e | e
  ·exact Or.inl (by rw [← e]; exact hk)
  ·rw [e] at hk; exact Or.inr (Option.some.inj hk).symm
 have hall : ∀ x ∈ ds ++ [d], PairOk W x ∧ (∀ k, x.F k → wb < k ∧ ps.val.ownBlock ≠ some k ∧ k < W.heap.size) := fun x hx => by
  rcases List.mem_append.1 hx with hx | hx
  ·exact ⟨hW.ok x hx, fun k hk => ⟨(h.low x hx k hk).1, (h.low x hx k hk).2, (hW.ok x hx).lay.lt k hk⟩⟩
  ·simp only [List.mem_singleton] at hx
   subst hx
   exact ⟨hd, fun k hk => ⟨by have := hnew k hk; omega, fun e => by have := (h.own.lt k e).2; have := hnew k hk; omega, hd.lay.lt k hk⟩⟩
 refine ⟨by simpa using RowV.set hr1 0 ps'.val, ?_, ?_, ?_, ?_, ?_⟩
 ·rw [List.length_append, List.map_append]
  exact owns_frame ho hf2 (fun k hk e => owns_ne ho hr1 (by decide) (by rw [hk, e]))
 ·intro x hx
  obtain ⟨h1, h2⟩ := hall x hx
  exact (h1.frame hf (fun k hk e => (h2 k hk).2.1 e)).frame hf2 (fun k hk e => by have := (h2 k hk).1; omega)
 ·intro x hx k hk
  obtain ⟨h1, h2⟩ := hall x hx
  refine ⟨(h2 k hk).1, fun e => ?_⟩
  rcases hpl k e with e | e
  ·exact (h2 k hk).2.1 e
  ·have := (h2 k hk).2.2; omega
 ·intro k hk
  rcases hpl k hk with e | e
  ·exact h.psb k e
  ·have := RowV.lt hW.row; omega
 ·intro a b x y hab hx hy k hkx hky
  have hget : ∀ j z, (ds ++ [d])[j]? = some z → ds[j]? = some z ∨ (j = ds.length ∧ z = d) := fun j z hz => by
   by_cases hj : j < ds.length
   ·rw [List.getElem?_append_left hj] at hz; exact Or.inl hz
   ·rw [List.getElem?_append_right (by omega)] at hz
    obtain ⟨h1, h2⟩ := List.getElem?_eq_some_iff.1 hz
    simp at h1 h2
    exact Or.inr ⟨by omega, h2.symm⟩
  rcases hget a x hx with hx' | ⟨ha, ex⟩
  ·rcases hget b y hy with hy' | ⟨hb', ey⟩
   ·exact h.apart a b x y hab hx' hy' k hkx hky
   ·have := (h.ok x (List.mem_of_getElem? hx')).lay.lt k hkx
    have := hnew k (ey ▸ hky)
    omega
  ·rcases hget b y hy with hy' | ⟨hb', ey⟩
   ·have := (h.ok y (List.mem_of_getElem? hy')).lay.lt k hky
    have := hnew k (ex ▸ hkx)
    omega
   ·omega
end Go.Proofs.YtekegfbjbainhaaGreat


namespace Go.Proofs.YtekegfbjbainhaaGreat
open Go.RowKit
theorem Tryz.infoPairP : (Tryz.prog.info? 55).map (fun i => (i.zero, i.size, i.bytes)) = some (some (.pointer none), 1, 8) := by kernel_rfl
set_option maxRecDepth 100000 in
set_option maxHeartbeats 1000000 in
theorem free_store {B : BkV} (cs : List Value) (wb : Nat) (ps : SlR) (ds : List PairD) (w : World) (h : LawAt B w wb ps ds) (k0 : cs[0]? = some (.int .i64 2)) (hn : ds.length + 1 ≤ 17592186044416) :
  Calls Tryz.prog 19 #[.pointer (some ⟨wb, 0, none⟩), .agg cs.toArray] w fun e w' => e = .returned (.bool true) ∧ (∃ ps' d, LawAt B w' wb ps' (ds ++ [d]) ∧ (∀ k, d.F k → w.heap.size ≤ k) ∧ (∀ k, ps'.val.ownBlock = some k → ps.val.ownBlock = some k ∨ w.heap.size ≤ k)) ∧ Frame (fun k => k = wb ∨ ps.val.ownBlock = some k) w w' := by
 have hwb : wb < w.heap.size := RowV.lt h.row
 have r0 : w.cell? ⟨wb, 0, none⟩ = some (.slice ps.a ps.n ps.cap) := RowV.cell h.row 0 (by simp)
 have HB5 : Hid (Below w.heap.size w (((((w.alloc (.cells cs.toArray 43)).alloc (.cells #[.slice none 0 0, .map none, .slice none 0 0] 130)).alloc (.cells #[.slice none 0 0, .slice none 0 0, .slice none 0 0] 91)).alloc (.cells #[.pointer (some ⟨w.heap.size + 1, 0, none⟩), .pointer (some ⟨w.heap.size + 1 + 1, 0, none⟩), .slice none 0 0] 94)).alloc (.cells #[.pointer (some ⟨w.heap.size + 1 + 1 + 1, 0, none⟩)] 55))) := (((((Below.refl w.heap.size w).alloc (Nat.le_refl _) _).alloc (by simp) _).alloc (by simp; omega) _).alloc (by simp; omega) _).alloc (by simp; omega) _
 have HO : Hid ((((((w.alloc (.cells cs.toArray 43)).alloc (.cells #[.slice none 0 0, .map none, .slice none 0 0] 130)).alloc (.cells #[.slice none 0 0, .slice none 0 0, .slice none 0 0] 91)).alloc (.cells #[.pointer (some ⟨w.heap.size + 1, 0, none⟩), .pointer (some ⟨w.heap.size + 1 + 1, 0, none⟩), .slice none 0 0] 94)).alloc (.cells #[.pointer (some ⟨w.heap.size + 1 + 1 + 1, 0, none⟩)] 55)).ownsRow 0 55 1 (.slice ps.a ps.n ps.cap) ds.length (ds.map (fun d => ptrV d.pb))) := owns_below h.own HB5.out
 have HS : Hid (SlV (((((w.alloc (.cells cs.toArray 43)).alloc (.cells #[.slice none 0 0, .map none, .slice none 0 0] 130)).alloc (.cells #[.slice none 0 0, .slice none 0 0, .slice none 0 0] 91)).alloc (.cells #[.pointer (some ⟨w.heap.size + 1, 0, none⟩), .pointer (some ⟨w.heap.size + 1 + 1, 0, none⟩), .slice none 0 0] 94)).alloc (.cells #[.pointer (some ⟨w.heap.size + 1 + 1 + 1, 0, none⟩)] 55)) (some ⟨w.heap.size + 1 + 1 + 1 + 1, 0, none⟩) [.pointer (some ⟨w.heap.size + 1 + 1 + 1, 0, none⟩)]) := by
  have := SlV.alloc_new ((((w.alloc (.cells cs.toArray 43)).alloc (.cells #[.slice none 0 0, .map none, .slice none 0 0] 130)).alloc (.cells #[.slice none 0 0, .slice none 0 0, .slice none 0 0] 91)).alloc (.cells #[.pointer (some ⟨w.heap.size + 1, 0, none⟩), .pointer (some ⟨w.heap.size + 1 + 1, 0, none⟩), .slice none 0 0] 94)) [.pointer (some ⟨w.heap.size + 1 + 1 + 1, 0, none⟩)] 55
  unfold Hid; simpa only [World.size_alloc] using this
 have H1 : Hid (∀ u ∈ [Value.pointer (some ⟨w.heap.size + 1 + 1 + 1, 0, none⟩)], u.oneCell' = true) := fun u hu => by simp at hu; subst hu; rfl
 have H63 : Hid (ds.length + 1 ≤ maxLen) := by unfold Hid maxLen; omega
 have HBY : Hid ((ds.length + 1) * 8 ≤ 140737488355328) := by unfold Hid; omega
 have HR6 : Hid (∀ w6, Frame (fun k => (Value.slice ps.a ps.n ps.cap).ownBlock = some k) (((((w.alloc (.cells cs.toArray 43)).alloc (.cells #[.slice none 0 0, .map none, .slice none 0 0] 130)).alloc (.cells #[.slice none 0 0, .slice none 0 0, .slice none 0 0] 91)).alloc (.cells #[.pointer (some ⟨w.heap.size + 1, 0, none⟩), .pointer (some ⟨w.heap.size + 1 + 1, 0, none⟩), .slice none 0 0] 94)).alloc (.cells #[.pointer (some ⟨w.heap.size + 1 + 1 + 1, 0, none⟩)] 55)) w6 → RowV w6 wb 34 [ps.val, B.1, B.2.1, B.2.2]) := fun w6 hf =>
  RowV.of_block (h.below HB5.out).row (hf.block _ (RowV.lt (h.below HB5.out).row) (fun e => by have := h.psb _ e; omega))
 have HEf : Hid (∀ (a6 : Option Addr) (n6 c6 : Nat) (w6 : World), w6.ownsRow 0 55 1 (.slice a6 n6 c6) (ds.length + 1) (ds.map (fun d => ptrV d.pb) ++ [.pointer (some ⟨w.heap.size + 1 + 1 + 1, 0, none⟩)]) → Frame (fun k => (Value.slice ps.a ps.n ps.cap).ownBlock = some k) (((((w.alloc (.cells cs.toArray 43)).alloc (.cells #[.slice none 0 0, .map none, .slice none 0 0] 130)).alloc (.cells #[.slice none 0 0, .slice none 0 0, .slice none 0 0] 91)).alloc (.cells #[.pointer (some ⟨w.heap.size + 1, 0, none⟩), .pointer (some ⟨w.heap.size + 1 + 1, 0, none⟩), .slice none 0 0] 94)).alloc (.cells #[.pointer (some ⟨w.heap.size + 1 + 1 + 1, 0, none⟩)] 55)) w6 →
   ((Value.slice a6 n6 c6).ownBlock = (Value.slice ps.a ps.n ps.cap).ownBlock ∨ (Value.slice a6 n6 c6).ownBlock = some (((((w.alloc (.cells cs.toArray 43)).alloc (.cells #[.slice none 0 0, .map none, .slice none 0 0] 130)).alloc (.cells #[.slice none 0 0, .slice none 0 0, .slice none 0 0] 91)).alloc (.cells #[.pointer (some ⟨w.heap.size + 1, 0, none⟩), .pointer (some ⟨w.heap.size + 1 + 1, 0, none⟩), .slice none 0 0] 94)).alloc (.cells #[.pointer (some ⟨w.heap.size + 1 + 1 + 1, 0, none⟩)] 55)).heap.size) → (∃ ps' d, LawAt B (w6.setCell ⟨wb, 0, none⟩ (.slice a6 n6 c6)) wb ps' (ds ++ [d]) ∧ (∀ k, d.F k → w.heap.size ≤ k) ∧ (∀ k, ps'.val.ownBlock = some k → ps.val.ownBlock = some k ∨ w.heap.size ≤ k)) ∧ Frame (fun k => k = wb ∨ ps.val.ownBlock = some k) w (w6.setCell ⟨wb, 0, none⟩ (.slice a6 n6 c6))) := by
  intro a6 n6 c6 w6 ho6 hf6 hat6
  have e1 : RowV ((w.alloc (.cells cs.toArray 43)).alloc (.cells #[.slice none 0 0, .map none, .slice none 0 0] 130)) (w.heap.size + 1) 130 [.slice none 0 0, .map none, .slice none 0 0] := by
   have := RowV.new (w.alloc (.cells cs.toArray 43)) 130 [.slice none 0 0, .map none, .slice none 0 0]
   simpa only [World.size_alloc] using this
  have e2 : RowV (((w.alloc (.cells cs.toArray 43)).alloc (.cells #[.slice none 0 0, .map none, .slice none 0 0] 130)).alloc (.cells #[.slice none 0 0, .slice none 0 0, .slice none 0 0] 91)) (w.heap.size + 1 + 1) 91 [.slice none 0 0, .slice none 0 0, .slice none 0 0] := by
   have := RowV.new ((w.alloc (.cells cs.toArray 43)).alloc (.cells #[.slice none 0 0, .map none, .slice none 0 0] 130)) 91 [.slice none 0 0, .slice none 0 0, .slice none 0 0]
   simpa only [World.size_alloc] using this
  have e3 : RowV ((((w.alloc (.cells cs.toArray 43)).alloc (.cells #[.slice none 0 0, .map none, .slice none 0 0] 130)).alloc (.cells #[.slice none 0 0, .slice none 0 0, .slice none 0 0] 91)).alloc (.cells #[.pointer (some ⟨w.heap.size + 1, 0, none⟩), .pointer (some ⟨w.heap.size + 1 + 1, 0, none⟩), .slice none 0 0] 94)) (w.heap.size + 1 + 1 + 1) 94 [.pointer (some ⟨w.heap.size + 1, 0, none⟩), .pointer (some ⟨w.heap.size + 1 + 1, 0, none⟩), .slice none 0 0] := by
   have := RowV.new (((w.alloc (.cells cs.toArray 43)).alloc (.cells #[.slice none 0 0, .map none, .slice none 0 0] 130)).alloc (.cells #[.slice none 0 0, .slice none 0 0, .slice none 0 0] 91)) 94 [.pointer (some ⟨w.heap.size + 1, 0, none⟩), .pointer (some ⟨w.heap.size + 1 + 1, 0, none⟩), .slice none 0 0]
   simpa only [World.size_alloc] using this
  have hp : PairOk (((((w.alloc (.cells cs.toArray 43)).alloc (.cells #[.slice none 0 0, .map none, .slice none 0 0] 130)).alloc (.cells #[.slice none 0 0, .slice none 0 0, .slice none 0 0] 91)).alloc (.cells #[.pointer (some ⟨w.heap.size + 1, 0, none⟩), .pointer (some ⟨w.heap.size + 1 + 1, 0, none⟩), .slice none 0 0] 94)).alloc (.cells #[.pointer (some ⟨w.heap.size + 1 + 1 + 1, 0, none⟩)] 55)) (newD (w.heap.size + 1 + 1 + 1) (w.heap.size + 1) (w.heap.size + 1 + 1)) := pair_new (e3.alloc _) (((e1.alloc _).alloc _).alloc _) ((e2.alloc _).alloc _) (by omega) (by omega) (by omega)
  refine ⟨⟨⟨a6, n6, c6⟩, newD (w.heap.size + 1 + 1 + 1) (w.heap.size + 1) (w.heap.size + 1 + 1), LawAt.push (ps' := ⟨a6, n6, c6⟩) h HB5.out hp (fun k hk => ?_) ho6 hf6 hat6, ?_, ?_⟩, ?_⟩
  ·have := newD_F hk; omega
  ·intro k hk; have := newD_F hk; omega
  ·intro k hk
   rcases hat6 with e | e
   ·exact Or.inl (by show (Value.slice ps.a ps.n ps.cap).ownBlock = _; rw [← e]; exact hk)
   ·have hk' : (Value.slice a6 n6 c6).ownBlock = some k := hk
    rw [e] at hk'
    have := Option.some.inj hk'
    have := HB5.out.size
    exact Or.inr (by omega)
  ·exact (Frame.into (S := fun k => k = wb ∨ ps.val.ownBlock = some k) (Frame.of_below_all HB5.out) hf6 (fun k _ e => Or.inr e)).setCell (p := ⟨wb, 0, none⟩) (Or.inl rfl) _
 clear h
 go_enter Tryz.func19, Tryz.ntmps19
 go_wp2_with fail
 refine (new_any _).mono ?_
 rintro e w1 ⟨rfl, rfl⟩
 go_wp2_with (at_builtin; refine wp_appendV (by rfl) (.tmp 44) (.tmp 50) 27 (by rfl) 0 55 _ 1 8 Tryz.underlying27 Tryz.infoPairP rfl (by decide) (.slice ps.a ps.n ps.cap) ds.length (ds.map (fun d => ptrV d.pb)) (by rfl) HO.out (some ⟨w.heap.size + 1 + 1 + 1 + 1, 0, none⟩) 1 1 [.pointer (some ⟨w.heap.size + 1 + 1 + 1, 0, none⟩)] (by rfl) rfl HS.out (fun h => by cases h) H1.out H63.out HBY.out (Nat.zero_le _) ?_; intro v6 w6 ho6 hf6 hat6; obtain ⟨a6, c6, hv6, _⟩ := owns_form ho6; subst hv6; have q6 : w6.cell? ⟨wb, 0, none⟩ = some (.slice ps.a ps.n ps.cap) := RowV.cellK (HR6.out _ hf6) 0 _ rfl; have f6 : w6.frozen? ⟨wb, 0, none⟩ = false := RowV.frozen (HR6.out _ hf6) 0)
 go_ret
 exact ⟨rfl, HEf.out _ _ _ _ ho6 hf6 hat6⟩
end Go.Proofs.YtekegfbjbainhaaGreat
