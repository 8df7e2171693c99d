import Derived.Test.YtekegfbjbainhaaGreatKJoin20
import Derived.Deep.RegionLaw
import Derived.Deep.DrawnRows
import Derived.Test.YtekegfbjbainhaaGreatKJoin17
import Derived.Deep.RegionHeld3
import Derived.Deep.RegionHeldLaw
import Derived.Deep.DeepCutAuto
import Derived.Test.YtekegfbjbainhaaGreatKJoin6
import Derived.Test.YtekegfbjbainhaaGreatKJoin15
import Derived.Test.YtekegfbjbainhaaGreatKJoin4
set_option linter.unusedVariables false
set_option linter.unusedSimpArgs false

namespace Go.Proofs.YtekegfbjbainhaaGreat
open Go.RowKit
def bksF : Nat → List BkR → List Value
 | _, [] => []
 | i, r :: rs => bkC r i ++ bksF (i + 1) rs
theorem bksF_length : ∀ (i : Nat) (rs : List BkR), (bksF i rs).length = rs.length * 5
 | _, [] => rfl
 | i, r :: rs => by simp [bksF, bksF_length (i + 1) rs, bkC]; omega
theorem bksF_snoc : ∀ (i : Nat) (rs : List BkR) (r : BkR), bksF i (rs ++ [r]) = bksF i rs ++ bkC r (i + rs.length)
 | i, [], r => by simp [bksF]
 | i, x :: rs, r => by
  have := bksF_snoc (i + 1) rs r
  simp only [List.cons_append, bksF, this, List.append_assoc, List.length_cons]
  rw [show i + 1 + rs.length = i + (rs.length + 1) by omega]
theorem bksF_get : ∀ (i : Nat) (rs : List BkR) (k : Nat) (h : k < rs.length) (j : Nat), j < 5 → (bksF i rs)[k * 5 + j]? = (bkC rs[k] (i + k))[j]?
 | i, [], k, h, j, hj => absurd h (Nat.not_lt_zero _)
 | i, r :: rs, 0, h, j, hj => by
  simp only [bksF, Nat.zero_mul, Nat.zero_add, Nat.add_zero, List.getElem_cons_zero]
  rw [List.getElem?_append_left (by simpa [bkC] using hj)]
 | i, r :: rs, k + 1, h, j, hj => by
  have := bksF_get (i + 1) rs k (by simpa using h) j hj
  simp only [bksF, List.getElem_cons_succ]
  rw [List.getElem?_append_right (by simp [bkC]; omega)]
  rw [show (k + 1) * 5 + j - (bkC r i).length = k * 5 + j by simp [bkC]; omega, this, show i + 1 + k = i + (k + 1) by omega]
theorem Tryz.infoBytes : (Tryz.prog.info? 60).map (fun i => (i.zero, i.size, i.bytes)) = some (some (.agg #[.slice none 0 0, .slice none 0 0, .slice none 0 0, .slice none 0 0, .int .i64 0]), 5, 104) := by kernel_rfl
structure BkAt (w : World) (bs : SlR) (rs : List BkR) : Prop where
 own : w.ownsRow 0 60 5 bs.val rs.length (bksF 0 rs)
 ok : ∀ i (h : i < rs.length), BkOk w (patB i) 1 rs[i]
 apart : ∀ r ∈ rs, ∀ k, bkF r k → bs.val.ownBlock ≠ some k
def bookF (bs : SlR) (rs : List BkR) (k : Nat) : Prop := bs.val.ownBlock = some k ∨ ∃ r ∈ rs, bkF r k
theorem BkAt.frame {w w' : World} {S : Nat → Prop} {bs : SlR} {rs : List BkR} (h : BkAt w bs rs) (hf : Frame S w w') (hS : ∀ k, bookF bs rs k → ¬ S k) : BkAt w' bs rs :=
 ⟨owns_frame h.own hf (fun k hk => hS k (Or.inl hk)), fun i hi => (h.ok i hi).frame hf (fun k hk => hS k (Or.inr ⟨rs[i], List.getElem_mem hi, hk⟩)), h.apart⟩
theorem BkAt.below {w w' : World} {bs : SlR} {rs : List BkR} (h : BkAt w bs rs) (hb : Below w.heap.size w w') : BkAt w' bs rs := h.frame (Frame.of_below_all (S := fun _ => False) hb) (fun _ _ e => e)
theorem BkAt.lt {w : World} {bs : SlR} {rs : List BkR} (h : BkAt w bs rs) : ∀ k, bookF bs rs k → k < w.heap.size := fun k hk => by
 rcases hk with hk | ⟨r, hr, hk⟩
 ·exact (h.own.lt k hk).2
 ·obtain ⟨i, hi, rfl⟩ := List.getElem_of_mem hr
  exact (h.ok i hi).lt k hk
theorem BkAt.nil (w : World) : BkAt w ⟨none, 0, 0⟩ [] := ⟨World.ownsRow_nil _ _ _ _, fun i h => absurd h (Nat.not_lt_zero _), fun r hr => (by cases hr)⟩
theorem book_fin {w W2 w2 : World} {wb : Nat} {ps bs ds es : SlR} {v : Value} {rs : List BkR} {r : BkR} {a2 : Option Addr} {n2 c2 : Nat} (HB : BkAt w bs rs) (HB2 : BkAt W2 bs rs) (hW3 : RowV w2 wb 34 [ps.val, bs.val, ds.val, es.val]) (HR2 : BkOk W2 (patB rs.length) 1 r) (HFR : Frame (fun k => v.ownBlock = some k) w W2)
  (HNW : ∀ k, bkF r k → ¬ bs.val.ownBlock = some k ∧ k ≠ wb) (HG : ∀ k, bkF r k → v.ownBlock = some k ∨ w.heap.size < k) (hbw : ∀ k, bookF bs rs k → k ≠ wb) (ho2 : w2.ownsRow 0 60 5 (.slice a2 n2 c2) (rs.length + 1) (bksF 0 rs ++ bkC r rs.length)) (hf2 : Frame (fun k => bs.val.ownBlock = some k) W2 w2)
  (hat2 : (Value.slice a2 n2 c2).ownBlock = bs.val.ownBlock ∨ (Value.slice a2 n2 c2).ownBlock = some W2.heap.size) :
  RowV (w2.setCell ⟨wb, 1, none⟩ (.slice a2 n2 c2)) wb 34 [ps.val, .slice a2 n2 c2, ds.val, es.val] ∧ BkAt (w2.setCell ⟨wb, 1, none⟩ (.slice a2 n2 c2)) ⟨a2, n2, c2⟩ (rs ++ [r]) ∧ Frame (fun k => k = wb ∨ v.ownBlock = some k ∨ bs.val.ownBlock = some k) w (w2.setCell ⟨wb, 1, none⟩ (.slice a2 n2 c2)) ∧
   (∀ k, bookF ⟨a2, n2, c2⟩ (rs ++ [r]) k → k < w.heap.size → bookF bs rs k ∨ v.ownBlock = some k) := by
 have hfs : Frame (fun k => k = wb) w2 (w2.setCell ⟨wb, 1, none⟩ (.slice a2 n2 c2)) := (Frame.refl (fun k => k = wb) _).setCell (p := ⟨wb, 1, none⟩) rfl _
 have hz2 := hf2.size
 have hz0 := HFR.size
 have hbl : ∀ k, (Value.slice a2 n2 c2).ownBlock = some k → bs.val.ownBlock = some k ∨ W2.heap.size ≤ k := fun k hk => by
  rcases hat2 with e | e
  ·exact Or.inl (by rw [← e]; exact hk)
  ·rw [e] at hk; have := Option.some.inj hk; exact Or.inr (by omega)
 have hnb : ∀ k, bkF r k → (Value.slice a2 n2 c2).ownBlock ≠ some k := fun k hk e => by
  rcases hbl k e with h | h
  ·exact (HNW k hk).1 h
  ·have := HR2.lt k hk; omega
 have hob : ∀ x ∈ rs, ∀ k, bkF x k → (Value.slice a2 n2 c2).ownBlock ≠ some k := fun x hx k hk e => by
  rcases hbl k e with h | h
  ·exact HB.apart x hx k hk h
  ·have := HB2.lt k (Or.inr ⟨x, hx, hk⟩); omega
 have hr3 : BkOk (w2.setCell ⟨wb, 1, none⟩ (.slice a2 n2 c2)) (patB rs.length) 1 r := (HR2.frame hf2 (fun k hk => (HNW k hk).1)).frame hfs (fun k hk => (HNW k hk).2)
 have ho3 : ∀ i (h : i < rs.length), BkOk (w2.setCell ⟨wb, 1, none⟩ (.slice a2 n2 c2)) (patB i) 1 rs[i] := fun i h => ((HB2.ok i h).frame hf2 (fun k hk e => HB.apart _ (List.getElem_mem h) k hk e)).frame hfs (fun k hk e => hbw k (Or.inr ⟨_, List.getElem_mem h, hk⟩) e)
 refine ⟨by simpa using hW3.set 1 (.slice a2 n2 c2), ⟨?_, ?_, ?_⟩, ?_, ?_⟩
 ·rw [List.length_append, List.length_singleton, bksF_snoc, Nat.zero_add]
  exact owns_frame ho2 hfs (fun k hk e => owns_ne ho2 hW3 (by decide) (by rw [← e]; exact hk))
 ·intro i hi
  by_cases hlt : i < rs.length
  ·rw [List.getElem_append_left hlt]; exact ho3 i hlt
  ·have : i = rs.length := by simp at hi; omega
   subst this
   rw [List.getElem_append_right (Nat.le_refl _)]
   simpa using hr3
 ·intro x hx k hk
  rcases List.mem_append.1 hx with hx | hx
  ·exact hob x hx k hk
  ·simp only [List.mem_singleton] at hx; subst hx; exact hnb k hk
 ·refine Frame.inside (Frame.inside (HFR.mono (fun k _ hk => Or.inr (Or.inl hk))) hf2 (fun k _ hk => Or.inr (Or.inr hk))) hfs (fun k _ hk => Or.inl hk)
 ·intro k hk hlt
  rcases hk with hk | ⟨x, hx, hk⟩
  ·rcases hbl k hk with h | h
   ·exact Or.inl (Or.inl h)
   ·omega
  ·rcases List.mem_append.1 hx with hx | hx
   ·exact Or.inl (Or.inr ⟨x, hx, hk⟩)
   ·simp only [List.mem_singleton] at hx; subst hx
    rcases HG k hk with h | h
    ·exact Or.inr h
    ·omega
attribute [local go_sem ↓] Go.wp_at_zero Go.wp_at_succ
set_option maxRecDepth 100000 in
set_option maxHeartbeats 4000000 in
theorem book_byte (wb : Nat) (ps bs ds es v : SlR) (rs : List BkR) (L : List UInt8) (base : Nat) (w : World) (hW : RowV w wb 34 [ps.val, bs.val, ds.val, es.val]) (hB : BkAt w bs rs) (ho : OwnB w base v.val L) (hL : L.length ≤ 100000000000000) (hn : rs.length ≤ 1200000000000) (hb : base ≤ w.heap.size)
  (hvw : ∀ k, v.val.ownBlock = some k → k ≠ wb ∧ ¬ bookF bs rs k) (hbw : ∀ k, bookF bs rs k → k ≠ wb) :
  Calls Tryz.prog 18 #[.pointer (some ⟨wb, 1, none⟩), v.val] w fun e w' => e = .returned (.tuple #[]) ∧ ∃ (bs' : SlR) (r : BkR), RowV w' wb 34 [ps.val, bs'.val, ds.val, es.val] ∧ BkAt w' bs' (rs ++ [r]) ∧ Frame (fun k => k = wb ∨ v.val.ownBlock = some k ∨ bs.val.ownBlock = some k) w w' ∧ (∀ k, bookF bs' (rs ++ [r]) k → k < w.heap.size → bookF bs rs k ∨ v.val.ownBlock = some k) := by
 have hn' := (owns_cap (a := bs.a) (n' := bs.n) (cap := bs.cap) hB.own).1
 have HOB : Hid (Calls _ _ _ _ _) := ownBytes_any v L base rs.length w ho hL (by omega) hb
 have c1 : w.cell? ⟨wb, 1, none⟩ = some (.slice bs.a bs.n bs.cap) := hW.cell 1 (by simp)
 have hnI : (bs.n : Int) ≤ 1200000000000 := by rw [hn']; omega
 have HE : Hid ((rs.length : Int) = (bs.n : Int)) := by unfold Hid; rw [hn']
 rw [HE.out] at HOB
 have HWL : Hid (wb < w.heap.size) := hW.lt
 have HB : Hid (BkAt w bs rs) := hB
 have HW : Hid (RowV w wb 34 [ps.val, bs.val, ds.val, es.val]) := hW
 have HVW : Hid (∀ k, v.val.ownBlock = some k → k ≠ wb ∧ ¬ bookF bs rs k) := hvw
 have HBWB : Hid (∀ k, bookF bs rs k → k ≠ wb) := hbw
 clear hn' hW hB ho hb hL hvw hbw
 unfold SlR.val at HOB ⊢
 go_enter Tryz.func18, Tryz.ntmps18
 go_wp2_with fail
 refine HOB.out.mono ?_
 rintro e w1 ⟨r, rfl, hr1, hf1, hg1⟩
 have HVB : Hid (∀ k, bookF bs rs k → ¬ (Value.slice v.a v.n v.cap).ownBlock = some k) := fun k hk e => (HVW.out k e).2 hk
 have hB1 : BkAt w1 bs rs := HB.out.frame hf1 HVB.out
 have hW1 : RowV w1 wb 34 [ps.val, bs.val, ds.val, es.val] := HW.out.of_block (hf1.block _ HW.out.lt (fun e => (HVW.out _ e).1 rfl))
 have hbx : Below w1.heap.size w1 ((w1.alloc (.cells #[.slice r.l.a r.l.n r.l.cap, .slice r.one.a r.one.n r.one.cap, .slice r.two.a r.two.n r.two.cap, .slice r.three.a r.three.n r.three.cap, .int .i64 (rs.length : Int)] 60)).alloc (.cells #[.slice r.l.a r.l.n r.l.cap, .slice r.one.a r.one.n r.one.cap, .slice r.two.a r.two.n r.two.cap, .slice r.three.a r.three.n r.three.cap, .int .i64 (rs.length : Int)] 60)).drew := by
  have hz : Below w1.heap.size w1 ((w1.alloc (.cells #[.slice r.l.a r.l.n r.l.cap, .slice r.one.a r.one.n r.one.cap, .slice r.two.a r.two.n r.two.cap, .slice r.three.a r.three.n r.three.cap, .int .i64 (rs.length : Int)] 60)).alloc (.cells #[.slice r.l.a r.l.n r.l.cap, .slice r.one.a r.one.n r.one.cap, .slice r.two.a r.two.n r.two.cap, .slice r.three.a r.three.n r.three.cap, .int .i64 (rs.length : Int)] 60)) := ((Below.refl _ _).alloc (Nat.le_refl _) _).alloc (by simp) _
  exact ⟨hz.os, hz.tape, hz.output, hz.size, hz.block⟩
 have hB2 := hB1.below hbx
 have hW2 := hW1.below hW1.lt hbx
 have hr2 := hr1.below hbx
 have hR0 : RowV (w1.alloc (.cells #[.slice r.l.a r.l.n r.l.cap, .slice r.one.a r.one.n r.one.cap, .slice r.two.a r.two.n r.two.cap, .slice r.three.a r.three.n r.three.cap, .int .i64 (rs.length : Int)] 60)) w1.heap.size 60 [.slice r.l.a r.l.n r.l.cap, .slice r.one.a r.one.n r.one.cap, .slice r.two.a r.two.n r.two.cap, .slice r.three.a r.three.n r.three.cap, .int .i64 (rs.length : Int)] := RowV.new w1 _ _
 have x0 : (w1.alloc (.cells #[.slice r.l.a r.l.n r.l.cap, .slice r.one.a r.one.n r.one.cap, .slice r.two.a r.two.n r.two.cap, .slice r.three.a r.three.n r.three.cap, .int .i64 (rs.length : Int)] 60)).cell? ⟨w1.heap.size, 0, none⟩ = some (.slice r.l.a r.l.n r.l.cap) := hR0.cell 0 (by simp)
 have x1 : (w1.alloc (.cells #[.slice r.l.a r.l.n r.l.cap, .slice r.one.a r.one.n r.one.cap, .slice r.two.a r.two.n r.two.cap, .slice r.three.a r.three.n r.three.cap, .int .i64 (rs.length : Int)] 60)).cell? ⟨w1.heap.size, 1, none⟩ = some (.slice r.one.a r.one.n r.one.cap) := hR0.cell 1 (by simp)
 have x2 : (w1.alloc (.cells #[.slice r.l.a r.l.n r.l.cap, .slice r.one.a r.one.n r.one.cap, .slice r.two.a r.two.n r.two.cap, .slice r.three.a r.three.n r.three.cap, .int .i64 (rs.length : Int)] 60)).cell? ⟨w1.heap.size, 2, none⟩ = some (.slice r.two.a r.two.n r.two.cap) := hR0.cell 2 (by simp)
 have x3 : (w1.alloc (.cells #[.slice r.l.a r.l.n r.l.cap, .slice r.one.a r.one.n r.one.cap, .slice r.two.a r.two.n r.two.cap, .slice r.three.a r.three.n r.three.cap, .int .i64 (rs.length : Int)] 60)).cell? ⟨w1.heap.size, 3, none⟩ = some (.slice r.three.a r.three.n r.three.cap) := hR0.cell 3 (by simp)
 have x4 : (w1.alloc (.cells #[.slice r.l.a r.l.n r.l.cap, .slice r.one.a r.one.n r.one.cap, .slice r.two.a r.two.n r.two.cap, .slice r.three.a r.three.n r.three.cap, .int .i64 (rs.length : Int)] 60)).cell? ⟨w1.heap.size, 4, none⟩ = some (.int .i64 (rs.length : Int)) := hR0.cell 4 (by simp)
 have y1 : (w1.alloc (.cells #[.slice r.l.a r.l.n r.l.cap, .slice r.one.a r.one.n r.one.cap, .slice r.two.a r.two.n r.two.cap, .slice r.three.a r.three.n r.three.cap, .int .i64 (rs.length : Int)] 60)).cell? ⟨wb, 1, none⟩ = some (.slice bs.a bs.n bs.cap) := (hW1.alloc _).cell 1 (by simp)
 have y2 : ((w1.alloc (.cells #[.slice r.l.a r.l.n r.l.cap, .slice r.one.a r.one.n r.one.cap, .slice r.two.a r.two.n r.two.cap, .slice r.three.a r.three.n r.three.cap, .int .i64 (rs.length : Int)] 60)).alloc (.cells #[.slice r.l.a r.l.n r.l.cap, .slice r.one.a r.one.n r.one.cap, .slice r.two.a r.two.n r.two.cap, .slice r.three.a r.three.n r.three.cap, .int .i64 (rs.length : Int)] 60)).cell? ⟨wb, 1, none⟩ = some (.slice bs.a bs.n bs.cap) := ((hW1.alloc _).alloc _).cell 1 (by simp)
 have hR1 := hR0.alloc (.cells #[.slice r.l.a r.l.n r.l.cap, .slice r.one.a r.one.n r.one.cap, .slice r.two.a r.two.n r.two.cap, .slice r.three.a r.three.n r.three.cap, .int .i64 (rs.length : Int)] 60)
 have HOX : Hid (World.ownsRow ((w1.alloc (.cells #[.slice r.l.a r.l.n r.l.cap, .slice r.one.a r.one.n r.one.cap, .slice r.two.a r.two.n r.two.cap, .slice r.three.a r.three.n r.three.cap, .int .i64 (rs.length : Int)] 60)).alloc (.cells #[.slice r.l.a r.l.n r.l.cap, .slice r.one.a r.one.n r.one.cap, .slice r.two.a r.two.n r.two.cap, .slice r.three.a r.three.n r.three.cap, .int .i64 (rs.length : Int)] 60)).drew 0 60 5 (.slice bs.a bs.n bs.cap) rs.length (bksF 0 rs)) := hB2.own
 have HSX : Hid (SlV ((w1.alloc (.cells #[.slice r.l.a r.l.n r.l.cap, .slice r.one.a r.one.n r.one.cap, .slice r.two.a r.two.n r.two.cap, .slice r.three.a r.three.n r.three.cap, .int .i64 (rs.length : Int)] 60)).alloc (.cells #[.slice r.l.a r.l.n r.l.cap, .slice r.one.a r.one.n r.one.cap, .slice r.two.a r.two.n r.two.cap, .slice r.three.a r.three.n r.three.cap, .int .i64 (rs.length : Int)] 60)).drew (some ⟨w1.heap.size + 1, 0, none⟩) (bkC r rs.length)) := by
  have := SlV.alloc_new (w1.alloc (.cells #[.slice r.l.a r.l.n r.l.cap, .slice r.one.a r.one.n r.one.cap, .slice r.two.a r.two.n r.two.cap, .slice r.three.a r.three.n r.three.cap, .int .i64 (rs.length : Int)] 60)) (bkC r rs.length) 60
  simp only [World.size_alloc] at this
  exact this
 have H1 : Hid (∀ u ∈ bkC r rs.length, u.oneCell' = true) := fun u hu => bk_one hu
 have HB2 : Hid (BkAt ((w1.alloc (.cells #[.slice r.l.a r.l.n r.l.cap, .slice r.one.a r.one.n r.one.cap, .slice r.two.a r.two.n r.two.cap, .slice r.three.a r.three.n r.three.cap, .int .i64 (rs.length : Int)] 60)).alloc (.cells #[.slice r.l.a r.l.n r.l.cap, .slice r.one.a r.one.n r.one.cap, .slice r.two.a r.two.n r.two.cap, .slice r.three.a r.three.n r.three.cap, .int .i64 (rs.length : Int)] 60)).drew bs rs) := hB2
 have HW2 : Hid (RowV ((w1.alloc (.cells #[.slice r.l.a r.l.n r.l.cap, .slice r.one.a r.one.n r.one.cap, .slice r.two.a r.two.n r.two.cap, .slice r.three.a r.three.n r.three.cap, .int .i64 (rs.length : Int)] 60)).alloc (.cells #[.slice r.l.a r.l.n r.l.cap, .slice r.one.a r.one.n r.one.cap, .slice r.two.a r.two.n r.two.cap, .slice r.three.a r.three.n r.three.cap, .int .i64 (rs.length : Int)] 60)).drew wb 34 [ps.val, bs.val, ds.val, es.val]) := hW2
 have HR2 : Hid (BkOk ((w1.alloc (.cells #[.slice r.l.a r.l.n r.l.cap, .slice r.one.a r.one.n r.one.cap, .slice r.two.a r.two.n r.two.cap, .slice r.three.a r.three.n r.three.cap, .int .i64 (rs.length : Int)] 60)).alloc (.cells #[.slice r.l.a r.l.n r.l.cap, .slice r.one.a r.one.n r.one.cap, .slice r.two.a r.two.n r.two.cap, .slice r.three.a r.three.n r.three.cap, .int .i64 (rs.length : Int)] 60)).drew (patB rs.length) 1 r) := hr2
 have HR1 : Hid (RowV ((w1.alloc (.cells #[.slice r.l.a r.l.n r.l.cap, .slice r.one.a r.one.n r.one.cap, .slice r.two.a r.two.n r.two.cap, .slice r.three.a r.three.n r.three.cap, .int .i64 (rs.length : Int)] 60)).alloc (.cells #[.slice r.l.a r.l.n r.l.cap, .slice r.one.a r.one.n r.one.cap, .slice r.two.a r.two.n r.two.cap, .slice r.three.a r.three.n r.three.cap, .int .i64 (rs.length : Int)] 60)) w1.heap.size 60 [.slice r.l.a r.l.n r.l.cap, .slice r.one.a r.one.n r.one.cap, .slice r.two.a r.two.n r.two.cap, .slice r.three.a r.three.n r.three.cap, .int .i64 (rs.length : Int)]) := hR1
 have HG1 : Hid (∀ k, bkF r k → (Value.slice v.a v.n v.cap).ownBlock = some k ∨ w.heap.size < k) := hg1
 have HFR : Hid (Frame (fun k => (Value.slice v.a v.n v.cap).ownBlock = some k) w ((w1.alloc (.cells #[.slice r.l.a r.l.n r.l.cap, .slice r.one.a r.one.n r.one.cap, .slice r.two.a r.two.n r.two.cap, .slice r.three.a r.three.n r.three.cap, .int .i64 (rs.length : Int)] 60)).alloc (.cells #[.slice r.l.a r.l.n r.l.cap, .slice r.one.a r.one.n r.one.cap, .slice r.two.a r.two.n r.two.cap, .slice r.three.a r.three.n r.three.cap, .int .i64 (rs.length : Int)] 60)).drew) := hf1.trans (Frame.of_below_all hbx)
 have HNW : Hid (∀ k, bkF r k → ¬ bs.val.ownBlock = some k ∧ k ≠ wb) := fun k hk => by
  rcases hg1 k hk with h | h
  ·exact ⟨fun e => (HVW.out k h).2 (Or.inl e), (HVW.out k h).1⟩
  ·exact ⟨fun e => by have := HB.out.lt k (Or.inl e); omega, by have := HWL.out; omega⟩
 have hwb1 : wb < w1.heap.size := hW1.lt
 have hne1 : wb ≠ w1.heap.size := by omega
 have HN12 : Hid (rs.length ≤ 1200000000000) := hn
 clear hB1 hW1 hbx hB2 hW2 hr2 hR0 hR1 hf1 hg1 hr1 hn
 unfold bkC
 unfold SlR.val
 go_wp2
 go_region_law ((refine step_appendV (by rfl) (.tmp 16) (.tmp 18) 28 (by rfl) 0 60 _ 5 104 Tryz.underlying28 Tryz.infoBytes rfl (by decide) (.slice bs.a bs.n bs.cap) rs.length (bksF 0 rs) (by rfl) HOX.out ⟨w1.heap.size + 1, 0, none⟩ 1 1 (bkC r rs.length) (by rfl) rfl HSX.out H1.out (by have := HN12.out; unfold maxLen; omega) (by have := HN12.out; omega) (Nat.zero_le _) ?_; intro a2 n2 c2 w2 ho2 hf2 hat2; have hW3 := RowV.of_block HW2.out (hf2.block _ HW2.out.lt (fun e => owns_ne HOX.out HW2.out (by decide) e)); have z1 : w2.cell? ⟨wb, 1, none⟩ = some (.slice bs.a bs.n bs.cap) := RowV.cell hW3 1 (by simp); have z2 : w2.frozen? ⟨wb, 1, none⟩ = false := RowV.frozen hW3 1))
 all_goals
  go_wp2
  go_returns
  obtain ⟨q1, q2, q3, q4⟩ := book_fin (v := .slice v.a v.n v.cap) HB.out HB2.out hW3 HR2.out HFR.out HNW.out HG1.out HBWB.out ho2 hf2 hat2
  exact ⟨rfl, ⟨a2, n2, c2⟩, r, q1, q2, q3, q4⟩
end Go.Proofs.YtekegfbjbainhaaGreat


namespace Go.Proofs.YtekegfbjbainhaaGreat
open Go.RowKit
end Go.Proofs.YtekegfbjbainhaaGreat


namespace Go.Proofs.YtekegfbjbainhaaGreat
open Go.RowKit
theorem past_get (pastL : List (SlR × List ItR)) (k : Nat) (hk : k < pastL.length) : pastAt (pastL.map (·.2)) (k : Int) = pastL[k].2 := by
 unfold pastAt
 simp [hk]
theorem ref_prove (rb : Nat) (now past roots : SlR) (nowL : List ItR) (pastL : List (SlR × List ItR)) (rootsL : List (List UInt8)) (e : Int) (sk : SlR) (key : List UInt8) (w : World) (h : RefAt w rb 0 now past roots nowL pastL rootsL) (hp : pastL.length ≤ 40) (hP : ∀ q ∈ pastL, PastR q.2) (hK : BS w sk key) (hkm : key.length ≤ maxLen) :
  Calls Tryz.prog 47 #[.pointer (some ⟨rb, 0, none⟩), .int .i64 e, sk.val] w fun r w' => ∃ v' : SlR, r = .returned (.tuple #[v'.val, .int .i64 (prvE (pastL.map (·.2)).length e key : Int)]) ∧ OwnB w' w.heap.size v'.val (prvB (pastL.map (·.2)) e key) ∧ Below w.heap.size w w' := by
 cases he : epochBad (pastL.map (·.2)).length e with
 | true =>
  have h4 : prvE (pastL.map (·.2)).length e key = 4 := by unfold prvE; rw [if_pos he]
  refine (refProve_epoch rb now past roots nowL pastL rootsL e sk.val w h hp (by simpa using he)).mono ?_
  rintro r w' ⟨rfl, hb⟩
  refine ⟨⟨none, 0, 0⟩, by rw [h4]; rfl, ?_, hb⟩
  unfold prvB; rw [h4]; exact World.ownsRow_nil _ _ _ _
 | false =>
  have he' : epochBad pastL.length e = false := by simpa using he
  obtain ⟨k, rfl, hk⟩ := epoch_in he'
  cases ha : keyOk key with
  | false =>
   have h4 : prvE (pastL.map (·.2)).length (k : Int) key = 1 := by unfold prvE; rw [if_neg (by rw [he]; decide), if_pos ha]
   refine (refProve_arg rb now past roots nowL pastL rootsL k sk key w h hp hk hK hkm ha).mono ?_
   rintro r w' ⟨rfl, hb⟩
   refine ⟨⟨none, 0, 0⟩, by rw [h4]; rfl, ?_, hb⟩
   unfold prvB; rw [h4]; exact World.ownsRow_nil _ _ _ _
  | true =>
   have h4 : prvE (pastL.map (·.2)).length (k : Int) key = 0 := by unfold prvE; rw [if_neg (by rw [he]; decide), if_neg (by rw [ha]; decide)]
   refine (refProve_ok rb now past roots nowL pastL rootsL k sk key w h hp hk (hP _ (List.getElem_mem hk)) hK ha).mono ?_
   rintro r w' ⟨a', n', c', rfl, ho, hb⟩
   refine ⟨⟨a', n', c'⟩, by rw [h4]; rfl, ?_, hb⟩
   unfold prvB; rw [h4, if_pos rfl, past_get pastL k hk]; exact ho
theorem ref_range (rb : Nat) (now past roots : SlR) (nowL : List ItR) (pastL : List (SlR × List ItR)) (rootsL : List (List UInt8)) (e : Int) (sf st : SlR) (fr tu : List UInt8) (w : World) (h : RefAt w rb 0 now past roots nowL pastL rootsL) (hp : pastL.length ≤ 40) (hP : ∀ q ∈ pastL, PastR q.2) (hF : BS w sf fr) (hT : BS w st tu) (hfm : fr.length ≤ maxLen) (htm : tu.length ≤ maxLen) :
  Calls Tryz.prog 49 #[.pointer (some ⟨rb, 0, none⟩), .int .i64 e, sf.val, st.val] w fun r w' => ∃ v' : SlR, r = .returned (.tuple #[v'.val, .int .i64 (rngE (pastL.map (·.2)).length e fr tu : Int)]) ∧ OwnB w' w.heap.size v'.val (rngB (pastL.map (·.2)) e fr tu) ∧ Below w.heap.size w w' := by
 cases he : epochBad (pastL.map (·.2)).length e with
 | true =>
  have h4 : rngE (pastL.map (·.2)).length e fr tu = 4 := by unfold rngE; rw [if_pos he]
  refine (refRangeP_epoch rb now past roots nowL pastL rootsL e sf.val st.val w h hp (by simpa using he)).mono ?_
  rintro r w' ⟨rfl, hb⟩
  refine ⟨⟨none, 0, 0⟩, by rw [h4]; rfl, ?_, hb⟩
  unfold rngB; rw [h4]; exact World.ownsRow_nil _ _ _ _
 | false =>
  have he' : epochBad pastL.length e = false := by simpa using he
  obtain ⟨k, rfl, hk⟩ := epoch_in he'
  cases ha : rngOk fr tu with
  | false =>
   have h4 : rngE (pastL.map (·.2)).length (k : Int) fr tu = 1 := by unfold rngE; rw [if_neg (by rw [he]; decide), if_pos ha]
   refine (refRangeP_arg rb now past roots nowL pastL rootsL k sf st fr tu w h hp hk hF hT hfm htm ha).mono ?_
   rintro r w' ⟨rfl, hb⟩
   refine ⟨⟨none, 0, 0⟩, by rw [h4]; rfl, ?_, hb⟩
   unfold rngB; rw [h4]; exact World.ownsRow_nil _ _ _ _
  | true =>
   have h4 : rngE (pastL.map (·.2)).length (k : Int) fr tu = 0 := by unfold rngE; rw [if_neg (by rw [he]; decide), if_neg (by rw [ha]; decide)]
   refine (refRangeP_ok rb now past roots nowL pastL rootsL k sf st fr tu w h hp hk (hP _ (List.getElem_mem hk)) hF hT ha).mono ?_
   rintro r w' ⟨a', n', c', rfl, ho, hb⟩
   refine ⟨⟨a', n', c'⟩, by rw [h4]; rfl, ?_, hb⟩
   unfold rngB; rw [h4, if_pos rfl, past_get pastL k hk]; exact ho
theorem pastAt_R {pp : List (List ItR)} (h : ∀ p ∈ pp, PastR p) (e : Int) : PastR (pastAt pp e) := by
 unfold pastAt
 rw [List.getD_eq_getElem?_getD]
 cases hx : pp[e.toNat]? with
 | none => exact ⟨List.Pairwise.nil, fun x hx => (by cases hx), by simp⟩
 | some p => exact h p (List.mem_of_getElem? hx)
theorem StoT.past {w : World} {sb : Nat} {mp : Option Nat} {es : List MEn} {T : List (List (List Nd))} {tds : List Nd} {pp : List (List ItR)} (h : StoT w sb mp es T tds pp) : ∀ p ∈ pp, PastR p := fun p hp => by
 obtain ⟨i, hi, rfl⟩ := List.getElem_of_mem hp
 have h1 : i < T.length := by rw [h.tl, ← h.pl]; exact hi
 have h2 : i < tds.length := by rw [← h.pl]; exact hi
 have := (h.rep i T[i] pp[i] tds[i] (List.getElem?_eq_getElem h1) (List.getElem?_eq_getElem hi) (List.getElem?_eq_getElem h2)).2.2
 exact ⟨this.rise, this.ok, this.len⟩
end Go.Proofs.YtekegfbjbainhaaGreat


namespace Go.Proofs.YtekegfbjbainhaaGreat
open Go.RowKit
attribute [local go_sem ↓] Go.wp_at_zero Go.wp_at_succ
theorem PairAt.pastR {w : World} {d : PairD} (h : PairAt w d) : ∀ p ∈ d.pp, PastR p := h.tre.past
end Go.Proofs.YtekegfbjbainhaaGreat


namespace Go.Proofs.YtekegfbjbainhaaGreat
open Go.RowKit
attribute [local go_sem ↓] Go.wp_at_zero Go.wp_at_succ
theorem bs_ofString (b : Nat) (w : World) (s : ByteArray) (cap : Nat) (t : TypeId) (fr : Nat × Nat) (hb : b = w.heap.size) : BS (w.alloc (.cells (bytesRow s cap) t fr)) ⟨some ⟨b, 0, none⟩, s.size, cap⟩ s.data.toList := by
 subst hb; exact BS.ofString _ _ _ _ _
theorem bs_alloc {w : World} {s : SlR} {l : List UInt8} (h : BS w s l) (X : Obj) : BS (w.alloc X) s l := h.below ((Below.refl _ _).alloc (Nat.le_refl _) _)
end Go.Proofs.YtekegfbjbainhaaGreat


namespace Go.Proofs.YtekegfbjbainhaaGreat
open Go.RowKit
end Go.Proofs.YtekegfbjbainhaaGreat


namespace Go.Proofs.YtekegfbjbainhaaGreat
open Go.RowKit
end Go.Proofs.YtekegfbjbainhaaGreat


namespace Go.Proofs.YtekegfbjbainhaaGreat
open Go.RowKit
def takeB (n : Nat) : Option (List UInt8) → List UInt8
 | some l => if n ≤ l.length then l.take n else []
 | none => []
def takeR (n : Nat) : Option (List UInt8) → Option (List UInt8)
 | some l => if n ≤ l.length then some (l.drop n) else none
 | none => none
def oneV : Option (List UInt8) → Nat
 | some (x :: _) => x.toNat
 | _ => 0
theorem takeB_length (n : Nat) (o : Option (List UInt8)) : (takeB n o).length ≤ n := by
 cases o with
 | none => simp [takeB]
 | some l =>
  show (if n ≤ l.length then l.take n else []).length ≤ n
  split
  ·rw [List.length_take]; omega
  ·simp
theorem oneV_lt (o : Option (List UInt8)) : oneV o < 256 := by
 unfold oneV; split
 ·exact UInt8.toNat_lt _
 ·omega
structure SubS (w : World) (K : Nat → Prop) (s : SlR) (l : List UInt8) : Prop where
 bs : BS w s l
 cap : s.n ≤ s.cap
 k : ∀ x, s.a = some x → K x.block
theorem SubS.nil (w : World) (K : Nat → Prop) : SubS w K ⟨none, 0, 0⟩ [] := ⟨⟨fun i h => absurd h (Nat.not_lt_zero _), rfl, fun _ => rfl, fun x h => (by cases h)⟩, Nat.le_refl _, fun x h => (by cases h)⟩
theorem SubS.frame {w w' : World} {S K : Nat → Prop} {s : SlR} {l : List UInt8} (h : SubS w K s l) (hf : Frame S w w') (hS : ∀ k, K k → ¬ S k) : SubS w' K s l := ⟨h.bs.frame hf (fun x hx => hS _ (h.k x hx)), h.cap, h.k⟩
theorem SubS.below {w w' : World} {K : Nat → Prop} {s : SlR} {l : List UInt8} (h : SubS w K s l) (hf : Below w.heap.size w w') : SubS w' K s l := ⟨h.bs.below hf, h.cap, h.k⟩
theorem SubS.take {w : World} {K : Nat → Prop} {s : SlR} {l : List UInt8} (h : SubS w K s l) (n : Nat) (hn : n ≤ l.length) : SubS w K ⟨s.a, n, s.cap⟩ (l.take n) := by
 have h1 := h.bs.n
 have h2 := h.cap
 refine ⟨⟨fun i hi => ?_, by simp; omega, h.bs.nil, h.bs.lt⟩, by show n ≤ s.cap; omega, h.k⟩
 have hi' : i < l.length := by rw [List.length_take] at hi; omega
 obtain ⟨b, o, ha, hb, hc⟩ := h.bs.sl i hi'
 exact ⟨b, o, ha, hb, by rw [hc]; simp⟩
theorem SubS.drop {w : World} {K : Nat → Prop} {s : SlR} {l : List UInt8} (h : SubS w K s l) (n : Nat) (hn : n ≤ l.length) : SubS w K ⟨cutS s.a s.cap n 1, s.n - n, s.cap - n⟩ (l.drop n) := by
 have h1 := h.bs.n
 have h2 := h.cap
 refine ⟨⟨fun i hi => ?_, by show s.n - n = _; rw [List.length_drop]; omega, fun e => ?_, fun x hx => ?_⟩, by show s.n - n ≤ s.cap - n; omega, fun x hx => ?_⟩
 ·have hlen : (l.drop n).length = l.length - n := List.length_drop
  obtain ⟨b, o, ha, hb, hc⟩ := h.bs.sl (n + i) (by omega)
  have hne : ¬ s.cap = n := by omega
  refine ⟨b, o + n, ?_, hb, ?_⟩
  ·show cutS s.a s.cap n 1 = _
   unfold cutS; rw [if_neg hne, ha]; simp [Addr.add_mid]
  ·rw [Nat.add_assoc, hc]; simp
 ·have := h.bs.nil (cutS_none e)
  show s.cap - n = 0; omega
 ·obtain ⟨y, hy, e⟩ := cutS_block hx
  rw [← e]; exact h.bs.lt y hy
 ·obtain ⟨y, hy, e⟩ := cutS_block hx
  rw [← e]; exact h.k y hy
structure RdAt (w : World) (K : Nat → Prop) (rb : Nat) (s : SlR) (l : List UInt8) (bad : Bool) : Prop where
 row : RowV w rb 77 [s.val, .bool bad]
 sub : SubS w K s l
 out : ¬ K rb
def RdO (w : World) (K : Nat → Prop) (rb : Nat) (o : Option (List UInt8)) : Prop := ∃ s l bad, RdAt w K rb s l bad ∧ o = if bad then none else some l
theorem RdO.lt {w : World} {K : Nat → Prop} {rb : Nat} {o : Option (List UInt8)} (h : RdO w K rb o) : rb < w.heap.size := by
 obtain ⟨s, l, bad, h, _⟩ := h; exact RowV.lt h.row
theorem RdO.frame {w w' : World} {S K : Nat → Prop} {rb : Nat} {o : Option (List UInt8)} (h : RdO w K rb o) (hf : Frame S w w') (h1 : ¬ S rb) (h2 : ∀ k, K k → ¬ S k) : RdO w' K rb o := by
 obtain ⟨s, l, bad, h, e⟩ := h
 exact ⟨s, l, bad, ⟨RowV.of_block h.row (hf.block _ (RowV.lt h.row) h1), h.sub.frame hf h2, h.out⟩, e⟩
theorem RdO.below {w w' : World} {K : Nat → Prop} {rb : Nat} {o : Option (List UInt8)} (h : RdO w K rb o) (hf : Below w.heap.size w w') : RdO w' K rb o := h.frame (Frame.of_below_all (S := fun _ => False) hf) (fun e => e) (fun _ _ e => e)
theorem RdAt.put {w : World} {K : Nat → Prop} {rb : Nat} {s s' : SlR} {l l' : List UInt8} {bad : Bool} (h : RdAt w K rb s l bad) (h' : SubS w K s' l') : RdAt (w.setCell ⟨rb, 0, none⟩ s'.val) K rb s' l' bad :=
 ⟨by simpa using RowV.set h.row 0 s'.val, h'.frame ((Frame.refl (fun k => k = rb) _).setCell (p := ⟨rb, 0, none⟩) rfl _) (fun k hk e => h.out (e ▸ hk)), h.out⟩
theorem RdAt.bad {w : World} {K : Nat → Prop} {rb : Nat} {s : SlR} {l : List UInt8} {bad : Bool} (h : RdAt w K rb s l bad) : RdAt (w.setCell ⟨rb, 1, none⟩ (.bool true)) K rb s l true :=
 ⟨by simpa using RowV.set h.row 1 (.bool true), h.sub.frame ((Frame.refl (fun k => k = rb) _).setCell (p := ⟨rb, 1, none⟩) rfl _) (fun k hk e => h.out (e ▸ hk)), h.out⟩
theorem run_sliceHi {P : Program} {w : World} (t e : TypeId) (ad : Option Addr) (n cap j size : Nat) (ht : P.underlying t = some (.slice e)) (hs : (P.info? e).map (·.size) = some size) (hjc : j ≤ cap) :
  (Instr.slice t (.slice ad n cap) none (some (.int .i64 (j : Int))) none).run P w = .ok (.slice ad j cap) w := by
 have h2 : (j : Int) ≤ cap := by omega
 have hso : (Go.sizeOf e).run P w = .ok size w := by
  cases hi : P.info? e with
  | none => simp [hi] at hs
  | some inf => simp [hi] at hs; simp [sizeOf, typeInfo, hi, hs]
 cases ad <;> simp [Instr.slice, run_underlying ht, Instr.sliceBounds, Instr.sliceBound, asIntOf, h2, hjc, Result.andThen, hso, Addr.add]
theorem wp_sliceHi {P : Program} {ops : Array Oper} {rest : List Oper} {o : Oper} {a : Act} {w : World} {Q : Exit → Act → World → Prop} (hgd : o.guard = none) (t e : TypeId) (x hi : Operand) (ho : o.op = .slice t x none (some hi) none)
  (ad : Option Addr) (n cap j size : Nat) (hx : a.eval x = .slice ad n cap) (hhi : a.eval hi = .int .i64 (j : Int)) (ht : P.underlying t = some (.slice e)) (hs : (P.info? e).map (·.size) = some size) (hjc : j ≤ cap)
  (h : wpList P ops Q rest (a.put o.dst (.slice ad j cap)) w) : wpList P ops Q (o :: rest) a w := by
 refine wpList_plain hgd fun K hK => ?_
 have hr := run_sliceHi (w := w) t e ad n cap j size ht hs hjc
 unfold Oper.wp execOp
 simp only [ho, Option.map, hx, hhi]
 go_simp
 exact hK _ _ h
theorem wrap64_toNat8 (x : UInt8) : wrap64 ((x.toNat : Nat) : Int) = ((x.toNat : Nat) : Int) := by
 have := x.toNat_lt
 have e := IntKind.wrap_i64 ((x.toNat : Nat) : Int)
 unfold wrap64
 omega
set_option maxRecDepth 100000 in
set_option maxHeartbeats 1000000 in
theorem some_any (K : Nat → Prop) (rb n : Nat) (o : Option (List UInt8)) (w : World) (h : RdO w K rb o) :
  Calls Tryz.prog 65 #[.pointer (some ⟨rb, 0, none⟩), .int .i64 (n : Int)] w fun e w' => ∃ s' : SlR, e = .returned s'.val ∧ Frame (fun k => k = rb) w w' ∧ w'.heap.size = w.heap.size ∧ SubS w' K s' (takeB n o) ∧ RdO w' K rb (takeR n o) := by
 obtain ⟨s, l, bad, h, ho⟩ := h
 have HO : Hid (o = if bad then none else some l) := ho
 clear ho
 have r0 : w.cell? ⟨rb, 0, none⟩ = some (.slice s.a s.n s.cap) := RowV.cell h.row 0 (by simp)
 have r1 : w.cell? ⟨rb, 1, none⟩ = some (.bool bad) := RowV.cell h.row 1 (by simp)
 have HH : Hid (RdAt w K rb s l bad) := h
 have HN : Hid (s.n = l.length) := h.sub.bs.n
 have HC : Hid (s.n ≤ s.cap) := h.sub.cap
 have HI : Hid ((Tryz.prog.info? 5).map (·.size) = some 1) := by unfold Hid; kernel_rfl
 have hrb : rb < w.heap.size := RowV.lt h.row
 have fz0 := h.row.frozen 0
 have fz1 := h.row.frozen 1
 clear h
 by_cases hn : s.n < n
 ·have hnI : (s.n : Int) < n := by omega
  have hb := HH.out.bad
  have HB : Hid (RdAt (w.setCell ⟨rb, 1, none⟩ (.bool true)) K rb s l true) := hb
  have r2 : (w.setCell ⟨rb, 1, none⟩ (.bool true)).cell? ⟨rb, 1, none⟩ = some (.bool true) := RowV.cell hb.row 1 (by simp)
  clear hb
  go_enter Tryz.func65, Tryz.ntmps65
  go_wp2
  go_ret
  refine ⟨⟨none, 0, 0⟩, rfl, (Frame.refl (fun k => k = rb) _).setCell (p := ⟨rb, 1, none⟩) rfl _, by simp, ?_, s, l, true, HB.out, ?_⟩
  ·have e : takeB n o = [] := by
    rw [HO.out]
    cases bad
    ·simp only [Bool.false_eq_true, if_false, takeB]; rw [if_neg (by have := HN.out; omega)]
    ·rfl
   rw [e]; exact SubS.nil _ _
  ·rw [HO.out]
   cases bad
   ·simp only [Bool.false_eq_true, if_false, takeR, if_true]; rw [if_neg (by have := HN.out; omega)]
   ·rfl
 ·have hnI : ¬ (s.n : Int) < n := by omega
  cases bad with
  | true =>
   go_enter Tryz.func65, Tryz.ntmps65
   go_wp2
   go_ret
   rw [HO.out]
   exact ⟨⟨none, 0, 0⟩, rfl, Frame.refl _ _, rfl, SubS.nil _ _, s, l, true, HH.out, rfl⟩
  | false =>
   have hnl : n ≤ l.length := by have := HN.out; omega
   have hlo : n ≤ s.n := by omega
   have hhi : n ≤ s.cap := by have := HC.out; omega
   have HL : Hid (n ≤ l.length) := hnl
   clear hnl
   go_enter Tryz.func65, Tryz.ntmps65
   go_wp2_with (first
    | (refine wp_sliceHi (by rfl) 38 5 _ _ (by rfl) s.a s.n s.cap n 1 (by rfl) (by rfl) Tryz.underlying38 HI.out hhi ?_)
    | (refine wp_sliceLo (by rfl) 38 5 _ _ (by rfl) s.a s.n s.cap n 1 (by rfl) (by rfl) Tryz.underlying38 HI.out hlo HC.out ?_))
   go_ret
   have hp := HH.out.put (HH.out.sub.drop n HL.out)
   refine ⟨⟨s.a, n, s.cap⟩, rfl, (Frame.refl (fun k => k = rb) _).setCell (p := ⟨rb, 0, none⟩) rfl _, by simp, ?_, _, _, false, hp, ?_⟩
   ·have e : takeB n o = l.take n := by
     rw [HO.out]
     simp only [Bool.false_eq_true, if_false, takeB]; rw [if_pos HL.out]
    rw [e]
    exact (HH.out.sub.take n HL.out).frame ((Frame.refl (fun k => k = rb) _).setCell (p := ⟨rb, 0, none⟩) rfl _) (fun k hk e => HH.out.out (e ▸ hk))
   ·rw [HO.out]
    simp only [Bool.false_eq_true, if_false, takeR]; rw [if_pos HL.out]
set_option maxRecDepth 100000 in
set_option maxHeartbeats 1000000 in
theorem one_any (K : Nat → Prop) (rb : Nat) (o : Option (List UInt8)) (w : World) (h : RdO w K rb o) :
  Calls Tryz.prog 64 #[.pointer (some ⟨rb, 0, none⟩)] w fun e w' => e = .returned (.int .i64 (oneV o : Int)) ∧ Frame (fun k => k = rb) w w' ∧ w'.heap.size = w.heap.size ∧ RdO w' K rb (takeR 1 o) := by
 have HS : Hid (Calls _ _ _ _ _) := some_any K rb 1 o w h
 go_enter Tryz.func64, Tryz.ntmps64
 go_wp2_with fail
 refine HS.out.mono ?_
 rintro e w1 ⟨s', rfl, hf, hz, hs, hr⟩
 have HR : Hid (RdO w1 K rb (takeR 1 o)) := hr
 have HF : Hid (Frame (fun k => k = rb) w w1) := hf
 have HZ : Hid (w1.heap.size = w.heap.size) := hz
 clear hr hf hz h
 unfold SlR.val
 cases hB : takeB 1 o with
 | nil =>
  have hn0 : s'.n = 0 := by have := hs.bs.n; rw [hB] at this; exact this
  have HE : Hid (oneV o = 0) := by
   unfold Hid
   cases o with
   | none => rfl
   | some l =>
    cases l with
    | nil => rfl
    | cons x r => simp [takeB] at hB
  rw [hn0]
  clear hB hs hn0
  go_wp2
  go_ret
  exact ⟨by rw [HE.out]; rfl, HF.out, HZ.out, HR.out⟩
 | cons x r =>
  rw [hB] at hs
  have hx : takeB 1 o = [x] ∧ oneV o = x.toNat := by
   cases o with
   | none => simp [takeB] at hB
   | some l =>
    cases l with
    | nil => simp [takeB] at hB
    | cons y r' =>
     simp [takeB] at hB
     exact ⟨by simp [takeB, hB.1], by simp [oneV, hB.1]⟩
  have hn1 : s'.n = 1 := by
   have h1 := hs.bs.n
   have h2 := hx.1
   rw [hB] at h2
   rw [h2] at h1
   exact h1
  obtain ⟨b, o', ha, hb, hc⟩ := hs.bs.sl 0 (by simp)
  rw [Nat.add_zero] at hc
  simp only [List.getElem_cons_zero] at hc
  have HE : Hid (oneV o = x.toNat) := hx.2
  rw [hn1, ha]
  clear hB hs hx hn1 ha
  go_wp2
  go_ret
  exact ⟨by rw [HE.out]; simp [wrap64_toNat8], HF.out, HZ.out, HR.out⟩
end Go.Proofs.YtekegfbjbainhaaGreat


namespace Go.Proofs.YtekegfbjbainhaaGreat
open Go.RowKit
def entK (o : Option (List UInt8)) : List UInt8 := takeB (oneV o) (takeR 1 o)
def entO (o : Option (List UInt8)) : Option (List UInt8) := takeR (oneV o) (takeR 1 o)
def entM (lv : Nat) (o : Option (List UInt8)) : List UInt8 := if lv = 0 then takeB (oneV (entO o)) (takeR 1 (entO o)) else takeB 8 (entO o)
def entR (lv : Nat) (o : Option (List UInt8)) : Option (List UInt8) := if lv = 0 then takeR (oneV (entO o)) (takeR 1 (entO o)) else takeR 8 (entO o)
def behindK (its : List ItR) (k : List UInt8) : Bool := match its.getLast? with
 | none => true
 | some x => Op.bytesLess x.key k
def entFine (lv : Nat) (its : List ItR) (o : Option (List UInt8)) : Bool := !(lv == 0 && decide (12 < oneV (entO o))) && decide (1 ≤ oneV o) && decide (oneV o ≤ 12) && behindK its (entK o)
def itemsO (lv : Nat) : Nat → List ItR → Option (List UInt8) → Option (List ItR)
 | 0, its, o => if o = some [] then some its else none
 | _ + 1, _, none => none
 | n + 1, its, some l => if entFine lv its (some l) then itemsO lv n (its ++ [⟨entK (some l), entM lv (some l), 0⟩]) (entR lv (some l)) else none
theorem itemsO_none (lv n : Nat) (its : List ItR) : itemsO lv n its none = none := by cases n <;> simp [itemsO]
def pageF (b : List UInt8) : Option (Nat × List ItR) :=
 if oneV (some b) ≤ 6 ∧ oneV (takeR 1 (some b)) ≤ 60 ∧ (oneV (some b) = 0 ∨ oneV (takeR 1 (some b)) ≠ 0) then (itemsO (oneV (some b)) (oneV (takeR 1 (some b))) [] (takeR 1 (takeR 1 (some b)))).map (fun its => (oneV (some b), its)) else none
theorem rowV_ne {w : World} {b b' t t' : Nat} {l l' : List Value} (h : RowV w b t l) (h' : RowV w b' t' l') (hne : t ≠ t') : b ≠ b' := fun e => by
 subst e
 have e1 := h
 have e2 := h'
 unfold RowV at e1 e2
 rw [e1] at e2
 simp at e2
 exact hne e2.2
structure DecSt (w : World) (K : Nat → Prop) (wr : World) (rb pb lv : Nat) (cur : SlR) (its : List ItR) (o : Option (List UInt8)) : Prop where
 be : Below w.heap.size w wr
 rd : RdO wr K rb o
 pg : RowV wr pb 80 [.int .i64 (lv : Int), cur.val]
 qg : RowV wr w.heap.size 80 [.int .i64 0, .slice none 0 0]
 own : OwnI wr w.heap.size cur.val its
 n1 : w.heap.size < rb
 n2 : w.heap.size < pb
 n3 : rb ≠ pb
 kk : ∀ k, K k → k < w.heap.size
theorem RdO.rowNe {w : World} {K : Nat → Prop} {rb b : Nat} {o : Option (List UInt8)} {t : Nat} {l : List Value} (h : RdO w K rb o) (h' : RowV w b t l) (hne : t ≠ 77) : b ≠ rb := by
 obtain ⟨s, l, bad, h, _⟩ := h
 exact rowV_ne h' h.row hne
theorem RdO.ownNe {w : World} {K : Nat → Prop} {rb base e size n : Nat} {v : Value} {xs : List Value} {o : Option (List UInt8)} (h : RdO w K rb o) (h' : w.ownsRow base e size v n xs) (hne : e ≠ 77) : v.ownBlock ≠ some rb := by
 obtain ⟨s, l, bad, h, _⟩ := h
 exact owns_ne h' h.row hne
theorem DecSt.frame {w wr w' : World} {K S : Nat → Prop} {rb pb lv : Nat} {cur : SlR} {its : List ItR} {o : Option (List UInt8)} (h : DecSt w K wr rb pb lv cur its o) (hf : Frame S wr w') (h1 : ¬ S rb) (h2 : ¬ S pb) (h3 : ∀ k, S k → w.heap.size < k) (h4 : ∀ k, cur.val.ownBlock = some k → ¬ S k) : DecSt w K w' rb pb lv cur its o :=
 ⟨h.be.trans (hf.below h.be.size (fun k hk => Nat.le_of_lt (h3 k hk))), h.rd.frame hf h1 (fun k hk e => by have := h.kk k hk; have := h3 k e; omega), RowV.of_block h.pg (hf.block _ (RowV.lt h.pg) h2), RowV.of_block h.qg (hf.block _ (RowV.lt h.qg) (fun e => by have := h3 _ e; omega)),
  owns_frame h.own hf h4, h.n1, h.n2, h.n3, h.kk⟩
theorem DecSt.below {w wr w' : World} {K : Nat → Prop} {rb pb lv : Nat} {cur : SlR} {its : List ItR} {o : Option (List UInt8)} (h : DecSt w K wr rb pb lv cur its o) (hb : Below wr.heap.size wr w') : DecSt w K w' rb pb lv cur its o := h.frame (Frame.of_below_all (S := fun _ => False) hb) (fun e => e) (fun e => e) (fun _ e => e.elim) (fun _ _ e => e)
theorem DecSt.read {w wr w' : World} {K : Nat → Prop} {rb pb lv : Nat} {cur : SlR} {its : List ItR} {o o' : Option (List UInt8)} (h : DecSt w K wr rb pb lv cur its o) (hf : Frame (fun k => k = rb) wr w') (hr : RdO w' K rb o') : DecSt w K w' rb pb lv cur its o' :=
 ⟨h.be.trans (hf.below h.be.size (fun k hk => by have := h.n1; omega)), hr, RowV.of_block h.pg (hf.block _ (RowV.lt h.pg) (fun e => h.n3 e.symm)), RowV.of_block h.qg (hf.block _ (RowV.lt h.qg) (fun e => by have := h.n1; omega)),
  owns_frame h.own hf (fun k hk e => h.rd.ownNe h.own (by decide) (by rw [hk, e])), h.n1, h.n2, h.n3, h.kk⟩
theorem DecSt.push {w wr W w1 : World} {K : Nat → Prop} {rb pb lv : Nat} {cur cur' : SlR} {its : List ItR} {x : ItR} {o : Option (List UInt8)} (h : DecSt w K wr rb pb lv cur its o) (hb : Below wr.heap.size wr W) (ho : OwnI w1 w.heap.size cur'.val (its ++ [x])) (hf : Frame (fun k => cur.val.ownBlock = some k) W w1) :
  DecSt w K (w1.setCell ⟨pb, 1, none⟩ cur'.val) rb pb lv cur' (its ++ [x]) o := by
 have h2 := h.below hb
 have hr1 : RdO w1 K rb o := h2.rd.frame hf (fun e => h2.rd.ownNe h2.own (by decide) e) (fun k hk e => by have := h.kk k hk; have := (h.own.lt k e).1; omega)
 have hp1 : RowV w1 pb 80 [.int .i64 (lv : Int), cur.val] := RowV.of_block h2.pg (hf.block _ (RowV.lt h2.pg) (fun e => owns_ne h2.own h2.pg (by decide) e))
 have hq1 : RowV w1 w.heap.size 80 [.int .i64 0, .slice none 0 0] := RowV.of_block h2.qg (hf.block _ (RowV.lt h2.qg) (fun e => owns_ne h2.own h2.qg (by decide) e))
 have hf2 : Frame (fun k => k = pb) w1 (w1.setCell ⟨pb, 1, none⟩ cur'.val) := (Frame.refl (fun k => k = pb) _).setCell (p := ⟨pb, 1, none⟩) rfl _
 have hb1 : Below w.heap.size w w1 := h2.be.trans (hf.below h2.be.size (fun k hk => (h2.own.lt k hk).1))
 refine ⟨hb1.trans (hf2.below hb1.size (fun k hk => by have := h.n2; omega)), hr1.frame hf2 h.n3 (fun k hk e => by have := h.kk k hk; have := h.n2; omega), by simpa using RowV.set hp1 1 cur'.val, RowV.of_block hq1 (hf2.block _ (RowV.lt hq1) (fun e => by have := h.n2; omega)), owns_frame ho hf2 (fun k hk e => owns_ne ho hp1 (by decide) (by rw [hk, e])), h.n1, h.n2, h.n3, h.kk⟩
theorem DecSt.fin {w wr : World} {K : Nat → Prop} {rb pb lv : Nat} {cur : SlR} {its : List ItR} {o : Option (List UInt8)} (h : DecSt w K wr rb pb lv cur its o) :
  RowV ((wr.setCell ⟨w.heap.size, 0, none⟩ (.int .i64 (lv : Int))).setCell ⟨w.heap.size, 1, none⟩ cur.val) w.heap.size 80 [.int .i64 (lv : Int), cur.val] ∧ Below w.heap.size w ((wr.setCell ⟨w.heap.size, 0, none⟩ (.int .i64 (lv : Int))).setCell ⟨w.heap.size, 1, none⟩ cur.val) ∧
   OwnI ((wr.setCell ⟨w.heap.size, 0, none⟩ (.int .i64 (lv : Int))).setCell ⟨w.heap.size, 1, none⟩ cur.val) w.heap.size cur.val its := by
 have hf : Frame (fun k => k = w.heap.size) wr ((wr.setCell ⟨w.heap.size, 0, none⟩ (.int .i64 (lv : Int))).setCell ⟨w.heap.size, 1, none⟩ cur.val) := ((Frame.refl (fun k => k = w.heap.size) wr).setCell (p := ⟨w.heap.size, 0, none⟩) rfl _).setCell (p := ⟨w.heap.size, 1, none⟩) rfl _
 refine ⟨by simpa using (RowV.set h.qg 0 (.int .i64 (lv : Int))).set 1 cur.val, h.be.trans (hf.below h.be.size (fun k hk => by omega)), owns_frame h.own hf (fun k hk e => owns_ne h.own h.qg (by decide) (by rw [hk, e]))⟩
def decPost (w : World) (b : List UInt8) (e : Ending) (w' : World) : Prop := ∃ (lvl : Nat) (cur : SlR) (ok : Bool), e = .returned (.tuple #[.agg #[.int .i64 (lvl : Int), cur.val], .bool ok]) ∧ Below w.heap.size w w' ∧ ok = (pageF b).isSome ∧ lvl < 256 ∧ (∀ lv its, pageF b = some (lv, its) → lvl = lv ∧ OwnI w' w.heap.size cur.val its)
theorem decPost_bad {w wr : World} {K : Nat → Prop} {rb pb lv : Nat} {cur : SlR} {its : List ItR} {o : Option (List UInt8)} {b : List UInt8} (h : DecSt w K wr rb pb lv cur its o) (hb : pageF b = none) (hlv : lv < 256) :
  decPost w b (.returned (.tuple #[.agg #[.int .i64 (lv : Int), cur.val], .bool false])) ((wr.setCell ⟨w.heap.size, 0, none⟩ (.int .i64 (lv : Int))).setCell ⟨w.heap.size, 1, none⟩ cur.val) :=
 ⟨lv, cur, false, rfl, h.fin.2.1, by rw [hb]; rfl, hlv, fun a c e => by rw [hb] at e; cases e⟩
theorem decPost_ok {w wr : World} {K : Nat → Prop} {rb pb lv : Nat} {cur : SlR} {its : List ItR} {o : Option (List UInt8)} {b : List UInt8} (h : DecSt w K wr rb pb lv cur its o) (hb : pageF b = some (lv, its)) (hlv : lv < 256) :
  decPost w b (.returned (.tuple #[.agg #[.int .i64 (lv : Int), cur.val], .bool true])) ((wr.setCell ⟨w.heap.size, 0, none⟩ (.int .i64 (lv : Int))).setCell ⟨w.heap.size, 1, none⟩ cur.val) :=
 ⟨lv, cur, true, rfl, h.fin.2.1, by rw [hb]; rfl, hlv, fun a c e => by rw [hb] at e; cases e; exact ⟨rfl, h.fin.2.2⟩⟩
end Go.Proofs.YtekegfbjbainhaaGreat
