/- The book of lists of bytes: one more, and all looked at, walked. -/
import Derived.Test.YtekegfbjbainhaaGreatKJoin25
import Derived.Deep.RegionLaw
import Derived.Deep.DrawnRows
namespace Go.Proofs.YtekegfbjbainhaaGreat
set_option linter.unusedVariables false
set_option linter.unusedSimpArgs false
open Go.RowKit

def bksF : Nat → List BkR → List Value
  | _, [] => []
  | i, r :: rs => bkC r i ++ bksF (i + 1) rs
theorem bksF_length : ∀ (i : Nat) (rs : List BkR), (bksF i rs).length = rs.length * 5
  | _, [] => rfl
  | i, r :: rs => by simp [bksF, bksF_length (i + 1) rs, bkC]; omega
theorem bksF_snoc : ∀ (i : Nat) (rs : List BkR) (r : BkR), bksF i (rs ++ [r]) = bksF i rs ++ bkC r (i + rs.length)
  | i, [], r => by simp [bksF]
  | i, x :: rs, r => by
    have := bksF_snoc (i + 1) rs r
    simp only [List.cons_append, bksF, this, List.append_assoc, List.length_cons]
    rw [show i + 1 + rs.length = i + (rs.length + 1) by omega]
theorem bksF_get : ∀ (i : Nat) (rs : List BkR) (k : Nat) (h : k < rs.length) (j : Nat), j < 5 → (bksF i rs)[k * 5 + j]? = (bkC rs[k] (i + k))[j]?
  | i, [], k, h, j, hj => absurd h (Nat.not_lt_zero _)
  | i, r :: rs, 0, h, j, hj => by
    simp only [bksF, Nat.zero_mul, Nat.zero_add, Nat.add_zero, List.getElem_cons_zero]
    rw [List.getElem?_append_left (by simpa [bkC] using hj)]
  | i, r :: rs, k + 1, h, j, hj => by
    have := bksF_get (i + 1) rs k (by simpa using h) j hj
    simp only [bksF, List.getElem_cons_succ]
    rw [List.getElem?_append_right (by simp [bkC]; omega)]
    rw [show (k + 1) * 5 + j - (bkC r i).length = k * 5 + j by simp [bkC]; omega, this, show i + 1 + k = i + (k + 1) by omega]
theorem Tryz.infoBytes : (Tryz.prog.info? 60).map (fun i => (i.zero, i.size, i.bytes)) = some (some (.agg #[.slice none 0 0, .slice none 0 0, .slice none 0 0, .slice none 0 0, .int .i64 0]), 5, 104) := by kernel_rfl

/-- The book as it lies: the bytes' part. -/
structure BkAt (w : World) (bs : SlR) (rs : List BkR) : Prop where
  own : w.ownsRow 0 60 5 bs.val rs.length (bksF 0 rs)
  ok : ∀ i (h : i < rs.length), BkOk w (patB i) 1 rs[i]
  apart : ∀ r ∈ rs, ∀ k, bkF r k → bs.val.ownBlock ≠ some k
def bookF (bs : SlR) (rs : List BkR) (k : Nat) : Prop := bs.val.ownBlock = some k ∨ ∃ r ∈ rs, bkF r k
theorem BkAt.frame {w w' : World} {S : Nat → Prop} {bs : SlR} {rs : List BkR} (h : BkAt w bs rs) (hf : Frame S w w') (hS : ∀ k, bookF bs rs k → ¬ S k) : BkAt w' bs rs :=
  ⟨owns_frame h.own hf (fun k hk => hS k (Or.inl hk)), fun i hi => (h.ok i hi).frame hf (fun k hk => hS k (Or.inr ⟨rs[i], List.getElem_mem hi, hk⟩)), h.apart⟩
theorem BkAt.below {w w' : World} {bs : SlR} {rs : List BkR} (h : BkAt w bs rs) (hb : Below w.heap.size w w') : BkAt w' bs rs := h.frame (Frame.of_below_all (S := fun _ => False) hb) (fun _ _ e => e)
theorem BkAt.lt {w : World} {bs : SlR} {rs : List BkR} (h : BkAt w bs rs) : ∀ k, bookF bs rs k → k < w.heap.size := fun k hk => by
  rcases hk with hk | ⟨r, hr, hk⟩
  · exact (h.own.lt k hk).2
  · obtain ⟨i, hi, rfl⟩ := List.getElem_of_mem hr
    exact (h.ok i hi).lt k hk
theorem BkAt.nil (w : World) : BkAt w ⟨none, 0, 0⟩ [] := ⟨World.ownsRow_nil _ _ _ _, fun i h => absurd h (Nat.not_lt_zero _), fun r hr => (by cases hr)⟩

theorem book_fin {w W2 w2 : World} {wb : Nat} {ps bs ds es : SlR} {v : Value} {rs : List BkR} {r : BkR} {a2 : Option Addr} {n2 c2 : Nat} (HB : BkAt w bs rs) (HB2 : BkAt W2 bs rs) (hW3 : RowV w2 wb 34 [ps.val, bs.val, ds.val, es.val]) (HR2 : BkOk W2 (patB rs.length) 1 r) (HFR : Frame (fun k => v.ownBlock = some k) w W2)
    (HNW : ∀ k, bkF r k → ¬ bs.val.ownBlock = some k ∧ k ≠ wb) (HG : ∀ k, bkF r k → v.ownBlock = some k ∨ w.heap.size < k) (hbw : ∀ k, bookF bs rs k → k ≠ wb) (ho2 : w2.ownsRow 0 60 5 (.slice a2 n2 c2) (rs.length + 1) (bksF 0 rs ++ bkC r rs.length)) (hf2 : Frame (fun k => bs.val.ownBlock = some k) W2 w2)
    (hat2 : (Value.slice a2 n2 c2).ownBlock = bs.val.ownBlock ∨ (Value.slice a2 n2 c2).ownBlock = some W2.heap.size) :
    RowV (w2.setCell ⟨wb, 1, none⟩ (.slice a2 n2 c2)) wb 34 [ps.val, .slice a2 n2 c2, ds.val, es.val] ∧ BkAt (w2.setCell ⟨wb, 1, none⟩ (.slice a2 n2 c2)) ⟨a2, n2, c2⟩ (rs ++ [r]) ∧ Frame (fun k => k = wb ∨ v.ownBlock = some k ∨ bs.val.ownBlock = some k) w (w2.setCell ⟨wb, 1, none⟩ (.slice a2 n2 c2)) ∧
      (∀ k, bookF ⟨a2, n2, c2⟩ (rs ++ [r]) k → k < w.heap.size → bookF bs rs k ∨ v.ownBlock = some k) := by
  have hfs : Frame (fun k => k = wb) w2 (w2.setCell ⟨wb, 1, none⟩ (.slice a2 n2 c2)) := (Frame.refl (fun k => k = wb) _).setCell (p := ⟨wb, 1, none⟩) rfl _
  have hz2 := hf2.size
  have hz0 := HFR.size
  have hbl : ∀ k, (Value.slice a2 n2 c2).ownBlock = some k → bs.val.ownBlock = some k ∨ W2.heap.size ≤ k := fun k hk => by
    rcases hat2 with e | e
    · exact Or.inl (by rw [← e]; exact hk)
    · rw [e] at hk; have := Option.some.inj hk; exact Or.inr (by omega)
  have hnb : ∀ k, bkF r k → (Value.slice a2 n2 c2).ownBlock ≠ some k := fun k hk e => by
    rcases hbl k e with h | h
    · exact (HNW k hk).1 h
    · have := HR2.lt k hk; omega
  have hob : ∀ x ∈ rs, ∀ k, bkF x k → (Value.slice a2 n2 c2).ownBlock ≠ some k := fun x hx k hk e => by
    rcases hbl k e with h | h
    · exact HB.apart x hx k hk h
    · have := HB2.lt k (Or.inr ⟨x, hx, hk⟩); omega
  have hr3 : BkOk (w2.setCell ⟨wb, 1, none⟩ (.slice a2 n2 c2)) (patB rs.length) 1 r := (HR2.frame hf2 (fun k hk => (HNW k hk).1)).frame hfs (fun k hk => (HNW k hk).2)
  have ho3 : ∀ i (h : i < rs.length), BkOk (w2.setCell ⟨wb, 1, none⟩ (.slice a2 n2 c2)) (patB i) 1 rs[i] := fun i h => ((HB2.ok i h).frame hf2 (fun k hk e => HB.apart _ (List.getElem_mem h) k hk e)).frame hfs (fun k hk e => hbw k (Or.inr ⟨_, List.getElem_mem h, hk⟩) e)
  refine ⟨by simpa using hW3.set 1 (.slice a2 n2 c2), ⟨?_, ?_, ?_⟩, ?_, ?_⟩
  · rw [List.length_append, List.length_singleton, bksF_snoc, Nat.zero_add]
    exact owns_frame ho2 hfs (fun k hk e => owns_ne ho2 hW3 (by decide) (by rw [← e]; exact hk))
  · intro i hi
    by_cases hlt : i < rs.length
    · rw [List.getElem_append_left hlt]; exact ho3 i hlt
    · have : i = rs.length := by simp at hi; omega
      subst this
      rw [List.getElem_append_right (Nat.le_refl _)]
      simpa using hr3
  · intro x hx k hk
    rcases List.mem_append.1 hx with hx | hx
    · exact hob x hx k hk
    · simp only [List.mem_singleton] at hx; subst hx; exact hnb k hk
  · refine Frame.inside (Frame.inside (HFR.mono (fun k _ hk => Or.inr (Or.inl hk))) hf2 (fun k _ hk => Or.inr (Or.inr hk))) hfs (fun k _ hk => Or.inl hk)
  · intro k hk hlt
    rcases hk with hk | ⟨x, hx, hk⟩
    · rcases hbl k hk with h | h
      · exact Or.inl (Or.inl h)
      · omega
    · rcases List.mem_append.1 hx with hx | hx
      · exact Or.inl (Or.inr ⟨x, hx, hk⟩)
      · simp only [List.mem_singleton] at hx; subst hx
        rcases HG k hk with h | h
        · exact Or.inr h
        · omega

attribute [local go_sem ↓] Go.wp_at_zero Go.wp_at_succ
set_option maxRecDepth 100000 in
set_option maxHeartbeats 4000000 in
theorem book_byte (wb : Nat) (ps bs ds es v : SlR) (rs : List BkR) (L : List UInt8) (base : Nat) (w : World) (hW : RowV w wb 34 [ps.val, bs.val, ds.val, es.val]) (hB : BkAt w bs rs) (ho : OwnB w base v.val L) (hL : L.length ≤ 100000000000000) (hn : rs.length ≤ 1200000000000) (hb : base ≤ w.heap.size)
    (hvw : ∀ k, v.val.ownBlock = some k → k ≠ wb ∧ ¬ bookF bs rs k) (hbw : ∀ k, bookF bs rs k → k ≠ wb) :
    Calls Tryz.prog 18 #[.pointer (some ⟨wb, 1, none⟩), v.val] w fun e w' => e = .returned (.tuple #[]) ∧ ∃ (bs' : SlR) (r : BkR), RowV w' wb 34 [ps.val, bs'.val, ds.val, es.val] ∧ BkAt w' bs' (rs ++ [r]) ∧ Frame (fun k => k = wb ∨ v.val.ownBlock = some k ∨ bs.val.ownBlock = some k) w w' ∧ (∀ k, bookF bs' (rs ++ [r]) k → k < w.heap.size → bookF bs rs k ∨ v.val.ownBlock = some k) := by
  have hn' := (owns_cap (a := bs.a) (n' := bs.n) (cap := bs.cap) hB.own).1
  have HOB : Hid (Calls _ _ _ _ _) := ownBytes_any v L base rs.length w ho hL (by omega) hb
  have c1 : w.cell? ⟨wb, 1, none⟩ = some (.slice bs.a bs.n bs.cap) := hW.cell 1 (by simp)
  have hnI : (bs.n : Int) ≤ 1200000000000 := by rw [hn']; omega
  have HE : Hid ((rs.length : Int) = (bs.n : Int)) := by unfold Hid; rw [hn']
  rw [HE.out] at HOB
  have HWL : Hid (wb < w.heap.size) := hW.lt
  have HB : Hid (BkAt w bs rs) := hB
  have HW : Hid (RowV w wb 34 [ps.val, bs.val, ds.val, es.val]) := hW
  have HVW : Hid (∀ k, v.val.ownBlock = some k → k ≠ wb ∧ ¬ bookF bs rs k) := hvw
  have HBWB : Hid (∀ k, bookF bs rs k → k ≠ wb) := hbw
  clear hn' hW hB ho hb hL hvw hbw
  unfold SlR.val at HOB ⊢
  go_enter Tryz.func18, Tryz.ntmps18
  go_wp2_with fail
  refine HOB.out.mono ?_
  rintro e w1 ⟨r, rfl, hr1, hf1, hg1⟩
  have HVB : Hid (∀ k, bookF bs rs k → ¬ (Value.slice v.a v.n v.cap).ownBlock = some k) := fun k hk e => (HVW.out k e).2 hk
  have hB1 : BkAt w1 bs rs := HB.out.frame hf1 HVB.out
  have hW1 : RowV w1 wb 34 [ps.val, bs.val, ds.val, es.val] := HW.out.of_block (hf1.block _ HW.out.lt (fun e => (HVW.out _ e).1 rfl))
  have hbx : Below w1.heap.size w1 ((w1.alloc (.cells #[.slice r.l.a r.l.n r.l.cap, .slice r.one.a r.one.n r.one.cap, .slice r.two.a r.two.n r.two.cap, .slice r.three.a r.three.n r.three.cap, .int .i64 (rs.length : Int)] 60)).alloc (.cells #[.slice r.l.a r.l.n r.l.cap, .slice r.one.a r.one.n r.one.cap, .slice r.two.a r.two.n r.two.cap, .slice r.three.a r.three.n r.three.cap, .int .i64 (rs.length : Int)] 60)).drew := by
    have hz : Below w1.heap.size w1 ((w1.alloc (.cells #[.slice r.l.a r.l.n r.l.cap, .slice r.one.a r.one.n r.one.cap, .slice r.two.a r.two.n r.two.cap, .slice r.three.a r.three.n r.three.cap, .int .i64 (rs.length : Int)] 60)).alloc (.cells #[.slice r.l.a r.l.n r.l.cap, .slice r.one.a r.one.n r.one.cap, .slice r.two.a r.two.n r.two.cap, .slice r.three.a r.three.n r.three.cap, .int .i64 (rs.length : Int)] 60)) := ((Below.refl _ _).alloc (Nat.le_refl _) _).alloc (by simp) _
    exact ⟨hz.os, hz.tape, hz.output, hz.size, hz.block⟩
  have hB2 := hB1.below hbx
  have hW2 := hW1.below hW1.lt hbx
  have hr2 := hr1.below hbx
  have hR0 : RowV (w1.alloc (.cells #[.slice r.l.a r.l.n r.l.cap, .slice r.one.a r.one.n r.one.cap, .slice r.two.a r.two.n r.two.cap, .slice r.three.a r.three.n r.three.cap, .int .i64 (rs.length : Int)] 60)) w1.heap.size 60 [.slice r.l.a r.l.n r.l.cap, .slice r.one.a r.one.n r.one.cap, .slice r.two.a r.two.n r.two.cap, .slice r.three.a r.three.n r.three.cap, .int .i64 (rs.length : Int)] := RowV.new w1 _ _
  have x0 : (w1.alloc (.cells #[.slice r.l.a r.l.n r.l.cap, .slice r.one.a r.one.n r.one.cap, .slice r.two.a r.two.n r.two.cap, .slice r.three.a r.three.n r.three.cap, .int .i64 (rs.length : Int)] 60)).cell? ⟨w1.heap.size, 0, none⟩ = some (.slice r.l.a r.l.n r.l.cap) := hR0.cell 0 (by simp)
  have x1 : (w1.alloc (.cells #[.slice r.l.a r.l.n r.l.cap, .slice r.one.a r.one.n r.one.cap, .slice r.two.a r.two.n r.two.cap, .slice r.three.a r.three.n r.three.cap, .int .i64 (rs.length : Int)] 60)).cell? ⟨w1.heap.size, 1, none⟩ = some (.slice r.one.a r.one.n r.one.cap) := hR0.cell 1 (by simp)
  have x2 : (w1.alloc (.cells #[.slice r.l.a r.l.n r.l.cap, .slice r.one.a r.one.n r.one.cap, .slice r.two.a r.two.n r.two.cap, .slice r.three.a r.three.n r.three.cap, .int .i64 (rs.length : Int)] 60)).cell? ⟨w1.heap.size, 2, none⟩ = some (.slice r.two.a r.two.n r.two.cap) := hR0.cell 2 (by simp)
  have x3 : (w1.alloc (.cells #[.slice r.l.a r.l.n r.l.cap, .slice r.one.a r.one.n r.one.cap, .slice r.two.a r.two.n r.two.cap, .slice r.three.a r.three.n r.three.cap, .int .i64 (rs.length : Int)] 60)).cell? ⟨w1.heap.size, 3, none⟩ = some (.slice r.three.a r.three.n r.three.cap) := hR0.cell 3 (by simp)
  have x4 : (w1.alloc (.cells #[.slice r.l.a r.l.n r.l.cap, .slice r.one.a r.one.n r.one.cap, .slice r.two.a r.two.n r.two.cap, .slice r.three.a r.three.n r.three.cap, .int .i64 (rs.length : Int)] 60)).cell? ⟨w1.heap.size, 4, none⟩ = some (.int .i64 (rs.length : Int)) := hR0.cell 4 (by simp)
  have y1 : (w1.alloc (.cells #[.slice r.l.a r.l.n r.l.cap, .slice r.one.a r.one.n r.one.cap, .slice r.two.a r.two.n r.two.cap, .slice r.three.a r.three.n r.three.cap, .int .i64 (rs.length : Int)] 60)).cell? ⟨wb, 1, none⟩ = some (.slice bs.a bs.n bs.cap) := (hW1.alloc _).cell 1 (by simp)
  have y2 : ((w1.alloc (.cells #[.slice r.l.a r.l.n r.l.cap, .slice r.one.a r.one.n r.one.cap, .slice r.two.a r.two.n r.two.cap, .slice r.three.a r.three.n r.three.cap, .int .i64 (rs.length : Int)] 60)).alloc (.cells #[.slice r.l.a r.l.n r.l.cap, .slice r.one.a r.one.n r.one.cap, .slice r.two.a r.two.n r.two.cap, .slice r.three.a r.three.n r.three.cap, .int .i64 (rs.length : Int)] 60)).cell? ⟨wb, 1, none⟩ = some (.slice bs.a bs.n bs.cap) := ((hW1.alloc _).alloc _).cell 1 (by simp)
  have hR1 := hR0.alloc (.cells #[.slice r.l.a r.l.n r.l.cap, .slice r.one.a r.one.n r.one.cap, .slice r.two.a r.two.n r.two.cap, .slice r.three.a r.three.n r.three.cap, .int .i64 (rs.length : Int)] 60)
  have HOX : Hid (World.ownsRow ((w1.alloc (.cells #[.slice r.l.a r.l.n r.l.cap, .slice r.one.a r.one.n r.one.cap, .slice r.two.a r.two.n r.two.cap, .slice r.three.a r.three.n r.three.cap, .int .i64 (rs.length : Int)] 60)).alloc (.cells #[.slice r.l.a r.l.n r.l.cap, .slice r.one.a r.one.n r.one.cap, .slice r.two.a r.two.n r.two.cap, .slice r.three.a r.three.n r.three.cap, .int .i64 (rs.length : Int)] 60)).drew 0 60 5 (.slice bs.a bs.n bs.cap) rs.length (bksF 0 rs)) := hB2.own
  have HSX : Hid (SlV ((w1.alloc (.cells #[.slice r.l.a r.l.n r.l.cap, .slice r.one.a r.one.n r.one.cap, .slice r.two.a r.two.n r.two.cap, .slice r.three.a r.three.n r.three.cap, .int .i64 (rs.length : Int)] 60)).alloc (.cells #[.slice r.l.a r.l.n r.l.cap, .slice r.one.a r.one.n r.one.cap, .slice r.two.a r.two.n r.two.cap, .slice r.three.a r.three.n r.three.cap, .int .i64 (rs.length : Int)] 60)).drew (some ⟨w1.heap.size + 1, 0, none⟩) (bkC r rs.length)) := by
    have := SlV.alloc_new (w1.alloc (.cells #[.slice r.l.a r.l.n r.l.cap, .slice r.one.a r.one.n r.one.cap, .slice r.two.a r.two.n r.two.cap, .slice r.three.a r.three.n r.three.cap, .int .i64 (rs.length : Int)] 60)) (bkC r rs.length) 60
    simp only [World.size_alloc] at this
    exact this
  have H1 : Hid (∀ u ∈ bkC r rs.length, u.oneCell' = true) := fun u hu => bk_one hu
  have HB2 : Hid (BkAt ((w1.alloc (.cells #[.slice r.l.a r.l.n r.l.cap, .slice r.one.a r.one.n r.one.cap, .slice r.two.a r.two.n r.two.cap, .slice r.three.a r.three.n r.three.cap, .int .i64 (rs.length : Int)] 60)).alloc (.cells #[.slice r.l.a r.l.n r.l.cap, .slice r.one.a r.one.n r.one.cap, .slice r.two.a r.two.n r.two.cap, .slice r.three.a r.three.n r.three.cap, .int .i64 (rs.length : Int)] 60)).drew bs rs) := hB2
  have HW2 : Hid (RowV ((w1.alloc (.cells #[.slice r.l.a r.l.n r.l.cap, .slice r.one.a r.one.n r.one.cap, .slice r.two.a r.two.n r.two.cap, .slice r.three.a r.three.n r.three.cap, .int .i64 (rs.length : Int)] 60)).alloc (.cells #[.slice r.l.a r.l.n r.l.cap, .slice r.one.a r.one.n r.one.cap, .slice r.two.a r.two.n r.two.cap, .slice r.three.a r.three.n r.three.cap, .int .i64 (rs.length : Int)] 60)).drew wb 34 [ps.val, bs.val, ds.val, es.val]) := hW2
  have HR2 : Hid (BkOk ((w1.alloc (.cells #[.slice r.l.a r.l.n r.l.cap, .slice r.one.a r.one.n r.one.cap, .slice r.two.a r.two.n r.two.cap, .slice r.three.a r.three.n r.three.cap, .int .i64 (rs.length : Int)] 60)).alloc (.cells #[.slice r.l.a r.l.n r.l.cap, .slice r.one.a r.one.n r.one.cap, .slice r.two.a r.two.n r.two.cap, .slice r.three.a r.three.n r.three.cap, .int .i64 (rs.length : Int)] 60)).drew (patB rs.length) 1 r) := hr2
  have HR1 : Hid (RowV ((w1.alloc (.cells #[.slice r.l.a r.l.n r.l.cap, .slice r.one.a r.one.n r.one.cap, .slice r.two.a r.two.n r.two.cap, .slice r.three.a r.three.n r.three.cap, .int .i64 (rs.length : Int)] 60)).alloc (.cells #[.slice r.l.a r.l.n r.l.cap, .slice r.one.a r.one.n r.one.cap, .slice r.two.a r.two.n r.two.cap, .slice r.three.a r.three.n r.three.cap, .int .i64 (rs.length : Int)] 60)) w1.heap.size 60 [.slice r.l.a r.l.n r.l.cap, .slice r.one.a r.one.n r.one.cap, .slice r.two.a r.two.n r.two.cap, .slice r.three.a r.three.n r.three.cap, .int .i64 (rs.length : Int)]) := hR1
  have HG1 : Hid (∀ k, bkF r k → (Value.slice v.a v.n v.cap).ownBlock = some k ∨ w.heap.size < k) := hg1
  have HFR : Hid (Frame (fun k => (Value.slice v.a v.n v.cap).ownBlock = some k) w ((w1.alloc (.cells #[.slice r.l.a r.l.n r.l.cap, .slice r.one.a r.one.n r.one.cap, .slice r.two.a r.two.n r.two.cap, .slice r.three.a r.three.n r.three.cap, .int .i64 (rs.length : Int)] 60)).alloc (.cells #[.slice r.l.a r.l.n r.l.cap, .slice r.one.a r.one.n r.one.cap, .slice r.two.a r.two.n r.two.cap, .slice r.three.a r.three.n r.three.cap, .int .i64 (rs.length : Int)] 60)).drew) := hf1.trans (Frame.of_below_all hbx)
  have HNW : Hid (∀ k, bkF r k → ¬ bs.val.ownBlock = some k ∧ k ≠ wb) := fun k hk => by
    rcases hg1 k hk with h | h
    · exact ⟨fun e => (HVW.out k h).2 (Or.inl e), (HVW.out k h).1⟩
    · exact ⟨fun e => by have := HB.out.lt k (Or.inl e); omega, by have := HWL.out; omega⟩
  have hwb1 : wb < w1.heap.size := hW1.lt
  have hne1 : wb ≠ w1.heap.size := by omega
  have HN12 : Hid (rs.length ≤ 1200000000000) := hn
  clear hB1 hW1 hbx hB2 hW2 hr2 hR0 hR1 hf1 hg1 hr1 hn
  unfold bkC
  unfold SlR.val
  go_wp2
  go_region_law ((refine step_appendV (by rfl) (.tmp 16) (.tmp 18) 28 (by rfl) 0 60 _ 5 104 Tryz.underlying28 Tryz.infoBytes rfl (by decide) (.slice bs.a bs.n bs.cap) rs.length (bksF 0 rs) (by rfl) HOX.out ⟨w1.heap.size + 1, 0, none⟩ 1 1 (bkC r rs.length) (by rfl) rfl HSX.out H1.out (by have := HN12.out; unfold maxLen; omega) (by have := HN12.out; omega) (Nat.zero_le _) ?_; intro a2 n2 c2 w2 ho2 hf2 hat2; have hW3 := RowV.of_block HW2.out (hf2.block _ HW2.out.lt (fun e => owns_ne HOX.out HW2.out (by decide) e)); have z1 : w2.cell? ⟨wb, 1, none⟩ = some (.slice bs.a bs.n bs.cap) := RowV.cell hW3 1 (by simp); have z2 : w2.frozen? ⟨wb, 1, none⟩ = false := RowV.frozen hW3 1))
  all_goals
    go_wp2
    go_returns
    obtain ⟨q1, q2, q3, q4⟩ := book_fin (v := .slice v.a v.n v.cap) HB.out HB2.out hW3 HR2.out HFR.out HNW.out HG1.out HBWB.out ho2 hf2 hat2
    exact ⟨rfl, ⟨a2, n2, c2⟩, r, q1, q2, q3, q4⟩
end Go.Proofs.YtekegfbjbainhaaGreat
