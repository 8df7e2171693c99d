import Derived.Test.YtekegfbjbainhaaGreatKJoin16
/- All the stores that a script has made: what stands between the steps; a store more. -/
namespace Go.Proofs.YtekegfbjbainhaaGreat
set_option linter.unusedVariables false
set_option linter.unusedSimpArgs false
open Go.RowKit

/-- The three lists of the book, as the law's world has them. -/
def BkV : Type := Value × Value × Value
structure LawAt (B : BkV) (w : World) (wb : Nat) (ps : SlR) (ds : List PairD) : Prop where
  row : RowV w wb 34 [ps.val, B.1, B.2.1, B.2.2]
  own : w.ownsRow 0 55 1 ps.val ds.length (ds.map (fun d => ptrV d.pb))
  ok : ∀ d ∈ ds, PairOk w d
  low : ∀ d ∈ ds, ∀ k, d.F k → wb < k ∧ ps.val.ownBlock ≠ some k
  psb : ∀ k, ps.val.ownBlock = some k → wb < k
  apart : ∀ (i j : Nat) (d e : PairD), i ≠ j → ds[i]? = some d → ds[j]? = some e → ∀ k, d.F k → ¬ e.F k

theorem LawAt.frame {B : BkV} {w W : World} {S : Nat → Prop} {wb : Nat} {ps : SlR} {ds : List PairD} (h : LawAt B w wb ps ds) (hf : Frame S w W) (h1 : ¬ S wb) (h2 : ∀ k, ps.val.ownBlock = some k → ¬ S k) (h3 : ∀ d ∈ ds, ∀ k, d.F k → ¬ S k) : LawAt B W wb ps ds :=
  ⟨RowV.of_block h.row (hf.block _ (RowV.lt h.row) h1), owns_frame h.own hf h2, fun d hd => (h.ok d hd).frame hf (h3 d hd), h.low, h.psb, h.apart⟩
theorem LawAt.below {B : BkV} {w W : World} {wb : Nat} {ps : SlR} {ds : List PairD} (h : LawAt B w wb ps ds) (hb : Below w.heap.size w W) : LawAt B W wb ps ds := h.frame (Frame.of_below_all (S := fun _ => False) hb) (fun e => e) (fun _ _ e => e) (fun _ _ _ _ e => e)

theorem LawAt.step {B : BkV} {w w' : World} {wb : Nat} {ps : SlR} {ds : List PairD} (h : LawAt B w wb ps ds) {i : Nat} {d : PairD} (hi : ds[i]? = some d) (hs : Stepped d w w') : ∃ ds', LawAt B w' wb ps ds' ∧ ds'.length = ds.length ∧ (∀ x ∈ ds', ∀ k, x.F k → (∃ y ∈ ds, y.F k) ∨ w.heap.size ≤ k) := by
  obtain ⟨d', hp, hok, hf, hn⟩ := hs
  have hd : d ∈ ds := List.mem_of_getElem? hi
  have hil : i < ds.length := (List.getElem?_eq_some_iff.1 hi).1
  have hsz := hf.size
  have hnew : ∀ k, d'.F k → (k < w.heap.size ∧ d.F k) ∨ w.heap.size ≤ k := fun k hk => by
    by_cases hlt : k < w.heap.size
    · exact Or.inl ⟨hlt, hn k hk hlt⟩
    · exact Or.inr (by omega)
  have hget : ∀ j, (ds.set i d')[j]? = if i = j then some d' else ds[j]? := fun j => by
    rw [List.getElem?_set]
    by_cases e : i = j
    · subst e; simp [hil]
    · simp [e]
  refine ⟨ds.set i d', ⟨RowV.of_block h.row (hf.block _ (RowV.lt h.row) (fun e => by have := (h.low d hd wb e).1; omega)), ?_, ?_, ?_, h.psb, ?_⟩, by simp, ?_⟩
  · have e1 : (ds.set i d').map (fun d => ptrV d.pb) = ds.map (fun d => ptrV d.pb) := by
      rw [List.map_set, hp]
      have hg : ds[i] = d := (List.getElem?_eq_some_iff.1 hi).2
      apply List.ext_getElem?
      intro j
      rw [List.getElem?_set]
      by_cases e : i = j
      · subst e; simp [hil, hg]
      · simp [e]
    rw [List.length_set, e1]
    exact owns_frame h.own hf (fun k hk e => (h.low d hd k e).2 hk)
  · intro x hx
    obtain ⟨j, hj⟩ := List.getElem?_of_mem hx
    rw [hget] at hj
    by_cases e : i = j
    · rw [if_pos e] at hj; cases hj; exact hok
    · rw [if_neg e] at hj
      exact (h.ok x (List.mem_of_getElem? hj)).frame hf (fun k hk hk' => h.apart i j d x e hi hj k hk' hk)
  · intro x hx k hk
    obtain ⟨j, hj⟩ := List.getElem?_of_mem hx
    rw [hget] at hj
    by_cases e : i = j
    · rw [if_pos e] at hj; cases hj
      rcases hnew k hk with ⟨_, h1⟩ | h1
      · exact h.low d hd k h1
      · refine ⟨by have := RowV.lt h.row; omega, fun e => by have := (h.own.lt k e).2; omega⟩
    · rw [if_neg e] at hj
      exact h.low x (List.mem_of_getElem? hj) k hk
  · intro a b x y hab hx hy k hkx hky
    rw [hget] at hx hy
    by_cases ea : i = a
    · rw [if_pos ea] at hx; cases hx
      rw [if_neg (fun eb => hab (ea.symm.trans eb))] at hy
      have hlt := (h.ok y (List.mem_of_getElem? hy)).lay.lt k hky
      exact h.apart i b d y (fun eb => hab (ea.symm.trans eb)) hi hy k (hn k hkx hlt) hky
    · rw [if_neg ea] at hx
      by_cases eb : i = b
      · rw [if_pos eb] at hy; cases hy
        have hlt := (h.ok x (List.mem_of_getElem? hx)).lay.lt k hkx
        exact h.apart a i x d (fun e => ea e.symm) hx hi k hkx (hn k hky hlt)
      · rw [if_neg eb] at hy
        exact h.apart a b x y hab hx hy k hkx hky
  · intro x hx k hk
    obtain ⟨j, hj⟩ := List.getElem?_of_mem hx
    rw [hget] at hj
    by_cases e : i = j
    · rw [if_pos e] at hj; cases hj
      rcases hnew k hk with ⟨_, h1⟩ | h1
      · exact Or.inl ⟨d, hd, h1⟩
      · exact Or.inr h1
    · rw [if_neg e] at hj
      exact Or.inl ⟨x, List.mem_of_getElem? hj, hk⟩

/-- A pair more, of new blocks. -/
theorem LawAt.push {B : BkV} {w W W1 : World} {wb : Nat} {ps ps' : SlR} {ds : List PairD} {d : PairD} (h : LawAt B w wb ps ds) (hb : Below w.heap.size w W) (hd : PairOk W d) (hnew : ∀ k, d.F k → w.heap.size ≤ k)
    (ho : W1.ownsRow 0 55 1 ps'.val (ds.length + 1) (ds.map (fun d => ptrV d.pb) ++ [ptrV d.pb])) (hf : Frame (fun k => ps.val.ownBlock = some k) W W1) (hat : ps'.val.ownBlock = ps.val.ownBlock ∨ ps'.val.ownBlock = some W.heap.size) :
    LawAt B (W1.setCell ⟨wb, 0, none⟩ ps'.val) wb ps' (ds ++ [d]) := by
  have hW := h.below hb
  have hwb := RowV.lt h.row
  have hsz := hb.size
  have hsf := hf.size
  have hr1 : RowV W1 wb 34 [ps.val, B.1, B.2.1, B.2.2] := RowV.of_block hW.row (hf.block _ (RowV.lt hW.row) (fun e => by have := h.psb _ e; omega))
  have hf2 : Frame (fun k => k = wb) W1 (W1.setCell ⟨wb, 0, none⟩ ps'.val) := (Frame.refl (fun k => k = wb) _).setCell (p := ⟨wb, 0, none⟩) rfl _
  have hpl : ∀ k, ps'.val.ownBlock = some k → ps.val.ownBlock = some k ∨ k = W.heap.size := fun k hk => by
    rcases hat with e | e
    · exact Or.inl (by rw [← e]; exact hk)
    · rw [e] at hk; exact Or.inr (Option.some.inj hk).symm
  have hall : ∀ x ∈ ds ++ [d], PairOk W x ∧ (∀ k, x.F k → wb < k ∧ ps.val.ownBlock ≠ some k ∧ k < W.heap.size) := fun x hx => by
    rcases List.mem_append.1 hx with hx | hx
    · exact ⟨hW.ok x hx, fun k hk => ⟨(h.low x hx k hk).1, (h.low x hx k hk).2, (hW.ok x hx).lay.lt k hk⟩⟩
    · simp only [List.mem_singleton] at hx
      subst hx
      exact ⟨hd, fun k hk => ⟨by have := hnew k hk; omega, fun e => by have := (h.own.lt k e).2; have := hnew k hk; omega, hd.lay.lt k hk⟩⟩
  refine ⟨by simpa using RowV.set hr1 0 ps'.val, ?_, ?_, ?_, ?_, ?_⟩
  · rw [List.length_append, List.map_append]
    exact owns_frame ho hf2 (fun k hk e => owns_ne ho hr1 (by decide) (by rw [hk, e]))
  · intro x hx
    obtain ⟨h1, h2⟩ := hall x hx
    exact (h1.frame hf (fun k hk e => (h2 k hk).2.1 e)).frame hf2 (fun k hk e => by have := (h2 k hk).1; omega)
  · intro x hx k hk
    obtain ⟨h1, h2⟩ := hall x hx
    refine ⟨(h2 k hk).1, fun e => ?_⟩
    rcases hpl k e with e | e
    · exact (h2 k hk).2.1 e
    · have := (h2 k hk).2.2; omega
  · intro k hk
    rcases hpl k hk with e | e
    · exact h.psb k e
    · have := RowV.lt hW.row; omega
  · intro a b x y hab hx hy k hkx hky
    have hget : ∀ j z, (ds ++ [d])[j]? = some z → ds[j]? = some z ∨ (j = ds.length ∧ z = d) := fun j z hz => by
      by_cases hj : j < ds.length
      · rw [List.getElem?_append_left hj] at hz; exact Or.inl hz
      · rw [List.getElem?_append_right (by omega)] at hz
        obtain ⟨h1, h2⟩ := List.getElem?_eq_some_iff.1 hz
        simp at h1 h2
        exact Or.inr ⟨by omega, h2.symm⟩
    rcases hget a x hx with hx' | ⟨ha, ex⟩
    · rcases hget b y hy with hy' | ⟨hb', ey⟩
      · exact h.apart a b x y hab hx' hy' k hkx hky
      · have := (h.ok x (List.mem_of_getElem? hx')).lay.lt k hkx
        have := hnew k (ey ▸ hky)
        omega
    · rcases hget b y hy with hy' | ⟨hb', ey⟩
      · have := (h.ok y (List.mem_of_getElem? hy')).lay.lt k hky
        have := hnew k (ex ▸ hkx)
        omega
      · omega
end Go.Proofs.YtekegfbjbainhaaGreat

/- A step of New, walked. -/
namespace Go.Proofs.YtekegfbjbainhaaGreat
set_option linter.unusedVariables false
set_option linter.unusedSimpArgs false
open Go.RowKit

theorem Tryz.infoPairP : (Tryz.prog.info? 55).map (fun i => (i.zero, i.size, i.bytes)) = some (some (.pointer none), 1, 8) := by kernel_rfl

set_option maxRecDepth 100000 in
set_option maxHeartbeats 1000000 in
theorem free_store {B : BkV} (cs : List Value) (wb : Nat) (ps : SlR) (ds : List PairD) (w : World) (h : LawAt B w wb ps ds) (k0 : cs[0]? = some (.int .i64 2)) (hn : ds.length + 1 ≤ 17592186044416) :
    Calls Tryz.prog 19 #[.pointer (some ⟨wb, 0, none⟩), .agg cs.toArray] w fun e w' => e = .returned (.bool true) ∧ (∃ ps' d, LawAt B w' wb ps' (ds ++ [d]) ∧ (∀ k, d.F k → w.heap.size ≤ k) ∧ (∀ k, ps'.val.ownBlock = some k → ps.val.ownBlock = some k ∨ w.heap.size ≤ k)) ∧ Frame (fun k => k = wb ∨ ps.val.ownBlock = some k) w w' := by
  have hwb : wb < w.heap.size := RowV.lt h.row
  have r0 : w.cell? ⟨wb, 0, none⟩ = some (.slice ps.a ps.n ps.cap) := RowV.cell h.row 0 (by simp)
  have HB5 : Hid (Below w.heap.size w (((((w.alloc (.cells cs.toArray 43)).alloc (.cells #[.slice none 0 0, .map none, .slice none 0 0] 130)).alloc (.cells #[.slice none 0 0, .slice none 0 0, .slice none 0 0] 91)).alloc (.cells #[.pointer (some ⟨w.heap.size + 1, 0, none⟩), .pointer (some ⟨w.heap.size + 1 + 1, 0, none⟩), .slice none 0 0] 94)).alloc (.cells #[.pointer (some ⟨w.heap.size + 1 + 1 + 1, 0, none⟩)] 55))) := (((((Below.refl w.heap.size w).alloc (Nat.le_refl _) _).alloc (by simp) _).alloc (by simp; omega) _).alloc (by simp; omega) _).alloc (by simp; omega) _
  have HO : Hid ((((((w.alloc (.cells cs.toArray 43)).alloc (.cells #[.slice none 0 0, .map none, .slice none 0 0] 130)).alloc (.cells #[.slice none 0 0, .slice none 0 0, .slice none 0 0] 91)).alloc (.cells #[.pointer (some ⟨w.heap.size + 1, 0, none⟩), .pointer (some ⟨w.heap.size + 1 + 1, 0, none⟩), .slice none 0 0] 94)).alloc (.cells #[.pointer (some ⟨w.heap.size + 1 + 1 + 1, 0, none⟩)] 55)).ownsRow 0 55 1 (.slice ps.a ps.n ps.cap) ds.length (ds.map (fun d => ptrV d.pb))) := owns_below h.own HB5.out
  have HS : Hid (SlV (((((w.alloc (.cells cs.toArray 43)).alloc (.cells #[.slice none 0 0, .map none, .slice none 0 0] 130)).alloc (.cells #[.slice none 0 0, .slice none 0 0, .slice none 0 0] 91)).alloc (.cells #[.pointer (some ⟨w.heap.size + 1, 0, none⟩), .pointer (some ⟨w.heap.size + 1 + 1, 0, none⟩), .slice none 0 0] 94)).alloc (.cells #[.pointer (some ⟨w.heap.size + 1 + 1 + 1, 0, none⟩)] 55)) (some ⟨w.heap.size + 1 + 1 + 1 + 1, 0, none⟩) [.pointer (some ⟨w.heap.size + 1 + 1 + 1, 0, none⟩)]) := by
    have := SlV.alloc_new ((((w.alloc (.cells cs.toArray 43)).alloc (.cells #[.slice none 0 0, .map none, .slice none 0 0] 130)).alloc (.cells #[.slice none 0 0, .slice none 0 0, .slice none 0 0] 91)).alloc (.cells #[.pointer (some ⟨w.heap.size + 1, 0, none⟩), .pointer (some ⟨w.heap.size + 1 + 1, 0, none⟩), .slice none 0 0] 94)) [.pointer (some ⟨w.heap.size + 1 + 1 + 1, 0, none⟩)] 55
    unfold Hid; simpa only [World.size_alloc] using this
  have H1 : Hid (∀ u ∈ [Value.pointer (some ⟨w.heap.size + 1 + 1 + 1, 0, none⟩)], u.oneCell' = true) := fun u hu => by simp at hu; subst hu; rfl
  have H63 : Hid (ds.length + 1 ≤ maxLen) := by unfold Hid maxLen; omega
  have HBY : Hid ((ds.length + 1) * 8 ≤ 140737488355328) := by unfold Hid; omega
  have HR6 : Hid (∀ w6, Frame (fun k => (Value.slice ps.a ps.n ps.cap).ownBlock = some k) (((((w.alloc (.cells cs.toArray 43)).alloc (.cells #[.slice none 0 0, .map none, .slice none 0 0] 130)).alloc (.cells #[.slice none 0 0, .slice none 0 0, .slice none 0 0] 91)).alloc (.cells #[.pointer (some ⟨w.heap.size + 1, 0, none⟩), .pointer (some ⟨w.heap.size + 1 + 1, 0, none⟩), .slice none 0 0] 94)).alloc (.cells #[.pointer (some ⟨w.heap.size + 1 + 1 + 1, 0, none⟩)] 55)) w6 → RowV w6 wb 34 [ps.val, B.1, B.2.1, B.2.2]) := fun w6 hf =>
    RowV.of_block (h.below HB5.out).row (hf.block _ (RowV.lt (h.below HB5.out).row) (fun e => by have := h.psb _ e; omega))
  have HEf : Hid (∀ (a6 : Option Addr) (n6 c6 : Nat) (w6 : World), w6.ownsRow 0 55 1 (.slice a6 n6 c6) (ds.length + 1) (ds.map (fun d => ptrV d.pb) ++ [.pointer (some ⟨w.heap.size + 1 + 1 + 1, 0, none⟩)]) → Frame (fun k => (Value.slice ps.a ps.n ps.cap).ownBlock = some k) (((((w.alloc (.cells cs.toArray 43)).alloc (.cells #[.slice none 0 0, .map none, .slice none 0 0] 130)).alloc (.cells #[.slice none 0 0, .slice none 0 0, .slice none 0 0] 91)).alloc (.cells #[.pointer (some ⟨w.heap.size + 1, 0, none⟩), .pointer (some ⟨w.heap.size + 1 + 1, 0, none⟩), .slice none 0 0] 94)).alloc (.cells #[.pointer (some ⟨w.heap.size + 1 + 1 + 1, 0, none⟩)] 55)) w6 →
      ((Value.slice a6 n6 c6).ownBlock = (Value.slice ps.a ps.n ps.cap).ownBlock ∨ (Value.slice a6 n6 c6).ownBlock = some (((((w.alloc (.cells cs.toArray 43)).alloc (.cells #[.slice none 0 0, .map none, .slice none 0 0] 130)).alloc (.cells #[.slice none 0 0, .slice none 0 0, .slice none 0 0] 91)).alloc (.cells #[.pointer (some ⟨w.heap.size + 1, 0, none⟩), .pointer (some ⟨w.heap.size + 1 + 1, 0, none⟩), .slice none 0 0] 94)).alloc (.cells #[.pointer (some ⟨w.heap.size + 1 + 1 + 1, 0, none⟩)] 55)).heap.size) → (∃ ps' d, LawAt B (w6.setCell ⟨wb, 0, none⟩ (.slice a6 n6 c6)) wb ps' (ds ++ [d]) ∧ (∀ k, d.F k → w.heap.size ≤ k) ∧ (∀ k, ps'.val.ownBlock = some k → ps.val.ownBlock = some k ∨ w.heap.size ≤ k)) ∧ Frame (fun k => k = wb ∨ ps.val.ownBlock = some k) w (w6.setCell ⟨wb, 0, none⟩ (.slice a6 n6 c6))) := by
    intro a6 n6 c6 w6 ho6 hf6 hat6
    have e1 : RowV ((w.alloc (.cells cs.toArray 43)).alloc (.cells #[.slice none 0 0, .map none, .slice none 0 0] 130)) (w.heap.size + 1) 130 [.slice none 0 0, .map none, .slice none 0 0] := by
      have := RowV.new (w.alloc (.cells cs.toArray 43)) 130 [.slice none 0 0, .map none, .slice none 0 0]
      simpa only [World.size_alloc] using this
    have e2 : RowV (((w.alloc (.cells cs.toArray 43)).alloc (.cells #[.slice none 0 0, .map none, .slice none 0 0] 130)).alloc (.cells #[.slice none 0 0, .slice none 0 0, .slice none 0 0] 91)) (w.heap.size + 1 + 1) 91 [.slice none 0 0, .slice none 0 0, .slice none 0 0] := by
      have := RowV.new ((w.alloc (.cells cs.toArray 43)).alloc (.cells #[.slice none 0 0, .map none, .slice none 0 0] 130)) 91 [.slice none 0 0, .slice none 0 0, .slice none 0 0]
      simpa only [World.size_alloc] using this
    have e3 : RowV ((((w.alloc (.cells cs.toArray 43)).alloc (.cells #[.slice none 0 0, .map none, .slice none 0 0] 130)).alloc (.cells #[.slice none 0 0, .slice none 0 0, .slice none 0 0] 91)).alloc (.cells #[.pointer (some ⟨w.heap.size + 1, 0, none⟩), .pointer (some ⟨w.heap.size + 1 + 1, 0, none⟩), .slice none 0 0] 94)) (w.heap.size + 1 + 1 + 1) 94 [.pointer (some ⟨w.heap.size + 1, 0, none⟩), .pointer (some ⟨w.heap.size + 1 + 1, 0, none⟩), .slice none 0 0] := by
      have := RowV.new (((w.alloc (.cells cs.toArray 43)).alloc (.cells #[.slice none 0 0, .map none, .slice none 0 0] 130)).alloc (.cells #[.slice none 0 0, .slice none 0 0, .slice none 0 0] 91)) 94 [.pointer (some ⟨w.heap.size + 1, 0, none⟩), .pointer (some ⟨w.heap.size + 1 + 1, 0, none⟩), .slice none 0 0]
      simpa only [World.size_alloc] using this
    have hp : PairOk (((((w.alloc (.cells cs.toArray 43)).alloc (.cells #[.slice none 0 0, .map none, .slice none 0 0] 130)).alloc (.cells #[.slice none 0 0, .slice none 0 0, .slice none 0 0] 91)).alloc (.cells #[.pointer (some ⟨w.heap.size + 1, 0, none⟩), .pointer (some ⟨w.heap.size + 1 + 1, 0, none⟩), .slice none 0 0] 94)).alloc (.cells #[.pointer (some ⟨w.heap.size + 1 + 1 + 1, 0, none⟩)] 55)) (newD (w.heap.size + 1 + 1 + 1) (w.heap.size + 1) (w.heap.size + 1 + 1)) := pair_new (e3.alloc _) (((e1.alloc _).alloc _).alloc _) ((e2.alloc _).alloc _) (by omega) (by omega) (by omega)
    refine ⟨⟨⟨a6, n6, c6⟩, newD (w.heap.size + 1 + 1 + 1) (w.heap.size + 1) (w.heap.size + 1 + 1), LawAt.push (ps' := ⟨a6, n6, c6⟩) h HB5.out hp (fun k hk => ?_) ho6 hf6 hat6, ?_, ?_⟩, ?_⟩
    · have := newD_F hk; omega
    · intro k hk; have := newD_F hk; omega
    · intro k hk
      rcases hat6 with e | e
      · exact Or.inl (by show (Value.slice ps.a ps.n ps.cap).ownBlock = _; rw [← e]; exact hk)
      · have hk' : (Value.slice a6 n6 c6).ownBlock = some k := hk
        rw [e] at hk'
        have := Option.some.inj hk'
        have := HB5.out.size
        exact Or.inr (by omega)
    · exact (Frame.into (S := fun k => k = wb ∨ ps.val.ownBlock = some k) (Frame.of_below_all HB5.out) hf6 (fun k _ e => Or.inr e)).setCell (p := ⟨wb, 0, none⟩) (Or.inl rfl) _
  clear h
  go_enter Tryz.func19, Tryz.ntmps19
  go_wp2_with fail
  refine (new_any _).mono ?_
  rintro e w1 ⟨rfl, rfl⟩
  go_wp2_with (at_builtin; refine wp_appendV (by rfl) (.tmp 44) (.tmp 50) 27 (by rfl) 0 55 _ 1 8 Tryz.underlying27 Tryz.infoPairP rfl (by decide) (.slice ps.a ps.n ps.cap) ds.length (ds.map (fun d => ptrV d.pb)) (by rfl) HO.out (some ⟨w.heap.size + 1 + 1 + 1 + 1, 0, none⟩) 1 1 [.pointer (some ⟨w.heap.size + 1 + 1 + 1, 0, none⟩)] (by rfl) rfl HS.out (fun h => by cases h) H1.out H63.out HBY.out (Nat.zero_le _) ?_; intro v6 w6 ho6 hf6 hat6; obtain ⟨a6, c6, hv6, _⟩ := owns_form ho6; subst hv6; have q6 : w6.cell? ⟨wb, 0, none⟩ = some (.slice ps.a ps.n ps.cap) := RowV.cellK (HR6.out _ hf6) 0 _ rfl; have f6 : w6.frozen? ⟨wb, 0, none⟩ = false := RowV.frozen (HR6.out _ hf6) 0)
  go_ret
  exact ⟨rfl, HEf.out _ _ _ _ ho6 hf6 hat6⟩
end Go.Proofs.YtekegfbjbainhaaGreat
