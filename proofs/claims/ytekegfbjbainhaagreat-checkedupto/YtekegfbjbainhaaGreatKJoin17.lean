import Derived.Test.YtekegfbjbainhaaGreatKJoin15
set_option linter.unusedVariables false
set_option linter.unusedSimpArgs false

namespace Go.Proofs.YtekegfbjbainhaaGreat
open Go.RowKit
set_option maxRecDepth 100000 in
theorem new_any (w : World) : Calls Tryz.prog 36 #[] w fun e w' => e = .returned (.pointer (some ⟨w.heap.size, 0, none⟩)) ∧ w' = w.alloc (.cells #[.slice none 0 0, .map none, .slice none 0 0] 130) := by
 go_enter Tryz.func36, Tryz.ntmps36
 go_wp2
 go_ret
 exact ⟨rfl, rfl⟩
def newD (pb sb rb : Nat) : PairD := ⟨pb, sb, rb, ⟨none, 0, 0⟩, 0, [], 0, ⟨none, 0, 0⟩, ⟨none, 0, 0⟩, none, [], [], [], [], ⟨none, 0, 0⟩, ⟨none, 0, 0⟩, ⟨none, 0, 0⟩, [], [], [], [], []⟩
theorem newD_F {pb sb rb k : Nat} (h : (newD pb sb rb).F k) : k = pb ∨ k = sb ∨ k = rb := by
 rcases h with (h | h) | h | h
 ·exact Or.inl h
 ·cases h
 ·rcases h with ((h | h | ⟨e, he, _⟩) | (h | ⟨x, hx, _⟩) | ⟨e, he, _⟩ | h | ⟨nd, hn, _⟩) | ⟨L, hL, _⟩
  ·exact Or.inr (Or.inl h)
  ·cases h
  ·cases he
  ·cases h
  ·cases hx
  ·cases he
  ·cases h
  ·cases hn
  ·cases hL
 ·rcases h with h | h | h | h | ⟨q, hq, _⟩
  ·exact Or.inr (Or.inr h)
  ·cases h
  ·cases h
  ·cases h
  ·cases hq
theorem newD_s {pb sb rb k : Nat} (h : (newD pb sb rb).sF k) : k = sb := by
 rcases h with ((h | h | ⟨e, he, _⟩) | (h | ⟨x, hx, _⟩) | ⟨e, he, _⟩ | h | ⟨nd, hn, _⟩) | ⟨L, hL, _⟩
 ·exact h
 ·cases h
 ·cases he
 ·cases h
 ·cases hx
 ·cases he
 ·cases h
 ·cases hn
 ·cases hL
theorem newD_r {pb sb rb k : Nat} (h : (newD pb sb rb).rF k) : k = rb := by
 rcases h with h | h | h | h | ⟨q, hq, _⟩
 ·exact h
 ·cases h
 ·cases h
 ·cases h
 ·cases hq
theorem newD_o {pb sb rb k : Nat} (h : (newD pb sb rb).oF k) : k = pb := by
 rcases h with h | h
 ·exact h
 ·cases h
theorem pair_new {w : World} {pb sb rb : Nat} (h1 : RowV w pb 94 [ptrV sb, ptrV rb, .slice none 0 0]) (h2 : RowV w sb 130 [.slice none 0 0, .map none, .slice none 0 0]) (h3 : RowV w rb 91 [.slice none 0 0, .slice none 0 0, .slice none 0 0])
  (n1 : pb ≠ sb) (n2 : pb ≠ rb) (n3 : sb ≠ rb) : PairOk w (newD pb sb rb) := by
 refine ⟨⟨h1, World.ownsRow_nil _ _ _ _, ⟨h2, ⟨rfl, fun e he => (by cases he), fun e he => (by cases he), fun e he => (by cases he), ?_, fun e he => (by cases he), fun e he => (by cases he), fun e he => (by cases he), List.nodup_nil⟩, ⟨World.ownsRow_nil _ _ _ _, rfl, fun i h _ => absurd h (by simp [newD])⟩, ?_, World.ownsRow_nil _ _ _ _, ?_, fun nd hn => (by cases hn), List.Pairwise.nil, fun x hx => (by cases hx), fun x hx => (by cases hx), by simp [newD]⟩,
  ⟨h3, World.ownsRow_nil _ _ _ _, World.ownsRow_nil _ _ _ _, fun q hq => (by cases hq), World.ownsRow_nil _ _ _ _, fun x hx => (by cases hx)⟩, ⟨fun L hL => (by cases hL), rfl, rfl, fun i L p nd e1 => (by simp [newD] at e1)⟩, ?_, ?_, ?_⟩, rfl, rfl, rfl, rfl, by simp [newD], by simp [newD], rfl, rfl⟩
 ·intro i j e f _ he
  simp [newD] at he
 ·intro k hk
  rcases hk with hk | ⟨x, hx, _⟩
  ·cases hk
  ·cases hx
 ·intro k hk
  cases hk
 ·intro k hk hk'
  exact n1 ((newD_o hk).symm.trans (newD_s hk'))
 ·intro k hk hk'
  exact n2 ((newD_o hk).symm.trans (newD_r hk'))
 ·intro k hk hk'
  exact n3 ((newD_s hk).symm.trans (newD_r hk'))
end Go.Proofs.YtekegfbjbainhaaGreat


namespace Go.Proofs.YtekegfbjbainhaaGreat
open Go.RowKit
def BkV : Type := Value × Value × Value
structure LawAt (B : BkV) (w : World) (wb : Nat) (ps : SlR) (ds : List PairD) : Prop where
 row : RowV w wb 34 [ps.val, B.1, B.2.1, B.2.2]
 own : w.ownsRow 0 55 1 ps.val ds.length (ds.map (fun d => ptrV d.pb))
 ok : ∀ d ∈ ds, PairOk w d
 low : ∀ d ∈ ds, ∀ k, d.F k → wb < k ∧ ps.val.ownBlock ≠ some k
 psb : ∀ k, ps.val.ownBlock = some k → wb < k
 apart : ∀ (i j : Nat) (d e : PairD), i ≠ j → ds[i]? = some d → ds[j]? = some e → ∀ k, d.F k → ¬ e.F k
theorem LawAt.frame {B : BkV} {w W : World} {S : Nat → Prop} {wb : Nat} {ps : SlR} {ds : List PairD} (h : LawAt B w wb ps ds) (hf : Frame S w W) (h1 : ¬ S wb) (h2 : ∀ k, ps.val.ownBlock = some k → ¬ S k) (h3 : ∀ d ∈ ds, ∀ k, d.F k → ¬ S k) : LawAt B W wb ps ds :=
 ⟨RowV.of_block h.row (hf.block _ (RowV.lt h.row) h1), owns_frame h.own hf h2, fun d hd => (h.ok d hd).frame hf (h3 d hd), h.low, h.psb, h.apart⟩
theorem LawAt.below {B : BkV} {w W : World} {wb : Nat} {ps : SlR} {ds : List PairD} (h : LawAt B w wb ps ds) (hb : Below w.heap.size w W) : LawAt B W wb ps ds := h.frame (Frame.of_below_all (S := fun _ => False) hb) (fun e => e) (fun _ _ e => e) (fun _ _ _ _ e => e)
theorem LawAt.step {B : BkV} {w w' : World} {wb : Nat} {ps : SlR} {ds : List PairD} (h : LawAt B w wb ps ds) {i : Nat} {d : PairD} (hi : ds[i]? = some d) (hs : Stepped d w w') : ∃ ds', LawAt B w' wb ps ds' ∧ ds'.length = ds.length ∧ (∀ x ∈ ds', ∀ k, x.F k → (∃ y ∈ ds, y.F k) ∨ w.heap.size ≤ k) := by
 obtain ⟨d', hp, hok, hf, hn⟩ := hs
 have hd : d ∈ ds := List.mem_of_getElem? hi
 have hil : i < ds.length := (List.getElem?_eq_some_iff.1 hi).1
 have hsz := hf.size
 have hnew : ∀ k, d'.F k → (k < w.heap.size ∧ d.F k) ∨ w.heap.size ≤ k := fun k hk => by
  by_cases hlt : k < w.heap.size
  ·exact Or.inl ⟨hlt, hn k hk hlt⟩
  ·exact Or.inr (by omega)
 have hget : ∀ j, (ds.set i d')[j]? = if i = j then some d' else ds[j]? := fun j => by
  rw [List.getElem?_set]
  by_cases e : i = j
  ·subst e; simp [hil]
  ·simp [e]
 refine ⟨ds.set i d', ⟨RowV.of_block h.row (hf.block _ (RowV.lt h.row) (fun e => by have := (h.low d hd wb e).1; omega)), ?_, ?_, ?_, h.psb, ?_⟩, by simp, ?_⟩
 ·have e1 : (ds.set i d').map (fun d => ptrV d.pb) = ds.map (fun d => ptrV d.pb) := by
   rw [List.map_set, hp]
   have hg : ds[i] = d := (List.getElem?_eq_some_iff.1 hi).2
   apply List.ext_getElem?
   intro j
   rw [List.getElem?_set]
   by_cases e : i = j
   ·subst e; simp [hil, hg]
   ·simp [e]
  rw [List.length_set, e1]
  exact owns_frame h.own hf (fun k hk e => (h.low d hd k e).2 hk)
 ·intro x hx
  obtain ⟨j, hj⟩ := List.getElem?_of_mem hx
  rw [hget] at hj
  by_cases e : i = j
  ·rw [if_pos e] at hj; cases hj; exact hok
  ·rw [if_neg e] at hj
   exact (h.ok x (List.mem_of_getElem? hj)).frame hf (fun k hk hk' => h.apart i j d x e hi hj k hk' hk)
 ·intro x hx k hk
  obtain ⟨j, hj⟩ := List.getElem?_of_mem hx
  rw [hget] at hj
  by_cases e : i = j
  ·rw [if_pos e] at hj; cases hj
   rcases hnew k hk with ⟨_, h1⟩ | h1
   ·exact h.low d hd k h1
   ·refine ⟨by have := RowV.lt h.row; omega, fun e => by have := (h.own.lt k e).2; omega⟩
  ·rw [if_neg e] at hj
   exact h.low x (List.mem_of_getElem? hj) k hk
 ·intro a b x y hab hx hy k hkx hky
  rw [hget] at hx hy
  by_cases ea : i = a
  ·rw [if_pos ea] at hx; cases hx
   rw [if_neg (fun eb => hab (ea.symm.trans eb))] at hy
   have hlt := (h.ok y (List.mem_of_getElem? hy)).lay.lt k hky
   exact h.apart i b d y (fun eb => hab (ea.symm.trans eb)) hi hy k (hn k hkx hlt) hky
  ·rw [if_neg ea] at hx
   by_cases eb : i = b
   ·rw [if_pos eb] at hy; cases hy
    have hlt := (h.ok x (List.mem_of_getElem? hx)).lay.lt k hkx
    exact h.apart a i x d (fun e => ea e.symm) hx hi k hkx (hn k hky hlt)
   ·rw [if_neg eb] at hy
    exact h.apart a b x y hab hx hy k hkx hky
 ·intro x hx k hk
  obtain ⟨j, hj⟩ := List.getElem?_of_mem hx
  rw [hget] at hj
  by_cases e : i = j
  ·rw [if_pos e] at hj; cases hj
   rcases hnew k hk with ⟨_, h1⟩ | h1
   ·exact Or.inl ⟨d, hd, h1⟩
   ·exact Or.inr h1
  ·rw [if_neg e] at hj
   exact Or.inl ⟨x, List.mem_of_getElem? hj, hk⟩
theorem LawAt.push {B : BkV} {w W W1 : World} {wb : Nat} {ps ps' : SlR} {ds : List PairD} {d : PairD} (h : LawAt B w wb ps ds) (hb : Below w.heap.size w W) (hd : PairOk W d) (hnew : ∀ k, d.F k → w.heap.size ≤ k)
  (ho : W1.ownsRow 0 55 1 ps'.val (ds.length + 1) (ds.map (fun d => ptrV d.pb) ++ [ptrV d.pb])) (hf : Frame (fun k => ps.val.ownBlock = some k) W W1) (hat : ps'.val.ownBlock = ps.val.ownBlock ∨ ps'.val.ownBlock = some W.heap.size) :
  LawAt B (W1.setCell ⟨wb, 0, none⟩ ps'.val) wb ps' (ds ++ [d]) := by
 have hW := h.below hb
 have hwb := RowV.lt h.row
 have hsz := hb.size
 have hsf := hf.size
 have hr1 : RowV W1 wb 34 [ps.val, B.1, B.2.1, B.2.2] := RowV.of_block hW.row (hf.block _ (RowV.lt hW.row) (fun e => by have := h.psb _ e; omega))
 have hf2 : Frame (fun k => k = wb) W1 (W1.setCell ⟨wb, 0, none⟩ ps'.val) := (Frame.refl (fun k => k = wb) _).setCell (p := ⟨wb, 0, none⟩) rfl _
 have hpl : ∀ k, ps'.val.ownBlock = some k → ps.val.ownBlock = some k ∨ k = W.heap.size := fun k hk => by
  rcases hat with e | e
  ·exact Or.inl (by rw [← e]; exact hk)
  ·rw [e] at hk; exact Or.inr (Option.some.inj hk).symm
 have hall : ∀ x ∈ ds ++ [d], PairOk W x ∧ (∀ k, x.F k → wb < k ∧ ps.val.ownBlock ≠ some k ∧ k < W.heap.size) := fun x hx => by
  rcases List.mem_append.1 hx with hx | hx
  ·exact ⟨hW.ok x hx, fun k hk => ⟨(h.low x hx k hk).1, (h.low x hx k hk).2, (hW.ok x hx).lay.lt k hk⟩⟩
  ·simp only [List.mem_singleton] at hx
   subst hx
   exact ⟨hd, fun k hk => ⟨by have := hnew k hk; omega, fun e => by have := (h.own.lt k e).2; have := hnew k hk; omega, hd.lay.lt k hk⟩⟩
 refine ⟨by simpa using RowV.set hr1 0 ps'.val, ?_, ?_, ?_, ?_, ?_⟩
 ·rw [List.length_append, List.map_append]
  exact owns_frame ho hf2 (fun k hk e => owns_ne ho hr1 (by decide) (by rw [hk, e]))
 ·intro x hx
  obtain ⟨h1, h2⟩ := hall x hx
  exact (h1.frame hf (fun k hk e => (h2 k hk).2.1 e)).frame hf2 (fun k hk e => by have := (h2 k hk).1; omega)
 ·intro x hx k hk
  obtain ⟨h1, h2⟩ := hall x hx
  refine ⟨(h2 k hk).1, fun e => ?_⟩
  rcases hpl k e with e | e
  ·exact (h2 k hk).2.1 e
  ·have := (h2 k hk).2.2; omega
 ·intro k hk
  rcases hpl k hk with e | e
  ·exact h.psb k e
  ·have := RowV.lt hW.row; omega
 ·intro a b x y hab hx hy k hkx hky
  have hget : ∀ j z, (ds ++ [d])[j]? = some z → ds[j]? = some z ∨ (j = ds.length ∧ z = d) := fun j z hz => by
   by_cases hj : j < ds.length
   ·rw [List.getElem?_append_left hj] at hz; exact Or.inl hz
   ·rw [List.getElem?_append_right (by omega)] at hz
    obtain ⟨h1, h2⟩ := List.getElem?_eq_some_iff.1 hz
    simp at h1 h2
    exact Or.inr ⟨by omega, h2.symm⟩
  rcases hget a x hx with hx' | ⟨ha, ex⟩
  ·rcases hget b y hy with hy' | ⟨hb', ey⟩
   ·exact h.apart a b x y hab hx' hy' k hkx hky
   ·have := (h.ok x (List.mem_of_getElem? hx')).lay.lt k hkx
    have := hnew k (ey ▸ hky)
    omega
  ·rcases hget b y hy with hy' | ⟨hb', ey⟩
   ·have := (h.ok y (List.mem_of_getElem? hy')).lay.lt k hky
    have := hnew k (ex ▸ hkx)
    omega
   ·omega
end Go.Proofs.YtekegfbjbainhaaGreat


namespace Go.Proofs.YtekegfbjbainhaaGreat
open Go.RowKit
theorem Tryz.infoPairP : (Tryz.prog.info? 55).map (fun i => (i.zero, i.size, i.bytes)) = some (some (.pointer none), 1, 8) := by kernel_rfl
set_option maxRecDepth 100000 in
set_option maxHeartbeats 1000000 in
theorem free_store {B : BkV} (cs : List Value) (wb : Nat) (ps : SlR) (ds : List PairD) (w : World) (h : LawAt B w wb ps ds) (k0 : cs[0]? = some (.int .i64 2)) (hn : ds.length + 1 ≤ 17592186044416) :
  Calls Tryz.prog 19 #[.pointer (some ⟨wb, 0, none⟩), .agg cs.toArray] w fun e w' => e = .returned (.bool true) ∧ (∃ ps' d, LawAt B w' wb ps' (ds ++ [d]) ∧ (∀ k, d.F k → w.heap.size ≤ k) ∧ (∀ k, ps'.val.ownBlock = some k → ps.val.ownBlock = some k ∨ w.heap.size ≤ k)) ∧ Frame (fun k => k = wb ∨ ps.val.ownBlock = some k) w w' := by
 have hwb : wb < w.heap.size := RowV.lt h.row
 have r0 : w.cell? ⟨wb, 0, none⟩ = some (.slice ps.a ps.n ps.cap) := RowV.cell h.row 0 (by simp)
 have HB5 : Hid (Below w.heap.size w (((((w.alloc (.cells cs.toArray 43)).alloc (.cells #[.slice none 0 0, .map none, .slice none 0 0] 130)).alloc (.cells #[.slice none 0 0, .slice none 0 0, .slice none 0 0] 91)).alloc (.cells #[.pointer (some ⟨w.heap.size + 1, 0, none⟩), .pointer (some ⟨w.heap.size + 1 + 1, 0, none⟩), .slice none 0 0] 94)).alloc (.cells #[.pointer (some ⟨w.heap.size + 1 + 1 + 1, 0, none⟩)] 55))) := (((((Below.refl w.heap.size w).alloc (Nat.le_refl _) _).alloc (by simp) _).alloc (by simp; omega) _).alloc (by simp; omega) _).alloc (by simp; omega) _
 have HO : Hid ((((((w.alloc (.cells cs.toArray 43)).alloc (.cells #[.slice none 0 0, .map none, .slice none 0 0] 130)).alloc (.cells #[.slice none 0 0, .slice none 0 0, .slice none 0 0] 91)).alloc (.cells #[.pointer (some ⟨w.heap.size + 1, 0, none⟩), .pointer (some ⟨w.heap.size + 1 + 1, 0, none⟩), .slice none 0 0] 94)).alloc (.cells #[.pointer (some ⟨w.heap.size + 1 + 1 + 1, 0, none⟩)] 55)).ownsRow 0 55 1 (.slice ps.a ps.n ps.cap) ds.length (ds.map (fun d => ptrV d.pb))) := owns_below h.own HB5.out
 have HS : Hid (SlV (((((w.alloc (.cells cs.toArray 43)).alloc (.cells #[.slice none 0 0, .map none, .slice none 0 0] 130)).alloc (.cells #[.slice none 0 0, .slice none 0 0, .slice none 0 0] 91)).alloc (.cells #[.pointer (some ⟨w.heap.size + 1, 0, none⟩), .pointer (some ⟨w.heap.size + 1 + 1, 0, none⟩), .slice none 0 0] 94)).alloc (.cells #[.pointer (some ⟨w.heap.size + 1 + 1 + 1, 0, none⟩)] 55)) (some ⟨w.heap.size + 1 + 1 + 1 + 1, 0, none⟩) [.pointer (some ⟨w.heap.size + 1 + 1 + 1, 0, none⟩)]) := by
  have := SlV.alloc_new ((((w.alloc (.cells cs.toArray 43)).alloc (.cells #[.slice none 0 0, .map none, .slice none 0 0] 130)).alloc (.cells #[.slice none 0 0, .slice none 0 0, .slice none 0 0] 91)).alloc (.cells #[.pointer (some ⟨w.heap.size + 1, 0, none⟩), .pointer (some ⟨w.heap.size + 1 + 1, 0, none⟩), .slice none 0 0] 94)) [.pointer (some ⟨w.heap.size + 1 + 1 + 1, 0, none⟩)] 55
  unfold Hid; simpa only [World.size_alloc] using this
 have H1 : Hid (∀ u ∈ [Value.pointer (some ⟨w.heap.size + 1 + 1 + 1, 0, none⟩)], u.oneCell' = true) := fun u hu => by simp at hu; subst hu; rfl
 have H63 : Hid (ds.length + 1 ≤ maxLen) := by unfold Hid maxLen; omega
 have HBY : Hid ((ds.length + 1) * 8 ≤ 140737488355328) := by unfold Hid; omega
 have HR6 : Hid (∀ w6, Frame (fun k => (Value.slice ps.a ps.n ps.cap).ownBlock = some k) (((((w.alloc (.cells cs.toArray 43)).alloc (.cells #[.slice none 0 0, .map none, .slice none 0 0] 130)).alloc (.cells #[.slice none 0 0, .slice none 0 0, .slice none 0 0] 91)).alloc (.cells #[.pointer (some ⟨w.heap.size + 1, 0, none⟩), .pointer (some ⟨w.heap.size + 1 + 1, 0, none⟩), .slice none 0 0] 94)).alloc (.cells #[.pointer (some ⟨w.heap.size + 1 + 1 + 1, 0, none⟩)] 55)) w6 → RowV w6 wb 34 [ps.val, B.1, B.2.1, B.2.2]) := fun w6 hf =>
  RowV.of_block (h.below HB5.out).row (hf.block _ (RowV.lt (h.below HB5.out).row) (fun e => by have := h.psb _ e; omega))
 have HEf : Hid (∀ (a6 : Option Addr) (n6 c6 : Nat) (w6 : World), w6.ownsRow 0 55 1 (.slice a6 n6 c6) (ds.length + 1) (ds.map (fun d => ptrV d.pb) ++ [.pointer (some ⟨w.heap.size + 1 + 1 + 1, 0, none⟩)]) → Frame (fun k => (Value.slice ps.a ps.n ps.cap).ownBlock = some k) (((((w.alloc (.cells cs.toArray 43)).alloc (.cells #[.slice none 0 0, .map none, .slice none 0 0] 130)).alloc (.cells #[.slice none 0 0, .slice none 0 0, .slice none 0 0] 91)).alloc (.cells #[.pointer (some ⟨w.heap.size + 1, 0, none⟩), .pointer (some ⟨w.heap.size + 1 + 1, 0, none⟩), .slice none 0 0] 94)).alloc (.cells #[.pointer (some ⟨w.heap.size + 1 + 1 + 1, 0, none⟩)] 55)) w6 →
   ((Value.slice a6 n6 c6).ownBlock = (Value.slice ps.a ps.n ps.cap).ownBlock ∨ (Value.slice a6 n6 c6).ownBlock = some (((((w.alloc (.cells cs.toArray 43)).alloc (.cells #[.slice none 0 0, .map none, .slice none 0 0] 130)).alloc (.cells #[.slice none 0 0, .slice none 0 0, .slice none 0 0] 91)).alloc (.cells #[.pointer (some ⟨w.heap.size + 1, 0, none⟩), .pointer (some ⟨w.heap.size + 1 + 1, 0, none⟩), .slice none 0 0] 94)).alloc (.cells #[.pointer (some ⟨w.heap.size + 1 + 1 + 1, 0, none⟩)] 55)).heap.size) → (∃ ps' d, LawAt B (w6.setCell ⟨wb, 0, none⟩ (.slice a6 n6 c6)) wb ps' (ds ++ [d]) ∧ (∀ k, d.F k → w.heap.size ≤ k) ∧ (∀ k, ps'.val.ownBlock = some k → ps.val.ownBlock = some k ∨ w.heap.size ≤ k)) ∧ Frame (fun k => k = wb ∨ ps.val.ownBlock = some k) w (w6.setCell ⟨wb, 0, none⟩ (.slice a6 n6 c6))) := by
  intro a6 n6 c6 w6 ho6 hf6 hat6
  have e1 : RowV ((w.alloc (.cells cs.toArray 43)).alloc (.cells #[.slice none 0 0, .map none, .slice none 0 0] 130)) (w.heap.size + 1) 130 [.slice none 0 0, .map none, .slice none 0 0] := by
   have := RowV.new (w.alloc (.cells cs.toArray 43)) 130 [.slice none 0 0, .map none, .slice none 0 0]
   simpa only [World.size_alloc] using this
  have e2 : RowV (((w.alloc (.cells cs.toArray 43)).alloc (.cells #[.slice none 0 0, .map none, .slice none 0 0] 130)).alloc (.cells #[.slice none 0 0, .slice none 0 0, .slice none 0 0] 91)) (w.heap.size + 1 + 1) 91 [.slice none 0 0, .slice none 0 0, .slice none 0 0] := by
   have := RowV.new ((w.alloc (.cells cs.toArray 43)).alloc (.cells #[.slice none 0 0, .map none, .slice none 0 0] 130)) 91 [.slice none 0 0, .slice none 0 0, .slice none 0 0]
   simpa only [World.size_alloc] using this
  have e3 : RowV ((((w.alloc (.cells cs.toArray 43)).alloc (.cells #[.slice none 0 0, .map none, .slice none 0 0] 130)).alloc (.cells #[.slice none 0 0, .slice none 0 0, .slice none 0 0] 91)).alloc (.cells #[.pointer (some ⟨w.heap.size + 1, 0, none⟩), .pointer (some ⟨w.heap.size + 1 + 1, 0, none⟩), .slice none 0 0] 94)) (w.heap.size + 1 + 1 + 1) 94 [.pointer (some ⟨w.heap.size + 1, 0, none⟩), .pointer (some ⟨w.heap.size + 1 + 1, 0, none⟩), .slice none 0 0] := by
   have := RowV.new (((w.alloc (.cells cs.toArray 43)).alloc (.cells #[.slice none 0 0, .map none, .slice none 0 0] 130)).alloc (.cells #[.slice none 0 0, .slice none 0 0, .slice none 0 0] 91)) 94 [.pointer (some ⟨w.heap.size + 1, 0, none⟩), .pointer (some ⟨w.heap.size + 1 + 1, 0, none⟩), .slice none 0 0]
   simpa only [World.size_alloc] using this
  have hp : PairOk (((((w.alloc (.cells cs.toArray 43)).alloc (.cells #[.slice none 0 0, .map none, .slice none 0 0] 130)).alloc (.cells #[.slice none 0 0, .slice none 0 0, .slice none 0 0] 91)).alloc (.cells #[.pointer (some ⟨w.heap.size + 1, 0, none⟩), .pointer (some ⟨w.heap.size + 1 + 1, 0, none⟩), .slice none 0 0] 94)).alloc (.cells #[.pointer (some ⟨w.heap.size + 1 + 1 + 1, 0, none⟩)] 55)) (newD (w.heap.size + 1 + 1 + 1) (w.heap.size + 1) (w.heap.size + 1 + 1)) := pair_new (e3.alloc _) (((e1.alloc _).alloc _).alloc _) ((e2.alloc _).alloc _) (by omega) (by omega) (by omega)
  refine ⟨⟨⟨a6, n6, c6⟩, newD (w.heap.size + 1 + 1 + 1) (w.heap.size + 1) (w.heap.size + 1 + 1), LawAt.push (ps' := ⟨a6, n6, c6⟩) h HB5.out hp (fun k hk => ?_) ho6 hf6 hat6, ?_, ?_⟩, ?_⟩
  ·have := newD_F hk; omega
  ·intro k hk; have := newD_F hk; omega
  ·intro k hk
   rcases hat6 with e | e
   ·exact Or.inl (by show (Value.slice ps.a ps.n ps.cap).ownBlock = _; rw [← e]; exact hk)
   ·have hk' : (Value.slice a6 n6 c6).ownBlock = some k := hk
    rw [e] at hk'
    have := Option.some.inj hk'
    have := HB5.out.size
    exact Or.inr (by omega)
  ·exact (Frame.into (S := fun k => k = wb ∨ ps.val.ownBlock = some k) (Frame.of_below_all HB5.out) hf6 (fun k _ e => Or.inr e)).setCell (p := ⟨wb, 0, none⟩) (Or.inl rfl) _
 clear h
 go_enter Tryz.func19, Tryz.ntmps19
 go_wp2_with fail
 refine (new_any _).mono ?_
 rintro e w1 ⟨rfl, rfl⟩
 go_wp2_with (at_builtin; refine wp_appendV (by rfl) (.tmp 44) (.tmp 50) 27 (by rfl) 0 55 _ 1 8 Tryz.underlying27 Tryz.infoPairP rfl (by decide) (.slice ps.a ps.n ps.cap) ds.length (ds.map (fun d => ptrV d.pb)) (by rfl) HO.out (some ⟨w.heap.size + 1 + 1 + 1 + 1, 0, none⟩) 1 1 [.pointer (some ⟨w.heap.size + 1 + 1 + 1, 0, none⟩)] (by rfl) rfl HS.out (fun h => by cases h) H1.out H63.out HBY.out (Nat.zero_le _) ?_; intro v6 w6 ho6 hf6 hat6; obtain ⟨a6, c6, hv6, _⟩ := owns_form ho6; subst hv6; have q6 : w6.cell? ⟨wb, 0, none⟩ = some (.slice ps.a ps.n ps.cap) := RowV.cellK (HR6.out _ hf6) 0 _ rfl; have f6 : w6.frozen? ⟨wb, 0, none⟩ = false := RowV.frozen (HR6.out _ hf6) 0)
 go_ret
 exact ⟨rfl, HEf.out _ _ _ _ ho6 hf6 hat6⟩
end Go.Proofs.YtekegfbjbainhaaGreat


namespace Go.Proofs.YtekegfbjbainhaaGreat
open Go.RowKit
theorem tmod_nat (y n : Nat) : Int.tmod (y : Int) (n : Int) = ((y % n : Nat) : Int) := by
 rw [Int.tmod_eq_emod_of_nonneg (by omega)]; simp
def pickN (x : Int) (n : Nat) : Nat := (if x < 0 then (-(x + 1)).toNat else x.toNat) % n
theorem pickN_lt (x : Int) (n : Nat) (h : 1 ≤ n) : pickN x n < n := Nat.mod_lt _ (by omega)
set_option maxRecDepth 100000 in
theorem pick_any (x : Int) (n : Nat) (w : World) (h1 : -9223372036854775808 ≤ x) (h2 : x ≤ 9223372036854775807) (hn : 1 ≤ n) (hm : n ≤ maxLen) :
  Calls Tryz.prog 20 #[.int .i64 x, .int .i64 (n : Int)] w fun e w' => e = .returned (.int .i64 (pickN x n : Int)) ∧ w' = w := by
 unfold maxLen at hm
 have hn0 : ((n : Int) == 0) = false := by simp; omega
 have hn1 : ((n : Int) == -1) = false := by simp
 by_cases hx : x < 0
 ·have e1 : IntKind.i64.wrap (x + 1) = x + 1 := by simp only [IntKind.wrap_i64]; omega
  have e2 : IntKind.i64.wrap (-(x + 1)) = -(x + 1) := by simp only [IntKind.wrap_i64]; omega
  have HI : Hid (Int.tmod (-(x + 1)) n = (pickN x n : Int)) := by
   unfold Hid pickN
   rw [if_pos hx]
   obtain ⟨y, hy⟩ : ∃ y : Nat, -(x + 1) = (y : Int) := ⟨(-(x + 1)).toNat, by omega⟩
   rw [hy]; exact tmod_nat y n
  go_enter Tryz.func20, Tryz.ntmps20
  go_wp2
  go_ret
  refine ⟨?_, rfl⟩
  rw [← HI.out]
  simp [Int.neg_tmod]
 ·obtain ⟨y, rfl⟩ : ∃ y : Nat, x = (y : Int) := ⟨x.toNat, by omega⟩
  have HI : Hid ((pickN (y : Int) n : Int) = ((y % n : Nat) : Int)) := by
   unfold Hid pickN
   rw [if_neg hx]; simp
  go_enter Tryz.func20, Tryz.ntmps20
  go_wp2
  go_ret
  refine ⟨?_, rfl⟩
  rw [HI.out]
  simp
set_option maxRecDepth 100000 in
set_option maxHeartbeats 1000000 in
theorem step_store {B : BkV} (cs : List Value) (wb : Nat) (ps : SlR) (ds : List PairD) (w : World) (h : LawAt B w wb ps ds) (hlen : cs.length = 24) (k0 : cs[0]? = some (.int .i64 2)) (hn : ds.length + 1 ≤ 17592186044416) :
  Calls Tryz.prog 12 #[.pointer (some ⟨wb, 0, none⟩), .agg cs.toArray] w fun e w' => e = .returned (.bool true) ∧ (∃ ps' d, LawAt B w' wb ps' (ds ++ [d]) ∧ (∀ k, d.F k → w.heap.size ≤ k) ∧ (∀ k, ps'.val.ownBlock = some k → ps.val.ownBlock = some k ∨ w.heap.size ≤ k)) ∧ Frame (fun k => k = wb ∨ ps.val.ownBlock = some k) w w' := by
 obtain ⟨d, hd1, hd2⟩ := Tryz.rowOp
 have hsz : Hid ((Tryz.prog.info? 43).map (·.size) = some cs.length) := by rw [hlen]; exact Tryz.sizeOp
 have HD : Hid (Tryz.prog.underlying 43 = some d) := hd1
 have HD2 : Hid (d.isRow = true) := hd2
 have HL : Hid (cs.length = 24) := hlen
 have hb : Below w.heap.size w (w.alloc (.cells cs.toArray 43)) := (Below.refl _ _).alloc (Nat.le_refl _) _
 have HF : Hid (Calls _ _ _ _ _) := free_store cs wb ps ds _ (h.below hb) k0 hn
 clear hd1 hd2 hlen
 go_enter Tryz.func12, Tryz.ntmps12
 go_wp2_with (refine wpList_load_mid (by rfl) 43 (.tmp 3) (by rfl) w.heap.size 0 (by rfl) cs d (rangeAt_new w cs 43) HD.out HD2.out hsz.out ?_)
 refine HF.out.mono ?_
 rintro e w1 ⟨rfl, ⟨ps', dn, h1, h3, h4⟩, h2⟩
 have hbz := hb.size
 have H1 : Hid (LawAt B w1 wb ps' (ds ++ [dn])) := h1
 have H3 : Hid (∀ k, dn.F k → w.heap.size ≤ k) := fun k hk => by have := h3 k hk; omega
 have H4 : Hid (∀ k, ps'.val.ownBlock = some k → ps.val.ownBlock = some k ∨ w.heap.size ≤ k) := fun k hk => by
  rcases h4 k hk with g | g
  ·exact Or.inl g
  ·exact Or.inr (by omega)
 clear h1 h3 h4 hbz
 go_wp2
 go_ret
 exact ⟨rfl, ⟨ps', dn, H1.out, H3.out, H4.out⟩, Frame.into (Frame.of_below_all hb) h2 (fun k _ e => e)⟩
set_option maxRecDepth 100000 in
set_option maxHeartbeats 1000000 in
theorem step_none {B : BkV} (cs : List Value) (kk : Int) (wb : Nat) (ps : SlR) (w : World) (h : LawAt B w wb ps []) (k0 : cs[0]? = some (.int .i64 kk)) (hk : kk = 3 ∨ kk = 4 ∨ kk = 5) :
  Calls Tryz.prog 12 #[.pointer (some ⟨wb, 0, none⟩), .agg cs.toArray] w fun e w' => e = .returned (.bool true) ∧ Below w.heap.size w w' := by
 have hwb : wb < w.heap.size := RowV.lt h.row
 have hpn : ps.n = 0 := (owns_cap (a := ps.a) (n' := ps.n) (cap := ps.cap) h.own).1
 have r0 : w.cell? ⟨wb, 0, none⟩ = some (.slice ps.a 0 ps.cap) := by
  have : w.cell? ⟨wb, 0, none⟩ = some (.slice ps.a ps.n ps.cap) := RowV.cell h.row 0 (by simp)
  rw [hpn] at this; exact this
 clear hpn h
 have HB : Hid (Below w.heap.size w (w.alloc (.cells cs.toArray 43))) := (Below.refl _ _).alloc (Nat.le_refl _) _
 rcases hk with rfl | rfl | rfl
 all_goals
  go_enter Tryz.func12, Tryz.ntmps12
  go_wp2
  go_ret
  exact ⟨rfl, HB.out⟩
set_option maxRecDepth 100000 in
set_option maxHeartbeats 1000000 in
theorem step_pair {B : BkV} (cs : List Value) (kk oa : Int) (wb : Nat) (ps : SlR) (ds : List PairD) (w : World) (h : LawAt B w wb ps ds) (hlen : cs.length = 24) (k0 : cs[0]? = some (.int .i64 kk)) (hk : kk = 3 ∨ kk = 4 ∨ kk = 5) (k1 : cs[1]? = some (.int .i64 oa)) (ha1 : -9223372036854775808 ≤ oa) (ha2 : oa ≤ 9223372036854775807) (hn : 1 ≤ ds.length)
  (hst : ∀ (W : World) (d : PairD), PairOk W d → Calls Tryz.prog 21 #[.pointer (some ⟨wb, 0, none⟩), .agg cs.toArray, .pointer (some ⟨d.pb, 0, none⟩)] W fun e w' => e = .returned (.bool true) ∧ Stepped d W w') :
  Calls Tryz.prog 12 #[.pointer (some ⟨wb, 0, none⟩), .agg cs.toArray] w fun e w' => e = .returned (.bool true) ∧ ∃ (W : World) (d : PairD), d ∈ ds ∧ Below w.heap.size w W ∧ Stepped d W w' ∧ ∃ i : Nat, ds[i]? = some d := by
 obtain ⟨d, hd1, hd2⟩ := Tryz.rowOp
 have hsz : Hid ((Tryz.prog.info? 43).map (·.size) = some cs.length) := by rw [hlen]; exact Tryz.sizeOp
 have HD : Hid (Tryz.prog.underlying 43 = some d) := hd1
 have HD2 : Hid (d.isRow = true) := hd2
 have HL : Hid (cs.length = 24) := hlen
 have HB : Hid (Below w.heap.size w (w.alloc (.cells cs.toArray 43))) := (Below.refl _ _).alloc (Nat.le_refl _) _
 have hwb : wb < w.heap.size := RowV.lt h.row
 have r0 : w.cell? ⟨wb, 0, none⟩ = some (.slice ps.a ps.n ps.cap) := RowV.cell h.row 0 (by simp)
 obtain ⟨hpn, hpc, hpm, hpa⟩ := owns_cap (a := ps.a) (n' := ps.n) (cap := ps.cap) h.own
 obtain ⟨g, hg, hglt⟩ : ∃ g, ps.a = some ⟨g, 0, none⟩ ∧ g < w.heap.size := by
  rcases hpa with ⟨_, h0, _⟩ | ⟨g, hg, _, hlt⟩
  ·omega
  ·exact ⟨g, hg, hlt⟩
 rw [hg] at r0
 have hpm' : ps.n ≤ maxLen := by omega
 obtain ⟨dd, hdd, hcd⟩ : ∃ d, ds[pickN oa ps.n]? = some d ∧ w.cell? ⟨g, pickN oa ps.n, none⟩ = some (.pointer (some ⟨d.pb, 0, none⟩)) := by
  have hi' : pickN oa ps.n < ds.length := by have := pickN_lt oa ps.n (by omega); omega
  refine ⟨ds[pickN oa ps.n], List.getElem?_eq_getElem hi', ?_⟩
  have hsl : SlV w ps.a (ds.map (fun d => ptrV d.pb)) := (SlV.ofOwn h.own).1
  obtain ⟨b, o, e, _, hc⟩ := hsl (pickN oa ps.n) (by simpa using hi')
  rw [hg] at e; cases e
  rw [Nat.zero_add] at hc
  rw [hc]; simp [ptrV]
 have HDD : Hid (ds[pickN oa ps.n]? = some dd) := hdd
 have hiI : (pickN oa ps.n : Int) < ps.n := by have := pickN_lt oa ps.n (by omega); omega
 have HPK : Hid (∀ W, Calls Tryz.prog 20 #[.int .i64 oa, .int .i64 (ps.n : Int)] W fun e w' => e = .returned (.int .i64 (pickN oa ps.n : Int)) ∧ w' = W) := fun W => pick_any oa ps.n W ha1 ha2 (by omega) hpm'
 generalize pickN oa ps.n = i at *
 have hn1 : 1 ≤ ps.n := by omega
 have hpmI : (ps.n : Int) ≤ 9223372036854775807 := by unfold maxLen at hpm; omega
 have hn0 : ((ps.n : Int) == 0) = false := by simp; omega
 have HOK : Hid (∀ d ∈ ds, PairOk w d) := h.ok
 have HST : Hid (∀ (W : World) (d : PairD), PairOk W d → _) := hst
 clear hd1 hd2 hlen hpn hpc hpm hpa hst hn hdd hpm'
 rcases hk with rfl | rfl | rfl
 all_goals
  go_enter Tryz.func12, Tryz.ntmps12
  go_wp2
  go_quiet (first | (go_at_call 20; exact Calls.quiet_of_same (HPK.out _)))
  have HBq : Hid (Below w.heap.size w ((w.alloc (.cells cs.toArray 43)).drewN nq)) := by
   have hb := HB.out
   exact ⟨hb.os, hb.tape, hb.output, hb.size, hb.block⟩
  go_wp2_with (refine wpList_load_mid (by rfl) 43 (.tmp 3) (by rfl) w.heap.size 0 (by rfl) cs d (by exact rangeAt_new w cs 43) HD.out HD2.out hsz.out ?_)
  refine (HST.out _ dd ((HOK.out dd (List.mem_of_getElem? HDD.out)).frame (Frame.of_below_all (S := fun _ => False) HBq.out) (fun _ _ e => e))).mono ?_
  rintro e w1 ⟨rfl, hs1⟩
  go_wp2
  go_ret
  exact ⟨rfl, _, dd, List.mem_of_getElem? HDD.out, HBq.out, hs1, i, HDD.out⟩
end Go.Proofs.YtekegfbjbainhaaGreat


namespace Go.Proofs.YtekegfbjbainhaaGreat
open Go.RowKit
set_option maxRecDepth 100000 in
set_option maxHeartbeats 800000 in
theorem plays_n (a : Option Addr) (n cap kb : Nat) (k0 : Int) (ks : List Int) (f : Nat → OpR) (w : World) (Inv : Nat → World → Prop) (Ok : OpR → Prop) (hn : n ≤ maxLen) (hs : ScriptAt w a n f) (hok : ∀ i, i < n → Ok (f i))
  (hkb : kb < w.heap.size) (hkl : (k0 :: ks).length ≤ maxLen) (hk : KindsAt w kb (k0 :: ks))
  (hI0 : Inv 0 (w.alloc (.cells #[.slice none 0 0, .slice none 0 0, .slice none 0 0, .slice none 0 0] 34)))
  (hIB : ∀ q wr, Inv q wr → Below w.heap.size w wr) (hId : ∀ q wr m, Inv q wr → Inv q (wr.drewN m)) (hIm : ∀ q wr, Inv q wr → Inv (q + 1) wr)
  (hstep0 : ∀ wr, Inv 0 wr → Calls Tryz.prog 12 #[.pointer (some ⟨w.heap.size, 0, none⟩), .agg #[.int .i64 k0, .int .i64 0, .int .i64 0, .int .i64 0, .string ⟨#[99, 97, 105, 114, 110]⟩, .string ⟨#[]⟩, .string ⟨#[]⟩, .int .u8 0, .int .u8 0, .int .u8 0, .int .u8 0, .int .u8 0, .int .u8 0, .int .u8 0, .int .u8 0,
   .int .u8 0, .int .u8 0, .int .u8 0, .int .u8 0, .int .u8 0, .int .u8 0, .int .u8 0, .int .u8 0, .slice none 0 0]] wr fun e w' => e = .returned (.bool true) ∧ Inv 1 w')
  (hstep : ∀ q wr o, q ≤ n → Inv q wr → Ok o → o.kind ∈ k0 :: ks → o.s.size ≤ 140737488351232 → o.t.size ≤ 140737488351232 → o.u.size ≤ 140737488351232 →
   Calls Tryz.prog 12 #[.pointer (some ⟨w.heap.size, 0, none⟩), .agg o.cells.toArray] wr fun e w' => e = .returned (.bool true) ∧ Inv (q + 1) w')
  (hlooks : ∀ q wr, Inv q wr → Calls Tryz.prog 13 #[.pointer (some ⟨w.heap.size, 1, none⟩)] wr fun e w' => e = .returned (.bool true) ∧ Inv q w') :
  Calls Tryz.prog 9 #[.slice a n cap, .slice (some ⟨kb, 0, none⟩) (k0 :: ks).length (k0 :: ks).length] w fun e w' => e = .returned (.bool true) ∧ ∃ q, Inv q w' := by
 have H0 : Hid (∀ wr, Inv 0 wr → _) := hstep0
 have H1 : Hid (∀ q wr o, q ≤ n → Inv q wr → _) := hstep
 have H2 : Hid (∀ q wr, Inv q wr → _) := hlooks
 have HB : Hid (∀ q wr, Inv q wr → _) := hIB
 have HD : Hid (∀ q wr m, Inv q wr → _) := hId
 have HM0 : Hid (∀ q wr, Inv q wr → Inv (q + 1) wr) := hIm
 clear hstep0 hstep hlooks hIB hId hIm
 have hkc := hk 0 (by simp)
 have HK : Hid (KindsAt w kb (k0 :: ks)) := hk
 have HKL : Hid ((k0 :: ks).length ≤ maxLen) := hkl
 simp only [List.getElem_cons_zero] at hkc
 unfold maxLen at hn hkl
 have hkl1 : (1 : Int) ≤ ((k0 :: ks).length : Int) := by simp; omega
 generalize hL : (k0 :: ks) = L at *
 have HL : Hid (k0 :: ks = L) := hL
 clear hL hk
 go_enter Tryz.func9, Tryz.ntmps9
 go_wp2_with fail
 refine (H0.out _ hI0).mono ?_
 rintro e w1 ⟨rfl, hI1⟩
 go_wp2
 go_loopw [6, 7, 8, 9] (fun ok i _ _ wr => ∃ k : Nat, k ≤ n ∧ i = .int .i64 k ∧ ok = .bool true ∧ Inv (k + 1) wr) (fun _ i _ _ _ => n - (intOf i).toNat)
 case atStart => exact ⟨0, by omega, by simp, by simp, hI1⟩
 case round =>
  obtain ⟨k, hkn, rfl, rfl, hI⟩ := hrel
  by_cases hlt : k < n
  ·obtain ⟨b, o, rfl, hb, hr, hs1, hs2, hs3⟩ := hs k hlt
   have hB := HB.out _ _ hI
   have hr2 : wr.rangeAt b (o + k * 24) (f k).cells := fun j v hv => by rw [hB.cell (p := ⟨b, o + k * 24 + j, none⟩) hb]; exact hr j v hv
   have kc := hr2 0 (.int .i64 (f k).kind) rfl
   rw [Nat.add_zero] at kc
   have HR : Hid (wr.rangeAt b (o + k * 24) (f k).cells) := hr2
   clear hr2
   go_wp2
   go_loopw [8, 9] (fun inn j w' => ∃ (q m : Nat), q ≤ L.length ∧ j = .int .i64 q ∧ inn = .bool ((L.take q).any (fun y => (f k).kind == y)) ∧ w' = wr.drewN m) (fun _ j _ => L.length - (intOf j).toNat)
   case atStart => exact ⟨0, 0, by omega, by simp, by simp, rfl⟩
   case round =>
    obtain ⟨q, m, hq, rfl, rfl, rfl⟩ := hrel
    by_cases hqlt : q < L.length
    ·have hkq : wr.cell? ⟨kb, q, none⟩ = some (.int .i64 L[q]) := by rw [hB.cell (p := ⟨kb, q, none⟩) hkb]; exact HK.out q hqlt
     have HS : Hid (_ = _) := any_snoc L q hqlt (f k).kind
     generalize (L.take q).any (fun y => (f k).kind == y) = inn at *
     cases inn
     ·go_wp2
      go_quiet (fail)
      go_wp2
      refine ⟨⟨q + 1, m + nq, by omega, by go_num, by rw [HS.out, Bool.false_or], rfl⟩, by simp [intOf]; omega⟩
     ·go_wp2
      go_quiet (fail)
      go_wp2
      refine ⟨⟨q + 1, m + nq, by omega, by go_num, by rw [HS.out, Bool.true_or], rfl⟩, by simp [intOf]; omega⟩
    ·have HE : Hid ((L.take q).any (fun y => (f k).kind == y) = L.any (fun y => (f k).kind == y)) := by
      unfold Hid; rw [List.take_of_length_le (by omega)]
     rw [HE.out]
     have hID := HD.out _ _ m hI
     have HM : Hid (L.any (fun y => (f k).kind == y) = true → (f k).kind ∈ L) := fun h => by
      obtain ⟨y, hy, he⟩ := List.any_eq_true.1 h
      rw [beq_iff_eq] at he
      rw [he]; exact hy
     generalize hany : L.any (fun y => (f k).kind == y) = bin at *
     have HA : Hid (L.any (fun y => (f k).kind == y) = bin) := hany
     clear hany
     cases bin
     ·go_wp2
      refine ⟨⟨k + 1, by omega, by go_num, by simp, HM0.out _ _ hID⟩, by simp [intOf]; omega⟩
     ·obtain ⟨d, hd1, hd2⟩ := Tryz.rowOp
      have hmem : Hid ((f k).kind ∈ L) := HM.out rfl
      clear HM
      have hsz : Hid ((Tryz.prog.info? 43).map (·.size) = some (f k).cells.length) := Tryz.sizeOp
      have HD1 : Hid (Tryz.prog.underlying 43 = some d) := hd1
      have HD2 : Hid (d.isRow = true) := hd2
      clear hd1 hd2
      go_wp2_with (refine wpList_load_mid (by rfl) 43 (.tmp 50) (by rfl) b (o + k * 24) (by rfl) (f k).cells d (by exact HR.out) HD1.out HD2.out hsz.out ?_)
      refine (H1.out _ _ (f k) (by omega) hID (hok k hlt) hmem.out hs1 hs2 hs3).mono ?_
      rintro e w2 ⟨rfl, hI2⟩
      go_wp2_with fail
      refine (H2.out _ _ hI2).mono ?_
      rintro e w3 ⟨rfl, hI3⟩
      go_wp2
      refine ⟨⟨k + 1, by omega, by go_num, by simp, hI3⟩, by simp [intOf]; omega⟩
  ·go_wp2
   go_ret
   exact ⟨rfl, _, hI⟩
end Go.Proofs.YtekegfbjbainhaaGreat


namespace Go.Proofs.YtekegfbjbainhaaGreat
open Go.RowKit
def StoredOk (cs : List Value) : Prop := ∀ (p : Value) (W : World) (d : PairD), PairOk W d → Calls Tryz.prog 21 #[p, .agg cs.toArray, .pointer (some ⟨d.pb, 0, none⟩)] W fun e w' => e = .returned (.bool true) ∧ Stepped d W w'
end Go.Proofs.YtekegfbjbainhaaGreat
