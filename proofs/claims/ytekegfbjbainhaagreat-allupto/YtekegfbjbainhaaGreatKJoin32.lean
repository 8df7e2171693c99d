import Derived.Deep.RegionHeld3
import Derived.Test.YtekegfbjbainhaaGreatKJoin31
set_option linter.unusedVariables false
set_option linter.unusedSimpArgs false

namespace Go.Proofs.YtekegfbjbainhaaGreat
open Go
section
variable {P : Program} {ops : Array Oper} {Q : Exit → Act → World → Prop} {md : Region.Mode} {S : World → Prop} {z : Nat}
def wpAnyU (P : Program) (md : Region.Mode) (ops : Array Oper) (Q : Exit → Act → World → Prop) (S : World → Prop) (z : Nat) : Nat → Array Bool → Act → World → Prop
 | 0, L, a, w => Region.ready md ops L = [] ∧ Q .normal a w
 | fuel + 1, L, a, w =>
  (Region.ready md ops L = [] → Q .normal a w) ∧
  ∀ i ∈ Region.ready md ops L, wpOp P ops Q i (fun a' w' => ((L.setIfInBounds i true).getD z true = false → S w') ∧ wpAnyU P md ops Q S z fuel (L.setIfInBounds i true) a' w') a w
theorem any_of_U : ∀ (fuel : Nat) (L : Array Bool) (a : Act) (w : World), wpAnyU P md ops Q S z fuel L a w → wpAny P md ops Q fuel L a w
 | 0, _, _, _, h => h
 | fuel + 1, _, _, _, h => ⟨h.1, fun i hi => wpOp_mono (fun a' w' h' => any_of_U fuel _ a' w' h'.2) (h.2 i hi)⟩
def waits (md : Region.Mode) (ops : Array Oper) (Z : List Nat) (i : Nat) : Bool :=
 Z.all fun y => match ops[y]? with
  | some o => o.after.any fun e => Region.binds md e && (e.on == i || Z.contains e.on)
  | none => false
theorem not_ready {Z : List Nat} {i : Nat} (hw : waits md ops Z i = true) {L : Array Bool} (hi : L.getD i true = false) (hZ : ∀ y ∈ Z, L.getD y true = false) {j : Nat} (hj : j ∈ Region.ready md ops L) : j ∉ Z := by
 intro hjZ
 obtain ⟨-, o, ho, hall⟩ := mem_ready.1 hj
 have h1 := List.all_eq_true.1 hw j hjZ
 rw [ho] at h1
 dsimp only at h1
 have key : ∀ x, L.getD x true = false → L.getD x false = true → False := by
  intro x h0 h1
  rcases Nat.lt_or_ge x L.size with h' | h'
  ·simp [h'] at h0 h1; rw [h0] at h1; cases h1
  ·simp [Array.getElem?_eq_none h'] at h1
 have : ∃ e ∈ o.after, Region.binds md e = true ∧ (e.on = i ∨ e.on ∈ Z) := by
  simp only [Array.any_eq_true] at h1
  obtain ⟨k, hk, h2⟩ := h1
  exact ⟨o.after[k], Array.getElem_mem hk, by simpa using h2⟩
 obtain ⟨e, he, hb, hor⟩ := this
 have h2 := hall e he hb
 rcases hor with h | h
 ·rw [h] at h2; exact key i hi h2
 ·exact key _ (hZ _ h) h2
theorem anyU_first {i : Nat} {oi : Oper} {v : Value} {Z : List Nat} (hi : ops[i]? = some oi) (hsel : ∀ (j : Nat) (o : Oper) cs b, ops[j]? = some o → o.op ≠ .select cs b)
  (hQ : ∀ c a w, Q (.panic c) (a.put oi.dst v) w → Q (.panic c) a w) (hw : waits md ops Z i = true) (hz : z ∈ Z) :
  ∀ (fuel : Nat) (L : Array Bool) (a : Act) (w : World),
   (∀ j oj, ops[j]? = some oj → j ≠ i → L.getD j true = false → (∀ e ∈ oj.after, Region.binds md e = true → e.on ≠ i) → oi.apart ops oj = true) →
   (∀ y ∈ Z, L.getD y true = false) → i ∉ Z →
   i ∈ Region.ready md ops L → YieldsIf P ops S oi v a → S w →
   wpAnyU P md ops Q S z fuel (L.setIfInBounds i true) (a.put oi.dst v) w → wpAnyU P md ops Q S z (fuel + 1) L a w := by
 intro fuel
 induction fuel with
 | zero =>
  intro L a w _ hZ _ hr hy hS H
  refine ⟨fun h => (by rw [h] at hr; cases hr), fun j hj => ?_⟩
  by_cases hji : j = i
  ·subst hji; exact hy.wpOp hi hS ⟨fun _ => hS, H⟩
  ·have := ready_mono hj hji
   rw [H.1] at this
   cases this
 | succ fuel ih =>
  intro L a w hfree hZ hiZ hr hy hS H
  refine ⟨fun h => (by rw [h] at hr; cases hr), fun j hj => ?_⟩
  by_cases hji : j = i
  ·subst hji; exact hy.wpOp hi hS ⟨fun _ => hS, H⟩
  ·have hi0 := (mem_ready.1 hr).1
   have hjZ := not_ready hw hi0 hZ hj
   have h1 := H.2 j (ready_mono hj hji)
   obtain ⟨hjun, oj, hoj, hall⟩ := mem_ready.1 hj
   have hnot : ∀ e ∈ oj.after, Region.binds md e = true → e.on ≠ i := fun e he hb heq => by
    have h1 := hall e he hb
    rw [heq] at h1
    rcases Nat.lt_or_ge i L.size with h' | h'
    ·simp [h'] at hi0 h1; rw [hi0] at h1; cases h1
    ·simp [Array.getElem?_eq_none h'] at h1
   have h2 := wpOp_putIf hoj (hfree j oj hoj hji hjun hnot) (fun cs b => hsel i oi cs b hi) (fun cs b => hsel j oj cs b hoj) hQ hy h1
   have hZ' : ∀ y ∈ Z, (L.setIfInBounds j true).getD y true = false := fun y hy => by
    rw [getD_set_ne true (fun e => hjZ (by rw [e]; exact hy))]; exact hZ y hy
   have hzi : ((L.setIfInBounds i true).setIfInBounds j true).getD z true = false := by
    rw [getD_set_ne true (fun e => hjZ (by rw [e]; exact hz)), getD_set_ne true (fun e => hiZ (by rw [e]; exact hz))]; exact hZ z hz
   have hfree' : ∀ k ok, ops[k]? = some ok → k ≠ i → (L.setIfInBounds j true).getD k true = false →
     (∀ e ∈ ok.after, Region.binds md e = true → e.on ≠ i) → oi.apart ops ok = true := fun k ok hk hki hun hno => by
    refine hfree k ok hk hki ?_ hno
    by_cases hjk : j = k
    ·subst hjk; exact hjun
    ·rw [getD_set_ne true hjk] at hun; exact hun
   refine wpOp_mono (fun a' w' h3 => ?_) h2
   have hS' := h3.2.1 hzi
   refine ⟨fun _ => hS', ih (L.setIfInBounds j true) a' w' hfree' hZ' hiZ (ready_mono hr (Ne.symm hji)) h3.1 hS' ?_⟩
   rw [Array.setIfInBounds_comm _ _ hji]
   exact h3.2.2
theorem anyU_take (i : Nat) (oi : Oper) (v : Value) (Z : List Nat) {fuel : Nat} {L : Array Bool} {a : Act} {w : World} (hi' : ops.toList[i]? = some oi)
  (hs : Region.noSelect ops = true) (hf : Region.free md ops L i = true) (hr : (Region.ready md ops L).contains i = true)
  (hQ : ∀ c a w, Q (.panic c) (a.put oi.dst v) w → Q (.panic c) a w) (hw : (waits md ops Z i && Z.contains z && Z.all (fun y => !(L.getD y true)) && !(Z.contains i)) = true)
  (hS : S w) (hy : YieldsIf P ops S oi v a)
  (h : wpAnyU P md ops Q S z fuel (L.setIfInBounds i true) (a.put oi.dst v) w) : wpAnyU P md ops Q S z (fuel + 1) L a w := by
 have hi : ops[i]? = some oi := by rw [← Array.getElem?_toList]; exact hi'
 simp only [Bool.and_eq_true, List.all_eq_true, Bool.not_eq_true', List.contains_iff_mem] at hw
 refine anyU_first hi (Region.noSelect_spec hs) hQ hw.1.1.1 hw.1.1.2 fuel L a w (Region.free_spec hi hf) hw.1.2 (fun hm => ?_) (by simpa using hr) hy hS h
 have := hw.2
 rw [List.contains_iff_mem.2 hm] at this
 cases this
theorem anyU_plain {i : Nat} {oi : Oper} {v : Value} (hi : ops[i]? = some oi) (hsel : ∀ (j : Nat) (o : Oper) cs b, ops[j]? = some o → o.op ≠ .select cs b)
  (hQ : ∀ c a w, Q (.panic c) (a.put oi.dst v) w → Q (.panic c) a w) (hiz : i ≠ z) :
  ∀ (fuel : Nat) (L : Array Bool) (a : Act) (w : World),
   (∀ j oj, ops[j]? = some oj → j ≠ i → L.getD j true = false → (∀ e ∈ oj.after, Region.binds md e = true → e.on ≠ i) → oi.apart ops oj = true) →
   i ∈ Region.ready md ops L → YieldsIf P ops (fun _ => True) oi v a → (L.getD z true = false → S w) →
   wpAnyU P md ops Q S z fuel (L.setIfInBounds i true) (a.put oi.dst v) w → wpAnyU P md ops Q S z (fuel + 1) L a w := by
 intro fuel
 induction fuel with
 | zero =>
  intro L a w _ hr hy hS H
  refine ⟨fun h => (by rw [h] at hr; cases hr), fun j hj => ?_⟩
  by_cases hji : j = i
  ·subst hji; exact hy.wpOp hi trivial ⟨fun h => hS (by rw [getD_set_ne true hiz] at h; exact h), H⟩
  ·have := ready_mono hj hji
   rw [H.1] at this
   cases this
 | succ fuel ih =>
  intro L a w hfree hr hy hS H
  refine ⟨fun h => (by rw [h] at hr; cases hr), fun j hj => ?_⟩
  by_cases hji : j = i
  ·subst hji; exact hy.wpOp hi trivial ⟨fun h => hS (by rw [getD_set_ne true hiz] at h; exact h), H⟩
  ·have hi0 := (mem_ready.1 hr).1
   have h1 := H.2 j (ready_mono hj hji)
   obtain ⟨hjun, oj, hoj, hall⟩ := mem_ready.1 hj
   have hnot : ∀ e ∈ oj.after, Region.binds md e = true → e.on ≠ i := fun e he hb heq => by
    have h1 := hall e he hb
    rw [heq] at h1
    rcases Nat.lt_or_ge i L.size with h' | h'
    ·simp [h'] at hi0 h1; rw [hi0] at h1; cases h1
    ·simp [Array.getElem?_eq_none h'] at h1
   have h2 := wpOp_putIf hoj (hfree j oj hoj hji hjun hnot) (fun cs b => hsel i oi cs b hi) (fun cs b => hsel j oj cs b hoj) hQ hy h1
   have hfree' : ∀ k ok, ops[k]? = some ok → k ≠ i → (L.setIfInBounds j true).getD k true = false →
     (∀ e ∈ ok.after, Region.binds md e = true → e.on ≠ i) → oi.apart ops ok = true := fun k ok hk hki hun hno => by
    refine hfree k ok hk hki ?_ hno
    by_cases hjk : j = k
    ·subst hjk; exact hjun
    ·rw [getD_set_ne true hjk] at hun; exact hun
   have hcm : (L.setIfInBounds i true).setIfInBounds j true = (L.setIfInBounds j true).setIfInBounds i true := Array.setIfInBounds_comm _ _ (Ne.symm hji)
   refine wpOp_mono (fun a' w' h3 => ?_) h2
   have hS' : (L.setIfInBounds j true).getD z true = false → S w' := fun hz => h3.2.1 (by rw [hcm, getD_set_ne true hiz]; exact hz)
   refine ⟨hS', ih (L.setIfInBounds j true) a' w' hfree' (ready_mono hr (Ne.symm hji)) h3.1 hS' ?_⟩
   rw [← hcm]
   exact h3.2.2
theorem anyU_move (i : Nat) (oi : Oper) (v : Value) {fuel : Nat} {L : Array Bool} {a : Act} {w : World} (hi' : ops.toList[i]? = some oi)
  (hs : Region.noSelect ops = true) (hf : Region.free md ops L i = true) (hr : (Region.ready md ops L).contains i = true)
  (hQ : ∀ c a w, Q (.panic c) (a.put oi.dst v) w → Q (.panic c) a w) (hiz : i ≠ z)
  (hS : S w) (hy : YieldsIf P ops (fun _ => True) oi v a)
  (h : wpAnyU P md ops Q S z fuel (L.setIfInBounds i true) (a.put oi.dst v) w) : wpAnyU P md ops Q S z (fuel + 1) L a w :=
 have hi : ops[i]? = some oi := by rw [← Array.getElem?_toList]; exact hi'
 anyU_plain hi (Region.noSelect_spec hs) hQ hiz fuel L a w (Region.free_spec hi hf) (by simpa using hr) hy (fun _ => hS) h
theorem anyU_one (i : Nat) (o : Oper) {fuel : Nat} {L : Array Bool} {a : Act} {w : World} (hr : Region.ready md ops L = [i]) (ho' : ops.toList[i]? = some o)
  (h : ∀ K' : Act → World → Prop, Shut (∀ a w, S w → wpAnyU P md ops Q S z fuel (L.setIfInBounds i true) a w → K' a w) → if Region.wanted o (yielded ops a.tmps) = true then Oper.wp P o a w K' Q else K' (a.put o.dst undef) w) :
  wpAnyU P md ops Q S z (fuel + 1) L a w :=
 ⟨fun h0 => (by rw [hr] at h0; cases h0), by
  rw [hr]
  intro j hj
  obtain rfl := List.mem_singleton.1 hj
  exact wpOp_step (by rw [← Array.getElem?_toList]; exact ho') (fun K' hK => h K' (fun a w hS hW => hK a w ⟨fun _ => hS, hW⟩))⟩
theorem anyU_past (i : Nat) (o : Oper) {fuel : Nat} {L : Array Bool} {a : Act} {w : World} (hr : Region.ready md ops L = [i]) (ho' : ops.toList[i]? = some o) (hz : (L.setIfInBounds i true).getD z true = true)
  (h : ∀ K' : Act → World → Prop, Shut (∀ a w, wpAnyU P md ops Q S z fuel (L.setIfInBounds i true) a w → K' a w) → if Region.wanted o (yielded ops a.tmps) = true then Oper.wp P o a w K' Q else K' (a.put o.dst undef) w) :
  wpAnyU P md ops Q S z (fuel + 1) L a w :=
 ⟨fun h0 => (by rw [hr] at h0; cases h0), by
  rw [hr]
  intro j hj
  obtain rfl := List.mem_singleton.1 hj
  exact wpOp_step (by rw [← Array.getElem?_toList]; exact ho') (fun K' hK => h K' (fun a w hW => hK a w ⟨fun h0 => (by rw [hz] at h0; cases h0), hW⟩))⟩
theorem anyU_done {L : Array Bool} {a : Act} {w : World} (hr : Region.ready md ops L = []) (h : Q .normal a w) :
  ∀ fuel, wpAnyU P md ops Q S z fuel L a w
 | 0 => ⟨hr, h⟩
 | _ + 1 => ⟨fun _ => h, by rw [hr]; simp⟩
theorem region_U {id : Nat} {a : Act} {w : World} (S : World → Prop) (z : Nat) (hm : P.follows .mixedOrders = true) (hS : S w.drew)
  (h : S w.drew → wpAnyU P .any ops Q S z ops.size (Array.replicate ops.size false) a w.drew) : (Code.region id ops true).wp P Q a w :=
 wp_region_any hm (any_of_U _ _ _ _ (h hS))
end
end Go.Proofs.YtekegfbjbainhaaGreat


namespace Go.Proofs.YtekegfbjbainhaaGreat
open Go.RowKit
attribute [local go_sem ↓] Go.wp_at_zero Go.wp_at_succ
theorem wpO_storeD {o : Oper} {a : Act} {w : World} {K : Act → World → Prop} {Q : Exit → Act → World → Prop} (x y : Operand) (ho : o.op = .store 36 x y)
  (b : Nat) (hx : a.eval x = .pointer (some ⟨b, 0, none⟩)) (d : List UInt8) (hd : d.length = 8) (hy : a.eval y = dV d) {l : List Value} (hR : RowV w b 36 l) (hl : l.length = 8)
  (h : ∀ w', RowV w' b 36 (d.map u8c) → Frame (fun k => k = b) w w' → w'.heap.size = w.heap.size → K (a.put o.dst undef) w') : o.wp Tryz.prog a w K Q := by
 refine wp_store_mid 36 x y ho b 0 (d.map u8c).toArray hx hy (by simpa [hd] using hR.there 8 hl.symm) (by simpa [hd] using Tryz.infoDig) (all_oneCell_toArray (u8c_one d)) ?_
 exact h _ (hR.setAll _ (by simp [hd, hl])) (Frame.setCells (S := fun k => k = b) rfl _ _ _ (Frame.refl _ _)) (size_setCells _ _ _ _)
set_option maxRecDepth 100000 in
set_option maxHeartbeats 4000000 in
theorem sums_gt (l m n b o : Nat) (po : Option Addr) (x : List UInt8) (O : Option (List UInt8 × List UInt8)) (cap : Nat) (w : World) (hx : x.length = 8) (hb : b < w.heap.size) (hl : l + 1 ≤ cap) (hc : cap ≤ 9223372036854775807) (hlast : w.rangeAt b (o + l * 8) (x.map u8c)) (hm1 : 1 ≤ m) (hmn : m < n) (hn : n ≤ 9223372036854775807) (hk : halfN n < m)
  (hIH : ∀ W, Below w.heap.size w W → Calls Tryz.prog 136 #[.int .i64 ((m - halfN n : Nat) : Int), .int .i64 ((n - halfN n : Nat) : Int), .pointer none, .slice (some ⟨b, o, none⟩) l cap] W fun v w' => bothV O v ∧ Below W.heap.size W w') :
  Calls Tryz.prog 136 #[.int .i64 (m : Int), .int .i64 (n : Int), .pointer po, .slice (some ⟨b, o, none⟩) (l + 1) cap] w fun v w' => bothV (O.map (fun q => (digB (1 :: (x ++ q.1)), digB (1 :: (x ++ q.2))))) v ∧ Below w.heap.size w w' := by
 obtain ⟨x0, x1, x2, x3, x4, x5, x6, x7, rfl⟩ := list8 x hx
 have hB0 : Below w.heap.size w ((w.alloc (.cells #[Value.int .u8 0, Value.int .u8 0, Value.int .u8 0, Value.int .u8 0, Value.int .u8 0, Value.int .u8 0, Value.int .u8 0, Value.int .u8 0] 36)).alloc (.cells #[Value.int .u8 0, Value.int .u8 0, Value.int .u8 0, Value.int .u8 0, Value.int .u8 0, Value.int .u8 0, Value.int .u8 0, Value.int .u8 0] 36)) := ((Below.refl _ _).alloc (Nat.le_refl _) _).alloc (by simp) _
 have hB1 : Below w.heap.size w (((w.alloc (.cells #[Value.int .u8 0, Value.int .u8 0, Value.int .u8 0, Value.int .u8 0, Value.int .u8 0, Value.int .u8 0, Value.int .u8 0, Value.int .u8 0] 36)).alloc (.cells #[Value.int .u8 0, Value.int .u8 0, Value.int .u8 0, Value.int .u8 0, Value.int .u8 0, Value.int .u8 0, Value.int .u8 0, Value.int .u8 0] 36)).alloc (.cells #[Value.int .u8 0, Value.int .u8 0, Value.int .u8 0, Value.int .u8 0, Value.int .u8 0, Value.int .u8 0, Value.int .u8 0, Value.int .u8 0] 36)) := hB0.alloc hB0.size _
 have q0 : ((w.alloc (.cells #[Value.int .u8 0, Value.int .u8 0, Value.int .u8 0, Value.int .u8 0, Value.int .u8 0, Value.int .u8 0, Value.int .u8 0, Value.int .u8 0] 36)).alloc (.cells #[Value.int .u8 0, Value.int .u8 0, Value.int .u8 0, Value.int .u8 0, Value.int .u8 0, Value.int .u8 0, Value.int .u8 0, Value.int .u8 0] 36)).cell? ⟨b, o + l * 8, none⟩ = some (.int .u8 (x0.toNat : Int)) := by rw [hB0.cell (p := ⟨b, o + l * 8, none⟩) hb]; exact hlast 0 _ rfl
 have k0 : (((w.alloc (.cells #[Value.int .u8 0, Value.int .u8 0, Value.int .u8 0, Value.int .u8 0, Value.int .u8 0, Value.int .u8 0, Value.int .u8 0, Value.int .u8 0] 36)).alloc (.cells #[Value.int .u8 0, Value.int .u8 0, Value.int .u8 0, Value.int .u8 0, Value.int .u8 0, Value.int .u8 0, Value.int .u8 0, Value.int .u8 0] 36)).alloc (.cells #[Value.int .u8 0, Value.int .u8 0, Value.int .u8 0, Value.int .u8 0, Value.int .u8 0, Value.int .u8 0, Value.int .u8 0, Value.int .u8 0] 36)).cell? ⟨b, o + l * 8, none⟩ = some (.int .u8 (x0.toNat : Int)) := by rw [hB1.cell (p := ⟨b, o + l * 8, none⟩) hb]; exact hlast 0 _ rfl
 have q1 : ((w.alloc (.cells #[Value.int .u8 0, Value.int .u8 0, Value.int .u8 0, Value.int .u8 0, Value.int .u8 0, Value.int .u8 0, Value.int .u8 0, Value.int .u8 0] 36)).alloc (.cells #[Value.int .u8 0, Value.int .u8 0, Value.int .u8 0, Value.int .u8 0, Value.int .u8 0, Value.int .u8 0, Value.int .u8 0, Value.int .u8 0] 36)).cell? ⟨b, o + l * 8 + 1, none⟩ = some (.int .u8 (x1.toNat : Int)) := by rw [hB0.cell (p := ⟨b, o + l * 8 + 1, none⟩) hb]; exact hlast 1 _ rfl
 have k1 : (((w.alloc (.cells #[Value.int .u8 0, Value.int .u8 0, Value.int .u8 0, Value.int .u8 0, Value.int .u8 0, Value.int .u8 0, Value.int .u8 0, Value.int .u8 0] 36)).alloc (.cells #[Value.int .u8 0, Value.int .u8 0, Value.int .u8 0, Value.int .u8 0, Value.int .u8 0, Value.int .u8 0, Value.int .u8 0, Value.int .u8 0] 36)).alloc (.cells #[Value.int .u8 0, Value.int .u8 0, Value.int .u8 0, Value.int .u8 0, Value.int .u8 0, Value.int .u8 0, Value.int .u8 0, Value.int .u8 0] 36)).cell? ⟨b, o + l * 8 + 1, none⟩ = some (.int .u8 (x1.toNat : Int)) := by rw [hB1.cell (p := ⟨b, o + l * 8 + 1, none⟩) hb]; exact hlast 1 _ rfl
 have q2 : ((w.alloc (.cells #[Value.int .u8 0, Value.int .u8 0, Value.int .u8 0, Value.int .u8 0, Value.int .u8 0, Value.int .u8 0, Value.int .u8 0, Value.int .u8 0] 36)).alloc (.cells #[Value.int .u8 0, Value.int .u8 0, Value.int .u8 0, Value.int .u8 0, Value.int .u8 0, Value.int .u8 0, Value.int .u8 0, Value.int .u8 0] 36)).cell? ⟨b, o + l * 8 + 2, none⟩ = some (.int .u8 (x2.toNat : Int)) := by rw [hB0.cell (p := ⟨b, o + l * 8 + 2, none⟩) hb]; exact hlast 2 _ rfl
 have k2 : (((w.alloc (.cells #[Value.int .u8 0, Value.int .u8 0, Value.int .u8 0, Value.int .u8 0, Value.int .u8 0, Value.int .u8 0, Value.int .u8 0, Value.int .u8 0] 36)).alloc (.cells #[Value.int .u8 0, Value.int .u8 0, Value.int .u8 0, Value.int .u8 0, Value.int .u8 0, Value.int .u8 0, Value.int .u8 0, Value.int .u8 0] 36)).alloc (.cells #[Value.int .u8 0, Value.int .u8 0, Value.int .u8 0, Value.int .u8 0, Value.int .u8 0, Value.int .u8 0, Value.int .u8 0, Value.int .u8 0] 36)).cell? ⟨b, o + l * 8 + 2, none⟩ = some (.int .u8 (x2.toNat : Int)) := by rw [hB1.cell (p := ⟨b, o + l * 8 + 2, none⟩) hb]; exact hlast 2 _ rfl
 have q3 : ((w.alloc (.cells #[Value.int .u8 0, Value.int .u8 0, Value.int .u8 0, Value.int .u8 0, Value.int .u8 0, Value.int .u8 0, Value.int .u8 0, Value.int .u8 0] 36)).alloc (.cells #[Value.int .u8 0, Value.int .u8 0, Value.int .u8 0, Value.int .u8 0, Value.int .u8 0, Value.int .u8 0, Value.int .u8 0, Value.int .u8 0] 36)).cell? ⟨b, o + l * 8 + 3, none⟩ = some (.int .u8 (x3.toNat : Int)) := by rw [hB0.cell (p := ⟨b, o + l * 8 + 3, none⟩) hb]; exact hlast 3 _ rfl
 have k3 : (((w.alloc (.cells #[Value.int .u8 0, Value.int .u8 0, Value.int .u8 0, Value.int .u8 0, Value.int .u8 0, Value.int .u8 0, Value.int .u8 0, Value.int .u8 0] 36)).alloc (.cells #[Value.int .u8 0, Value.int .u8 0, Value.int .u8 0, Value.int .u8 0, Value.int .u8 0, Value.int .u8 0, Value.int .u8 0, Value.int .u8 0] 36)).alloc (.cells #[Value.int .u8 0, Value.int .u8 0, Value.int .u8 0, Value.int .u8 0, Value.int .u8 0, Value.int .u8 0, Value.int .u8 0, Value.int .u8 0] 36)).cell? ⟨b, o + l * 8 + 3, none⟩ = some (.int .u8 (x3.toNat : Int)) := by rw [hB1.cell (p := ⟨b, o + l * 8 + 3, none⟩) hb]; exact hlast 3 _ rfl
 have q4 : ((w.alloc (.cells #[Value.int .u8 0, Value.int .u8 0, Value.int .u8 0, Value.int .u8 0, Value.int .u8 0, Value.int .u8 0, Value.int .u8 0, Value.int .u8 0] 36)).alloc (.cells #[Value.int .u8 0, Value.int .u8 0, Value.int .u8 0, Value.int .u8 0, Value.int .u8 0, Value.int .u8 0, Value.int .u8 0, Value.int .u8 0] 36)).cell? ⟨b, o + l * 8 + 4, none⟩ = some (.int .u8 (x4.toNat : Int)) := by rw [hB0.cell (p := ⟨b, o + l * 8 + 4, none⟩) hb]; exact hlast 4 _ rfl
 have k4 : (((w.alloc (.cells #[Value.int .u8 0, Value.int .u8 0, Value.int .u8 0, Value.int .u8 0, Value.int .u8 0, Value.int .u8 0, Value.int .u8 0, Value.int .u8 0] 36)).alloc (.cells #[Value.int .u8 0, Value.int .u8 0, Value.int .u8 0, Value.int .u8 0, Value.int .u8 0, Value.int .u8 0, Value.int .u8 0, Value.int .u8 0] 36)).alloc (.cells #[Value.int .u8 0, Value.int .u8 0, Value.int .u8 0, Value.int .u8 0, Value.int .u8 0, Value.int .u8 0, Value.int .u8 0, Value.int .u8 0] 36)).cell? ⟨b, o + l * 8 + 4, none⟩ = some (.int .u8 (x4.toNat : Int)) := by rw [hB1.cell (p := ⟨b, o + l * 8 + 4, none⟩) hb]; exact hlast 4 _ rfl
 have q5 : ((w.alloc (.cells #[Value.int .u8 0, Value.int .u8 0, Value.int .u8 0, Value.int .u8 0, Value.int .u8 0, Value.int .u8 0, Value.int .u8 0, Value.int .u8 0] 36)).alloc (.cells #[Value.int .u8 0, Value.int .u8 0, Value.int .u8 0, Value.int .u8 0, Value.int .u8 0, Value.int .u8 0, Value.int .u8 0, Value.int .u8 0] 36)).cell? ⟨b, o + l * 8 + 5, none⟩ = some (.int .u8 (x5.toNat : Int)) := by rw [hB0.cell (p := ⟨b, o + l * 8 + 5, none⟩) hb]; exact hlast 5 _ rfl
 have k5 : (((w.alloc (.cells #[Value.int .u8 0, Value.int .u8 0, Value.int .u8 0, Value.int .u8 0, Value.int .u8 0, Value.int .u8 0, Value.int .u8 0, Value.int .u8 0] 36)).alloc (.cells #[Value.int .u8 0, Value.int .u8 0, Value.int .u8 0, Value.int .u8 0, Value.int .u8 0, Value.int .u8 0, Value.int .u8 0, Value.int .u8 0] 36)).alloc (.cells #[Value.int .u8 0, Value.int .u8 0, Value.int .u8 0, Value.int .u8 0, Value.int .u8 0, Value.int .u8 0, Value.int .u8 0, Value.int .u8 0] 36)).cell? ⟨b, o + l * 8 + 5, none⟩ = some (.int .u8 (x5.toNat : Int)) := by rw [hB1.cell (p := ⟨b, o + l * 8 + 5, none⟩) hb]; exact hlast 5 _ rfl
 have q6 : ((w.alloc (.cells #[Value.int .u8 0, Value.int .u8 0, Value.int .u8 0, Value.int .u8 0, Value.int .u8 0, Value.int .u8 0, Value.int .u8 0, Value.int .u8 0] 36)).alloc (.cells #[Value.int .u8 0, Value.int .u8 0, Value.int .u8 0, Value.int .u8 0, Value.int .u8 0, Value.int .u8 0, Value.int .u8 0, Value.int .u8 0] 36)).cell? ⟨b, o + l * 8 + 6, none⟩ = some (.int .u8 (x6.toNat : Int)) := by rw [hB0.cell (p := ⟨b, o + l * 8 + 6, none⟩) hb]; exact hlast 6 _ rfl
 have k6 : (((w.alloc (.cells #[Value.int .u8 0, Value.int .u8 0, Value.int .u8 0, Value.int .u8 0, Value.int .u8 0, Value.int .u8 0, Value.int .u8 0, Value.int .u8 0] 36)).alloc (.cells #[Value.int .u8 0, Value.int .u8 0, Value.int .u8 0, Value.int .u8 0, Value.int .u8 0, Value.int .u8 0, Value.int .u8 0, Value.int .u8 0] 36)).alloc (.cells #[Value.int .u8 0, Value.int .u8 0, Value.int .u8 0, Value.int .u8 0, Value.int .u8 0, Value.int .u8 0, Value.int .u8 0, Value.int .u8 0] 36)).cell? ⟨b, o + l * 8 + 6, none⟩ = some (.int .u8 (x6.toNat : Int)) := by rw [hB1.cell (p := ⟨b, o + l * 8 + 6, none⟩) hb]; exact hlast 6 _ rfl
 have q7 : ((w.alloc (.cells #[Value.int .u8 0, Value.int .u8 0, Value.int .u8 0, Value.int .u8 0, Value.int .u8 0, Value.int .u8 0, Value.int .u8 0, Value.int .u8 0] 36)).alloc (.cells #[Value.int .u8 0, Value.int .u8 0, Value.int .u8 0, Value.int .u8 0, Value.int .u8 0, Value.int .u8 0, Value.int .u8 0, Value.int .u8 0] 36)).cell? ⟨b, o + l * 8 + 7, none⟩ = some (.int .u8 (x7.toNat : Int)) := by rw [hB0.cell (p := ⟨b, o + l * 8 + 7, none⟩) hb]; exact hlast 7 _ rfl
 have k7 : (((w.alloc (.cells #[Value.int .u8 0, Value.int .u8 0, Value.int .u8 0, Value.int .u8 0, Value.int .u8 0, Value.int .u8 0, Value.int .u8 0, Value.int .u8 0] 36)).alloc (.cells #[Value.int .u8 0, Value.int .u8 0, Value.int .u8 0, Value.int .u8 0, Value.int .u8 0, Value.int .u8 0, Value.int .u8 0, Value.int .u8 0] 36)).alloc (.cells #[Value.int .u8 0, Value.int .u8 0, Value.int .u8 0, Value.int .u8 0, Value.int .u8 0, Value.int .u8 0, Value.int .u8 0, Value.int .u8 0] 36)).cell? ⟨b, o + l * 8 + 7, none⟩ = some (.int .u8 (x7.toNat : Int)) := by rw [hB1.cell (p := ⟨b, o + l * 8 + 7, none⟩) hb]; exact hlast 7 _ rfl
 have hmI : ((l + 1 : Nat) : Int) - 1 = (l : Int) := by omega
 have hm0 : (((l + 1 : Nat) : Int) == 0) = false := by rw [Bool.eq_false_iff]; simp only [ne_eq, beq_iff_eq]; omega
 have hmp : ((l + 1 : Nat) : Int) = (l : Int) + 1 := by omega
 have hcI : (cap : Int) ≤ 9223372036854775807 := by omega
 have hlc : (l : Int) < cap := by omega
 have hlI : (l : Int) ≤ 9223372036854775807 := by omega
 have hkc : ¬ cap = l := by omega
 have hwr : IntKind.i64.wrap (l : Int) = (l : Int) := Go.IntWalk.i64_in _ ⟨by omega, by omega⟩
 clear hlast
 have HB1 : Hid (Below w.heap.size w (((w.alloc (.cells #[Value.int .u8 0, Value.int .u8 0, Value.int .u8 0, Value.int .u8 0, Value.int .u8 0, Value.int .u8 0, Value.int .u8 0, Value.int .u8 0] 36)).alloc (.cells #[Value.int .u8 0, Value.int .u8 0, Value.int .u8 0, Value.int .u8 0, Value.int .u8 0, Value.int .u8 0, Value.int .u8 0, Value.int .u8 0] 36)).alloc (.cells #[Value.int .u8 (x0.toNat : Int), Value.int .u8 (x1.toNat : Int), Value.int .u8 (x2.toNat : Int), Value.int .u8 (x3.toNat : Int), Value.int .u8 (x4.toNat : Int), Value.int .u8 (x5.toNat : Int), Value.int .u8 (x6.toNat : Int), Value.int .u8 (x7.toNat : Int)] 36)).drew) := (hB0.alloc hB0.size _).drew
 have hR8 : RowV (((w.alloc (.cells #[Value.int .u8 0, Value.int .u8 0, Value.int .u8 0, Value.int .u8 0, Value.int .u8 0, Value.int .u8 0, Value.int .u8 0, Value.int .u8 0] 36)).alloc (.cells #[Value.int .u8 0, Value.int .u8 0, Value.int .u8 0, Value.int .u8 0, Value.int .u8 0, Value.int .u8 0, Value.int .u8 0, Value.int .u8 0] 36)).alloc (.cells #[Value.int .u8 (x0.toNat : Int), Value.int .u8 (x1.toNat : Int), Value.int .u8 (x2.toNat : Int), Value.int .u8 (x3.toNat : Int), Value.int .u8 (x4.toNat : Int), Value.int .u8 (x5.toNat : Int), Value.int .u8 (x6.toNat : Int), Value.int .u8 (x7.toNat : Int)] 36)) w.heap.size 36 z8 := ((RowV.new_at _ 36 w.heap.size z8 rfl).alloc _).alloc _
 have hR9 : RowV (((w.alloc (.cells #[Value.int .u8 0, Value.int .u8 0, Value.int .u8 0, Value.int .u8 0, Value.int .u8 0, Value.int .u8 0, Value.int .u8 0, Value.int .u8 0] 36)).alloc (.cells #[Value.int .u8 0, Value.int .u8 0, Value.int .u8 0, Value.int .u8 0, Value.int .u8 0, Value.int .u8 0, Value.int .u8 0, Value.int .u8 0] 36)).alloc (.cells #[Value.int .u8 (x0.toNat : Int), Value.int .u8 (x1.toNat : Int), Value.int .u8 (x2.toNat : Int), Value.int .u8 (x3.toNat : Int), Value.int .u8 (x4.toNat : Int), Value.int .u8 (x5.toNat : Int), Value.int .u8 (x6.toNat : Int), Value.int .u8 (x7.toNat : Int)] 36)) (w.heap.size + 1) 36 z8 := (RowV.new_at _ 36 (w.heap.size + 1) z8 (by simp)).alloc _
 have hR12 : RowV (((w.alloc (.cells #[Value.int .u8 0, Value.int .u8 0, Value.int .u8 0, Value.int .u8 0, Value.int .u8 0, Value.int .u8 0, Value.int .u8 0, Value.int .u8 0] 36)).alloc (.cells #[Value.int .u8 0, Value.int .u8 0, Value.int .u8 0, Value.int .u8 0, Value.int .u8 0, Value.int .u8 0, Value.int .u8 0, Value.int .u8 0] 36)).alloc (.cells #[Value.int .u8 (x0.toNat : Int), Value.int .u8 (x1.toNat : Int), Value.int .u8 (x2.toNat : Int), Value.int .u8 (x3.toNat : Int), Value.int .u8 (x4.toNat : Int), Value.int .u8 (x5.toNat : Int), Value.int .u8 (x6.toNat : Int), Value.int .u8 (x7.toNat : Int)] 36)) (w.heap.size + 1 + 1) 36 ([x0, x1, x2, x3, x4, x5, x6, x7].map u8c) := RowV.new_at _ 36 (w.heap.size + 1 + 1) ([x0, x1, x2, x3, x4, x5, x6, x7].map u8c) (by simp)
 have HHF : Hid (∀ w : World, Calls Tryz.prog 128 #[.int .i64 (n : Int)] w fun e w' => e = .returned (.int .i64 (halfN n : Int)) ∧ w' = w) := fun w => first_all n w (by omega) hn
 have hhb := halfN_bd n (by omega)
 have HIH : Hid (∀ W, Below w.heap.size w W → Calls _ _ _ W _) := hIH
 clear hIH
 generalize halfN n = k at *
 have hmi : ((m : Int) == (n : Int)) = false := by rw [Bool.eq_false_iff]; simp only [ne_eq, beq_iff_eq]; omega
 have hnI : (n : Int) ≤ 9223372036854775807 := by omega
 have hmnI : (m : Int) < n := by omega
 have hk1I : (1 : Int) ≤ k := by omega
 have hkI : ¬ (m : Int) ≤ k := by omega
 have hmk : (m : Int) - k = ((m - k : Nat) : Int) := by omega
 have hnk : (n : Int) - k = ((n - k : Nat) : Int) := by omega
 generalize (m - k : Nat) = mk at *
 generalize (n - k : Nat) = nk at *
 go_enter Tryz.func136, Tryz.ntmps136
 go_wp2
 go_region
 go_wp2_with fail
 refine (HHF.out _).mono ?_
 rintro v w1 ⟨rfl, rfl⟩
 go_wp2_with fail
 refine (HIH.out _ (by exact HB1.out)).mono ?_
 rintro v w3 ⟨⟨a, c, ha, hc', rfl, hO⟩, hb3⟩
 have HB3 : Hid (Below w.heap.size w w3) := HB1.out.trans (hb3.mono HB1.out.size)
 have R8 : RowV w3 w.heap.size 36 z8 := RowV.past hb3 (by exact hR8)
 have R9 : RowV w3 (w.heap.size + 1) 36 z8 := RowV.past hb3 (by exact hR9)
 have R12 : RowV w3 (w.heap.size + 1 + 1) 36 ([x0, x1, x2, x3, x4, x5, x6, x7].map u8c) := RowV.past hb3 (by exact hR12)
 have hl12 := R12.lt
 clear hb3 hR8 hR9 hR12 hB0 hB1 q0 k0 q1 k1 q2 k2 q3 k3 q4 k4 q5 k5 q6 k6 q7 k7
 go_wp2_with (first
  | (refine wp_storeD (by rfl) (.tmp 8) (.tmp 82) (by rfl) w.heap.size (by rfl) a ha (by rfl) R8 (by rfl) ?_; intro w4 A8 hf4 hz4; have A9 : RowV w4 (w.heap.size + 1) 36 z8 := R9.of_block (hf4.block _ R9.lt (fun e => by omega)); have A12 : RowV w4 (w.heap.size + 1 + 1) 36 ([x0, x1, x2, x3, x4, x5, x6, x7].map u8c) := R12.of_block (hf4.block _ R12.lt (fun e => by omega)); have HB4 : Hid (Below w.heap.size w w4) := HB3.out.trans (hf4.below HB3.out.size (fun k hk => by omega)))
  | (refine wp_storeD (by rfl) (.tmp 9) (.tmp 83) (by rfl) (w.heap.size + 1) (by rfl) c hc' (by rfl) A9 (by rfl) ?_; intro w5 S9 hf5 hz5; have S8 : RowV w5 w.heap.size 36 (a.map u8c) := A8.of_block (hf5.block _ A8.lt (fun e => by omega)); have S12 : RowV w5 (w.heap.size + 1 + 1) 36 ([x0, x1, x2, x3, x4, x5, x6, x7].map u8c) := A12.of_block (hf5.block _ A12.lt (fun e => by omega)); have HB5 : Hid (Below w.heap.size w w5) := HB4.out.trans (hf5.below HB4.out.size (fun k hk => by omega))))
 clear R8 R9 R12 A8 A9 A12 hf4 hf5 hz4 hz5 hl12
 have HO : Hid (∀ q, O = some q → q = (a, c)) := hO
 have HNE : Hid (w.heap.size ≠ (w.heap.size + 1)) := by unfold Hid; omega
 clear hO
 refine region_U (fun W' => RowV W' (w.heap.size + 1 + 1) 36 ([x0, x1, x2, x3, x4, x5, x6, x7].map u8c) ∧ RowV W' w.heap.size 36 (a.map u8c) ∧ RowV W' (w.heap.size + 1) 36 (c.map u8c)) 7 (by kernel_rfl) ⟨S12.of_block rfl, S8.of_block rfl, S9.of_block rfl⟩ (fun hH => ?_)
 refine anyU_take 0 _ (dV [x0, x1, x2, x3, x4, x5, x6, x7]) [2, 7] rfl (by kernel_rfl) (by kernel_rfl) (by kernel_rfl) (fun _ _ _ h => h) (by kernel_rfl) hH (yieldsIf_load_mid (by rfl) _ _ rfl (w.heap.size + 1 + 1) 0 rfl ([x0, x1, x2, x3, x4, x5, x6, x7].map u8c) _ (fun W h => h.1.range) Tryz.underlying36 rfl (by simpa [List.length_map] using Tryz.infoDig)) ?_
 try simp only [Act.put, List.setIfInBounds_toArray, List.set_cons_zero, List.set_cons_succ]
 refine anyU_take 1 _ (dV a) [2, 7] rfl (by kernel_rfl) (by kernel_rfl) (by kernel_rfl) (fun _ _ _ h => h) (by kernel_rfl) hH (yieldsIf_load_mid (by rfl) _ _ rfl w.heap.size 0 rfl (a.map u8c) _ (fun W h => h.2.1.range) Tryz.underlying36 rfl (by simpa [ha] using Tryz.infoDig)) ?_
 try simp only [Act.put, List.setIfInBounds_toArray, List.set_cons_zero, List.set_cons_succ]
 refine anyU_take 3 _ (dV [x0, x1, x2, x3, x4, x5, x6, x7]) [5, 7] rfl (by kernel_rfl) (by kernel_rfl) (by kernel_rfl) (fun _ _ _ h => h) (by kernel_rfl) hH (yieldsIf_load_mid (by rfl) _ _ rfl (w.heap.size + 1 + 1) 0 rfl ([x0, x1, x2, x3, x4, x5, x6, x7].map u8c) _ (fun W h => h.1.range) Tryz.underlying36 rfl (by simpa [List.length_map] using Tryz.infoDig)) ?_
 try simp only [Act.put, List.setIfInBounds_toArray, List.set_cons_zero, List.set_cons_succ]
 refine anyU_take 4 _ (dV c) [5, 7] rfl (by kernel_rfl) (by kernel_rfl) (by kernel_rfl) (fun _ _ _ h => h) (by kernel_rfl) hH (yieldsIf_load_mid (by rfl) _ _ rfl (w.heap.size + 1) 0 rfl (c.map u8c) _ (fun W h => h.2.2.range) Tryz.underlying36 rfl (by simpa [hc'] using Tryz.infoDig)) ?_
 try simp only [Act.put, List.setIfInBounds_toArray, List.set_cons_zero, List.set_cons_succ]
 refine anyU_move 6 _ _ rfl (by kernel_rfl) (by kernel_rfl) (by kernel_rfl) (fun _ _ _ h => h) (by decide) hH (Or.inl ⟨by rfl, fun w _ => by rfl⟩) ?_
 try simp only [Act.put, List.setIfInBounds_toArray, List.set_cons_zero, List.set_cons_succ]
 refine anyU_one 2 _ (by kernel_rfl) rfl (fun K hK => ?_)
 rw [if_pos (by rfl)]
 go_simp
 refine (sumTwo_any [x0, x1, x2, x3, x4, x5, x6, x7] a _ rfl ha).mono ?_
 rintro e w6 ⟨rfl, hb2⟩
 have P12 : RowV w6 (w.heap.size + 1 + 1) 36 ([x0, x1, x2, x3, x4, x5, x6, x7].map u8c) := RowV.past hb2 (by exact hH.1)
 have P8 : RowV w6 w.heap.size 36 (a.map u8c) := RowV.past hb2 (by exact hH.2.1)
 have P9 : RowV w6 (w.heap.size + 1) 36 (c.map u8c) := RowV.past hb2 (by exact hH.2.2)
 have HB6 : Hid (Below w.heap.size w w6) := HB5.out.trans (by have hq := hb2.mono HB5.out.size; exact ⟨hq.os, hq.tape, hq.output, hq.size, hq.block⟩)
 clear hb2
 refine hK.out _ _ ⟨P12, P8, P9⟩ ?_
 clear hK K
 try simp only [Act.put, List.setIfInBounds_toArray, List.set_cons_zero, List.set_cons_succ]
 have hH : _ ∧ _ ∧ _ := ⟨P12, P8, P9⟩
 refine anyU_one 5 _ (by kernel_rfl) rfl (fun K hK => ?_)
 rw [if_pos (by rfl)]
 go_simp
 refine (sumTwo_any [x0, x1, x2, x3, x4, x5, x6, x7] c _ rfl hc').mono ?_
 rintro e w7 ⟨rfl, hb5⟩
 have Q12 : RowV w7 (w.heap.size + 1 + 1) 36 ([x0, x1, x2, x3, x4, x5, x6, x7].map u8c) := RowV.past hb5 (by exact hH.1)
 have Q8 : RowV w7 w.heap.size 36 (a.map u8c) := RowV.past hb5 (by exact hH.2.1)
 have Q9 : RowV w7 (w.heap.size + 1) 36 (c.map u8c) := RowV.past hb5 (by exact hH.2.2)
 have HB7 : Hid (Below w.heap.size w w7) := HB6.out.trans (by have hq := hb5.mono HB6.out.size; exact ⟨hq.os, hq.tape, hq.output, hq.size, hq.block⟩)
 clear hb5
 refine hK.out _ _ ⟨Q12, Q8, Q9⟩ ?_
 clear hK K
 try simp only [Act.put, List.setIfInBounds_toArray, List.set_cons_zero, List.set_cons_succ]
 refine anyU_past 7 _ (by kernel_rfl) rfl (by kernel_rfl) (fun K hK => ?_)
 rw [if_pos (by rfl)]
 refine wpO_storeD (.tmp 8) (.tmp 87) (by rfl) w.heap.size (by rfl) (digB (1 :: ([x0, x1, x2, x3, x4, x5, x6, x7] ++ a))) (digB_length _) (by rfl) Q8 (by simp [ha, hc']) ?_
 intro w8 U7 hf7 hz7
 refine hK.out _ _ ?_
 clear hK K
 try simp only [Act.put, List.setIfInBounds_toArray, List.set_cons_zero, List.set_cons_succ]
 have V9 : RowV w8 (w.heap.size + 1) 36 (c.map u8c) := Q9.of_block (hf7.block _ Q9.lt (fun e => by omega))
 refine anyU_past 8 _ (by kernel_rfl) rfl (by kernel_rfl) (fun K hK => ?_)
 rw [if_pos (by rfl)]
 refine wpO_storeD (.tmp 9) (.tmp 90) (by rfl) (w.heap.size + 1) (by rfl) (digB (1 :: ([x0, x1, x2, x3, x4, x5, x6, x7] ++ c))) (digB_length _) (by rfl) V9 (by simp [ha, hc']) ?_
 intro w9 U8 hf8 hz8
 refine hK.out _ _ ?_
 clear hK K
 try simp only [Act.put, List.setIfInBounds_toArray, List.set_cons_zero, List.set_cons_succ]
 have V8 : RowV w9 w.heap.size 36 ((digB (1 :: ([x0, x1, x2, x3, x4, x5, x6, x7] ++ a))).map u8c) := U7.of_block (hf8.block _ U7.lt (fun e => by omega))
 refine anyU_past 9 _ (by kernel_rfl) rfl (by kernel_rfl) (fun K hK => ?_)
 rw [if_pos (by rfl)]
 go_simp
 refine hK.out _ _ ?_
 clear hK K
 try simp only [Act.put, List.setIfInBounds_toArray, List.set_cons_zero, List.set_cons_succ]
 refine anyU_done (by kernel_rfl) ?_ _
 go_wp2
 refine ret_dig3 (k := 8) (k' := 9) (j := 10) (d := digB (1 :: ([x0, x1, x2, x3, x4, x5, x6, x7] ++ a))) (d' := digB (1 :: ([x0, x1, x2, x3, x4, x5, x6, x7] ++ c))) rfl rfl rfl V8 (digB_length _) U8 (digB_length _) rfl rfl ⟨⟨digB (1 :: ([x0, x1, x2, x3, x4, x5, x6, x7] ++ a)), digB (1 :: ([x0, x1, x2, x3, x4, x5, x6, x7] ++ c)), digB_length _, digB_length _, ?_, ?_⟩, ?_⟩
 ·rw [Option.isSome_map]; rfl
 ·intro q hq
  cases hOO : O with
  | none => rw [hOO] at hq; cases hq
  | some q' =>
   rw [hOO] at hq
   have := HO.out q' hOO
   subst this
   simp only [Option.map_some, Option.some.injEq] at hq
   exact hq.symm
 ·exact (HB7.out.trans (hf7.below HB7.out.size (fun k hk => by omega))).trans (hf8.below (by have := HB7.out.size; omega) (fun k hk => by omega))
end Go.Proofs.YtekegfbjbainhaaGreat
