
import Derived.Test.YtekegfbjbainhaaKJoin21
import Derived.Test.YtekegfbjbainhaaKJoin12
import Derived.ProofKit
import Derived.SizedLaws
import Derived.OpenShut
import Derived.Carry
import Derived.ChangeMaps5
import Derived.Deep.Slices
set_option linter.unusedVariables false
set_option linter.unusedSimpArgs false
namespace Go.Proofs.Ytekegfbjbainhaa
open Go.ChangeShapes Go.WideShapes Go.ChangeAt Go.RowKit Go.Deep
theorem Try.ownS : ownKnob Try.prog.godebug = none := by kernel_rfl
theorem Try.laidOutS : laidOutB Try.prog = true := by kernel_rfl
theorem Try.cellsAct : Try.prog.cellsOf 82 = 3 := by kernel_rfl
theorem Try.cellsInt : Try.prog.cellsOf 3 = 1 := by kernel_rfl
theorem Try.cellsStr : Try.prog.cellsOf 9 = 1 := by kernel_rfl
theorem list3 {α : Type} (l : List α) (h : l.length = 3) : ∃ c0 c1 c2, l = [c0, c1, c2] := by
 match l, h with
 | [c0, c1, c2], _ => exact ⟨c0, c1, c2, rfl⟩
theorem wf_i64 {x : Int} (h : (Lit.int .i64 x).wf = true) : -9223372036854775808 ≤ x ∧ x ≤ 9223372036854775807 := by
 simp only [Lit.wf, Bool.and_eq_true, decide_eq_true_eq] at h
 have e1 : IntKind.i64.min = -9223372036854775808 := by decide
 have e2 : IntKind.i64.max = 9223372036854775807 := by decide
 rw [e1, e2] at h
 exact h
theorem bytes_list (s : ByteArray) : s = ⟨s.data.toList.toArray⟩ := by simp
section
variable {H : Type} {enc : TypeId × Value → H} {w : World} {base : Nat} {sp : Nat → Bool} {held : Bool} {fuel : Nat}
theorem open_act {cs : List Value} {x : DataW H × List MemPlace} (h : DataW.trod enc Try.prog w base sp held fuel 82 cs = some x) :
  ∃ o : ActR, cs = o.cells ∧ x.1 = .agg [.lit (.int .i64 o.kind), .lit (.string o.key), .lit (.string o.val)] ∧ (Lit.int .i64 o.kind).wf = true := by
 obtain ⟨xs, m, rfl, rfl, hl, hx, hf⟩ := DataW.trod_struct Try.underlying82 h
 rw [Try.cellsAct] at hl
 obtain ⟨c0, c1, c2, rfl⟩ := list3 cs hl
 obtain ⟨y0, y1, y2, rfl⟩ := list3 xs hx
 have f0 : DataW.trod enc Try.prog w base sp held m 3 (List.take (Try.prog.cellsOf 3) (List.drop 0 [c0, c1, c2])) = some y0 := hf 0 _ rfl
 have f1 : DataW.trod enc Try.prog w base sp held m 9 (List.take (Try.prog.cellsOf 9) (List.drop 1 [c0, c1, c2])) = some y1 := hf 1 _ rfl
 have f2 : DataW.trod enc Try.prog w base sp held m 9 (List.take (Try.prog.cellsOf 9) (List.drop 2 [c0, c1, c2])) = some y2 := hf 2 _ rfl
 clear hf
 rw [Try.cellsInt] at f0
 rw [Try.cellsStr] at f1 f2
 obtain ⟨n0, e0, g0, w0⟩ := DataW.trod_int Try.underlying3 f0
 obtain ⟨s1, e1, g1, w1⟩ := DataW.trod_string Try.underlying9 f1
 obtain ⟨s2, e2, g2, w2⟩ := DataW.trod_string Try.underlying9 f2
 simp only [List.drop_zero, List.drop_succ_cons, List.take_succ_cons, List.take_zero, List.cons.injEq, and_true] at e0 e1 e2
 subst e0 e1 e2 g0 g1 g2
 refine ⟨⟨n0, s1.data.toList, s2.data.toList⟩, ?_, rfl, w0⟩
 unfold ActR.cells
 simp only [← bytes_list]
theorem weightsAll_in {P : Program} {e : TypeId} : ∀ {l : List (DataW H)} {d : DataW H}, d ∈ l → ∀ n ∈ d.weights P e, n ∈ DataW.weightsAll P e l
 | d' :: r, d, hd, n, hn => by
  simp only [DataW.weightsAll, List.mem_append]
  rcases List.mem_cons.1 hd with rfl | h
  ·exact Or.inl hn
  ·exact Or.inr (weightsAll_in h n hn)
theorem cell_lt {W : World} {b o : Nat} {v : Value} (h : W.cell? ⟨b, o, none⟩ = some v) : b < W.heap.size := by
 unfold World.cell? at h
 cases hx : W.heap[b]? with
 | none => simp [hx] at h
 | some c => exact (Array.getElem?_eq_some_iff.1 hx).1
set_option maxRecDepth 100000 in
theorem open_acts {W : World} {a0 : Option Addr} {len cap : Nat} {d0 : DataW H} {p : List MemPlace} (h : DataW.trod enc Try.prog W 0 (fun _ => true) true fuel 22 [.slice a0 len cap] = some (d0, p))
  (hsz : ∀ n ∈ d0.weights Try.prog 22, n ≤ reachBytes) :
  ∃ f : Nat → ActR, ActsAt W a0 len f ∧ len ≤ maxLen := by
 rcases open_slice Try.underlying22 h with ⟨hcs, _⟩ | ⟨a, len', cap', m, n, D, Pl, hcs, _, hl, hmx, hm, hx, hel⟩
 ·simp only [List.cons.injEq, Value.slice.injEq, and_true] at hcs
  obtain ⟨rfl, rfl, rfl⟩ := hcs
  exact ⟨fun _ => ⟨0, [], []⟩, fun i hi => absurd hi (Nat.not_lt_zero _), Nat.zero_le _⟩
 simp only [List.cons.injEq, Value.slice.injEq, and_true] at hcs
 obtain ⟨rfl, rfl, rfl⟩ := hcs
 simp only [Prod.mk.injEq] at hx
 obtain ⟨rfl, rfl⟩ := hx
 rw [Try.cellsAct] at hel
 have hone : ∀ i, i < len → ∃ o : ActR, (∃ b k, a = ⟨b, k, none⟩ ∧ b < W.heap.size ∧ W.rangeAt b (k + i * 3) o.cells) ∧ o.key.length ≤ 140737488351232 ∧ o.val.length ≤ 140737488351232 ∧ (Lit.int .i64 o.kind).wf = true := by
  intro i hi
  obtain ⟨cs', hc, ht⟩ := hel i (by rw [hm]; simp; omega)
  obtain ⟨o, rfl, hd, wk⟩ := open_act ht
  have hin : ∀ x ∈ (D i).weights Try.prog 82, x ≤ reachBytes := fun x hx => by
   refine hsz x ?_
   simp only [DataW.weights, Try.underlying22, List.mem_cons, List.mem_append]
   exact Or.inr (Or.inl (weightsAll_in (List.mem_map.2 ⟨i, List.mem_range.2 hi, rfl⟩) x hx))
  simp only at hd
  rw [hd] at hin
  simp only [DataW.weights, Try.underlying82, List.map_cons, List.map_nil, DataW.weightsEach, List.nil_append, List.append_nil, List.mem_append, List.mem_singleton] at hin
  have hr : reachBytes = 140737488351232 := rfl
  have z4 := hin o.key.length (by simp)
  have z5 := hin o.val.length (by simp)
  rw [hr] at z4 z5
  have hcell : ∀ j v, o.cells[j]? = some v → W.cell? ((a.add (i * 3)).add j) = some v := fun j v hv => by
   unfold World.cells? at hc
   rw [if_pos (Nat.zero_le _)] at hc
   have hj : j < 3 := (List.getElem?_eq_some_iff.1 hv).1
   have := mapM_some_get hc j j (by simp [hj])
   rw [this]; exact hv
  obtain ⟨b, k, sp⟩ := a
  have hs : sp = none := by
   by_cases hi0 : i = 0
   ·subst hi0
    have h00 := hcell 0 (.int .i64 o.kind) rfl
    simpa [Addr.add] using World.cell?_spot h00
   ·obtain ⟨cs0, hc0, _⟩ := hel 0 (by rw [hm]; simp; omega)
    unfold World.cells? at hc0
    rw [if_pos (Nat.zero_le _)] at hc0
    have h00 := mapM_some_get hc0 0 0 (by simp)
    have hlen := mapM_some_length hc0
    simp at hlen
    rw [List.getElem?_eq_getElem (by omega)] at h00
    simpa [Addr.add] using World.cell?_spot h00
  subst hs
  have hra : W.rangeAt b (k + i * 3) o.cells := fun j v hv => by
   have := hcell j v hv
   rw [addr_add, addr_add] at this
   exact this
  exact ⟨o, ⟨b, k, rfl, cell_lt (hra 0 (.int .i64 o.kind) rfl), hra⟩, z4, z5, wk⟩
 obtain ⟨f, hf⟩ := @choose_lt ActR ⟨⟨0, [], []⟩⟩ len _ hone
 refine ⟨f, fun i hi => ?_, by omega⟩
 obtain ⟨⟨b, k, rfl, hb, hra⟩, h4, h5, h6⟩ := hf i hi
 exact ⟨b, k, rfl, hb, hra, h4, h5, wf_i64 h6⟩
end
end Go.Proofs.Ytekegfbjbainhaa
