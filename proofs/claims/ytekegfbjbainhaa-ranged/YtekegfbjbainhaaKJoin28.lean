import Derived.Test.YtekegfbjbainhaaKJoin24
import Derived.Test.YtekegfbjbainhaaKJoin13
import Derived.ProofKit
import Derived.SizedLaws
import Derived.OpenShut
import Derived.Carry
import Derived.ChangeMaps5
import Derived.Deep.Slices
import Derived.Test.YtekegfbjbainhaaKJoin27
set_option linter.unusedVariables false
set_option linter.unusedSimpArgs false

namespace Go.Proofs.Ytekegfbjbainhaa
open Go.ChangeShapes Go.WideShapes Go.ChangeAt Go.RowKit Go.Deep
theorem Try.ownS : ownKnob Try.prog.godebug = none := by kernel_rfl
theorem Try.laidOutS : laidOutB Try.prog = true := by kernel_rfl
theorem Try.cellsAct : Try.prog.cellsOf 82 = 3 := by kernel_rfl
theorem Try.cellsInt : Try.prog.cellsOf 3 = 1 := by kernel_rfl
theorem Try.cellsStr : Try.prog.cellsOf 9 = 1 := by kernel_rfl
theorem list3 {α : Type} (l : List α) (h : l.length = 3) : ∃ c0 c1 c2, l = [c0, c1, c2] := by
 match l, h with
 | [c0, c1, c2], _ => exact ⟨c0, c1, c2, rfl⟩
theorem wf_i64 {x : Int} (h : (Lit.int .i64 x).wf = true) : -9223372036854775808 ≤ x ∧ x ≤ 9223372036854775807 := by
 simp only [Lit.wf, Bool.and_eq_true, decide_eq_true_eq] at h
 have e1 : IntKind.i64.min = -9223372036854775808 := by decide
 have e2 : IntKind.i64.max = 9223372036854775807 := by decide
 rw [e1, e2] at h
 exact h
theorem bytes_list (s : ByteArray) : s = ⟨s.data.toList.toArray⟩ := by simp
section
variable {H : Type} {enc : TypeId × Value → H} {w : World} {base : Nat} {sp : Nat → Bool} {held : Bool} {fuel : Nat}
theorem open_act {cs : List Value} {x : DataW H × List MemPlace} (h : DataW.trod enc Try.prog w base sp held fuel 82 cs = some x) :
  ∃ o : ActR, cs = o.cells ∧ x.1 = .agg [.lit (.int .i64 o.kind), .lit (.string o.key), .lit (.string o.val)] ∧ (Lit.int .i64 o.kind).wf = true := by
 obtain ⟨xs, m, rfl, rfl, hl, hx, hf⟩ := DataW.trod_struct Try.underlying82 h
 rw [Try.cellsAct] at hl
 obtain ⟨c0, c1, c2, rfl⟩ := list3 cs hl
 obtain ⟨y0, y1, y2, rfl⟩ := list3 xs hx
 have f0 : DataW.trod enc Try.prog w base sp held m 3 (List.take (Try.prog.cellsOf 3) (List.drop 0 [c0, c1, c2])) = some y0 := hf 0 _ rfl
 have f1 : DataW.trod enc Try.prog w base sp held m 9 (List.take (Try.prog.cellsOf 9) (List.drop 1 [c0, c1, c2])) = some y1 := hf 1 _ rfl
 have f2 : DataW.trod enc Try.prog w base sp held m 9 (List.take (Try.prog.cellsOf 9) (List.drop 2 [c0, c1, c2])) = some y2 := hf 2 _ rfl
 clear hf
 rw [Try.cellsInt] at f0
 rw [Try.cellsStr] at f1 f2
 obtain ⟨n0, e0, g0, w0⟩ := DataW.trod_int Try.underlying3 f0
 obtain ⟨s1, e1, g1, w1⟩ := DataW.trod_string Try.underlying9 f1
 obtain ⟨s2, e2, g2, w2⟩ := DataW.trod_string Try.underlying9 f2
 simp only [List.drop_zero, List.drop_succ_cons, List.take_succ_cons, List.take_zero, List.cons.injEq, and_true] at e0 e1 e2
 subst e0 e1 e2 g0 g1 g2
 refine ⟨⟨n0, s1.data.toList, s2.data.toList⟩, ?_, rfl, w0⟩
 unfold ActR.cells
 simp only [← bytes_list]
theorem weightsAll_in {P : Program} {e : TypeId} : ∀ {l : List (DataW H)} {d : DataW H}, d ∈ l → ∀ n ∈ d.weights P e, n ∈ DataW.weightsAll P e l
 | d' :: r, d, hd, n, hn => by
  simp only [DataW.weightsAll, List.mem_append]
  rcases List.mem_cons.1 hd with rfl | h
  ·exact Or.inl hn
  ·exact Or.inr (weightsAll_in h n hn)
theorem cell_lt {W : World} {b o : Nat} {v : Value} (h : W.cell? ⟨b, o, none⟩ = some v) : b < W.heap.size := by
 unfold World.cell? at h
 cases hx : W.heap[b]? with
 | none => simp [hx] at h
 | some c => exact (Array.getElem?_eq_some_iff.1 hx).1
set_option maxRecDepth 100000 in
theorem open_acts {W : World} {a0 : Option Addr} {len cap : Nat} {d0 : DataW H} {p : List MemPlace} (h : DataW.trod enc Try.prog W 0 (fun _ => true) true fuel 22 [.slice a0 len cap] = some (d0, p))
  (hsz : ∀ n ∈ d0.weights Try.prog 22, n ≤ reachBytes) :
  ∃ f : Nat → ActR, ActsAt W a0 len f ∧ len ≤ maxLen := by
 rcases open_slice Try.underlying22 h with ⟨hcs, _⟩ | ⟨a, len', cap', m, n, D, Pl, hcs, _, hl, hmx, hm, hx, hel⟩
 ·simp only [List.cons.injEq, Value.slice.injEq, and_true] at hcs
  obtain ⟨rfl, rfl, rfl⟩ := hcs
  exact ⟨fun _ => ⟨0, [], []⟩, fun i hi => absurd hi (Nat.not_lt_zero _), Nat.zero_le _⟩
 simp only [List.cons.injEq, Value.slice.injEq, and_true] at hcs
 obtain ⟨rfl, rfl, rfl⟩ := hcs
 simp only [Prod.mk.injEq] at hx
 obtain ⟨rfl, rfl⟩ := hx
 rw [Try.cellsAct] at hel
 have hone : ∀ i, i < len → ∃ o : ActR, (∃ b k, a = ⟨b, k, none⟩ ∧ b < W.heap.size ∧ W.rangeAt b (k + i * 3) o.cells) ∧ o.key.length ≤ 140737488351232 ∧ o.val.length ≤ 140737488351232 ∧ (Lit.int .i64 o.kind).wf = true := by
  intro i hi
  obtain ⟨cs', hc, ht⟩ := hel i (by rw [hm]; simp; omega)
  obtain ⟨o, rfl, hd, wk⟩ := open_act ht
  have hin : ∀ x ∈ (D i).weights Try.prog 82, x ≤ reachBytes := fun x hx => by
   refine hsz x ?_
   simp only [DataW.weights, Try.underlying22, List.mem_cons, List.mem_append]
   exact Or.inr (Or.inl (weightsAll_in (List.mem_map.2 ⟨i, List.mem_range.2 hi, rfl⟩) x hx))
  simp only at hd
  rw [hd] at hin
  simp only [DataW.weights, Try.underlying82, List.map_cons, List.map_nil, DataW.weightsEach, List.nil_append, List.append_nil, List.mem_append, List.mem_singleton] at hin
  have hr : reachBytes = 140737488351232 := rfl
  have z4 := hin o.key.length (by simp)
  have z5 := hin o.val.length (by simp)
  rw [hr] at z4 z5
  have hcell : ∀ j v, o.cells[j]? = some v → W.cell? ((a.add (i * 3)).add j) = some v := fun j v hv => by
   unfold World.cells? at hc
   rw [if_pos (Nat.zero_le _)] at hc
   have hj : j < 3 := (List.getElem?_eq_some_iff.1 hv).1
   have := mapM_some_get hc j j (by simp [hj])
   rw [this]; exact hv
  obtain ⟨b, k, sp⟩ := a
  have hs : sp = none := by
   by_cases hi0 : i = 0
   ·subst hi0
    have h00 := hcell 0 (.int .i64 o.kind) rfl
    simpa [Addr.add] using World.cell?_spot h00
   ·obtain ⟨cs0, hc0, _⟩ := hel 0 (by rw [hm]; simp; omega)
    unfold World.cells? at hc0
    rw [if_pos (Nat.zero_le _)] at hc0
    have h00 := mapM_some_get hc0 0 0 (by simp)
    have hlen := mapM_some_length hc0
    simp at hlen
    rw [List.getElem?_eq_getElem (by omega)] at h00
    simpa [Addr.add] using World.cell?_spot h00
  subst hs
  have hra : W.rangeAt b (k + i * 3) o.cells := fun j v hv => by
   have := hcell j v hv
   rw [addr_add, addr_add] at this
   exact this
  exact ⟨o, ⟨b, k, rfl, cell_lt (hra 0 (.int .i64 o.kind) rfl), hra⟩, z4, z5, wk⟩
 obtain ⟨f, hf⟩ := @choose_lt ActR ⟨⟨0, [], []⟩⟩ len _ hone
 refine ⟨f, fun i hi => ?_, by omega⟩
 obtain ⟨⟨b, k, rfl, hb, hra⟩, h4, h5, h6⟩ := hf i hi
 exact ⟨b, k, rfl, hb, hra, h4, h5, wf_i64 h6⟩
end
end Go.Proofs.Ytekegfbjbainhaa


namespace Go.Proofs.Ytekegfbjbainhaa
open Go.ChangeShapes Go.WideShapes Go.ChangeAt Go.RowKit Go.Deep
section
variable {H : Type} {enc : TypeId × Value → H} {P : Program} {w : World} {base : Nat} {spare : Nat → Bool} {held : Bool}
theorem trodAll_7 {t0 t1 t2 t3 t4 t5 t6 : TypeId} {args : Array Value} {ds : List (DataW H)} {ps : List MemPlace} (h : DataW.TrodAll enc P w base spare held [t0, t1, t2, t3, t4, t5, t6] args.toList ds ps) :
  ∃ v0 v1 v2 v3 v4 v5 v6 d0 d1 d2 d3 d4 d5 d6 p0 p1 p2 p3 p4 p5 p6, args = #[v0, v1, v2, v3, v4, v5, v6] ∧ ds = [d0, d1, d2, d3, d4, d5, d6] ∧ ps = p0 ++ (p1 ++ (p2 ++ (p3 ++ (p4 ++ (p5 ++ p6))))) ∧ DataW.Trod enc P w base spare held t0 v0 d0 p0 ∧ DataW.Trod enc P w base spare held t1 v1 d1 p1 ∧ DataW.Trod enc P w base spare held t2 v2 d2 p2 ∧ DataW.Trod enc P w base spare held t3 v3 d3 p3 ∧ DataW.Trod enc P w base spare held t4 v4 d4 p4 ∧ DataW.Trod enc P w base spare held t5 v5 d5 p5 ∧ DataW.Trod enc P w base spare held t6 v6 d6 p6 := by
 obtain ⟨v0, vs0, d0, ds0, p0, q0, hargs, rfl, rfl, h0, hr⟩ := trodAll_cons h
 obtain ⟨v1, vs1, d1, ds1, p1, q1, rfl, rfl, rfl, h1, hr⟩ := trodAll_cons hr
 obtain ⟨v2, vs2, d2, ds2, p2, q2, rfl, rfl, rfl, h2, hr⟩ := trodAll_cons hr
 obtain ⟨v3, vs3, d3, ds3, p3, q3, rfl, rfl, rfl, h3, hr⟩ := trodAll_cons hr
 obtain ⟨v4, vs4, d4, ds4, p4, q4, rfl, rfl, rfl, h4, hr⟩ := trodAll_cons hr
 obtain ⟨v5, vs5, d5, ds5, p5, q5, rfl, rfl, rfl, h5, hr⟩ := trodAll_cons hr
 obtain ⟨v6, vs6, d6, ds6, p6, q6, rfl, rfl, rfl, h6, hr⟩ := trodAll_cons hr
 obtain ⟨rfl, rfl, rfl⟩ := trodAll_nil hr
 exact ⟨v0, v1, v2, v3, v4, v5, v6, d0, d1, d2, d3, d4, d5, d6, p0, p1, p2, p3, p4, p5, p6, by cases args; simp_all, rfl, by simp, h0, h1, h2, h3, h4, h5, h6⟩
theorem trodAll_c {t : TypeId} {ts : List TypeId} {v : Value} {vs : List Value} {d : DataW H} {ds : List (DataW H)} {p q : List MemPlace} (h : DataW.Trod enc P w base spare held t v d p) (hr : DataW.TrodAll enc P w base spare held ts vs ds q) : DataW.TrodAll enc P w base spare held (t :: ts) (v :: vs) (d :: ds) (p ++ q) := ⟨p, q, h, hr, rfl⟩
end
section
variable {H : Type} {enc : TypeId × Value → H} {fuel : Nat}
theorem Try.cellsTurn : Try.prog.cellsOf 108 = 3 := by kernel_rfl
theorem wf_u8 {x : Int} (h : (Lit.int .u8 x).wf = true) : ∃ z : UInt8, x = (z.toNat : Int) := by
 simp only [Lit.wf, Bool.and_eq_true, decide_eq_true_eq] at h
 have e1 : IntKind.u8.min = 0 := by decide
 have e2 : IntKind.u8.max = 255 := by decide
 rw [e1, e2] at h
 exact ⟨UInt8.ofNat x.toNat, by rw [UInt8.toNat_ofNat']; omega⟩
theorem okWide_at {P : Program} {t e : TypeId} {W : World} {base : Nat} {a : Addr} {len cap : Nat} (ht : P.underlying t = some (.slice e)) (h : Value.okWide P W .any base t (.slice (some a) len cap)) : a.spot = none ∧ a.block < W.heap.size := by
 unfold Value.okWide at h
 rw [ht] at h
 simp only at h
 unfold Cell.okWide at h
 rw [ht] at h
 simp only at h
 unfold Cell.ok at h
 rw [ht] at h
 simp only at h
 obtain ⟨_, _, _, hs, row, cells, hsh, _⟩ := h
 refine ⟨hs, ?_⟩
 unfold World.shape? at hsh
 cases hx : W.heap[a.block]? with
 | none => rw [hx] at hsh; simp at hsh
 | some c => exact (Array.getElem?_eq_some_iff.1 hx).1
set_option maxRecDepth 100000 in
theorem open_bytes {W : World} {base : Nat} {a0 : Option Addr} {len cap : Nat} {d0 : DataW H} {p : List MemPlace} (hok : Value.okWide Try.prog W .any base 35 (.slice a0 len cap)) (h : DataW.trod enc Try.prog W 0 (fun _ => true) true fuel 35 [.slice a0 len cap] = some (d0, p)) :
  ∃ l : List UInt8, BS W ⟨a0, len, cap⟩ l ∧ len ≤ cap := by
 rcases open_slice1 Try.underlying35 Try.cellsU8 h with ⟨hcs, _⟩ | ⟨a, len', cap', m, n, V, D, Pl, hcs, _, hl, hmx, hm, hx, hel⟩
 ·simp only [List.cons.injEq, Value.slice.injEq, and_true] at hcs
  obtain ⟨rfl, rfl, rfl⟩ := hcs
  exact ⟨[], ⟨SlB.nil _ _, rfl, fun _ => rfl, fun x hx => (by cases hx)⟩, Nat.le_refl _⟩
 simp only [List.cons.injEq, Value.slice.injEq, and_true] at hcs
 obtain ⟨rfl, rfl, rfl⟩ := hcs
 have hone : ∀ i, i < len → ∃ z : UInt8, W.cell? (a.add i) = some (.int .u8 (z.toNat : Int)) := fun i hi => by
  obtain ⟨h1, h2⟩ := hel i (by rw [hm]; simp; omega)
  obtain ⟨c, e0, _, w0⟩ := DataW.trod_int Try.underlying5 h2
  simp only [List.cons.injEq, and_true] at e0
  obtain ⟨z, hz⟩ := wf_u8 w0
  exact ⟨z, by rw [h1, e0, hz]⟩
 obtain ⟨f, hf⟩ := @choose_lt UInt8 ⟨0⟩ len _ hone
 obtain ⟨hs, hlt⟩ := okWide_at Try.underlying35 hok
 obtain ⟨b, k, sp⟩ := a
 simp only at hs hlt
 subst hs
 refine ⟨(List.range len).map f, ⟨fun i hi => ⟨b, k, rfl, hlt, ?_⟩, by simp, fun h => (by cases h), fun x hx => (by cases hx; exact hlt)⟩, hl⟩
 simp only [List.length_map, List.length_range] at hi
 have := hf i hi
 rw [addr_add] at this
 rw [this]
 simp
set_option maxRecDepth 100000 in
theorem open_turns {W : World} {a0 : Option Addr} {len cap : Nat} {d0 : DataW H} {p : List MemPlace} (h : DataW.trod enc Try.prog W 0 (fun _ => true) true fuel 65 [.slice a0 len cap] = some (d0, p)) : ∃ f : Nat → TurnR, TurnsAt W a0 len f ∧ len ≤ maxLen := by
 rcases open_slice Try.underlying65 h with ⟨hcs, _⟩ | ⟨a, len', cap', m, n, D, Pl, hcs, _, hl, hmx, hm, hx, hel⟩
 ·simp only [List.cons.injEq, Value.slice.injEq, and_true] at hcs
  obtain ⟨rfl, rfl, rfl⟩ := hcs
  exact ⟨fun _ => ⟨0, 0, 0⟩, fun i hi => absurd hi (Nat.not_lt_zero _), Nat.zero_le _⟩
 simp only [List.cons.injEq, Value.slice.injEq, and_true] at hcs
 obtain ⟨rfl, rfl, rfl⟩ := hcs
 rw [Try.cellsTurn] at hel
 have hone : ∀ i, i < len → ∃ o : TurnR, (∃ b k, a = ⟨b, k, none⟩ ∧ b < W.heap.size ∧ W.rangeAt b (k + i * 3) [.int .i64 o.kind, .int .i64 o.place, .int .i64 o.dif]) ∧ I64 o.kind ∧ I64 o.place ∧ I64 o.dif := by
  intro i hi
  obtain ⟨cs', hc, ht⟩ := hel i (by rw [hm]; simp; omega)
  obtain ⟨xs, m', rfl, hd, hl', hx', hf⟩ := DataW.trod_struct Try.underlying108 ht
  rw [Try.cellsTurn] at hl'
  obtain ⟨c0, c1, c2, rfl⟩ := list3 cs' hl'
  obtain ⟨y0, y1, y2, rfl⟩ := list3 xs hx'
  have f0 : DataW.trod enc Try.prog W 0 (fun _ => true) true m' 3 (List.take (Try.prog.cellsOf 3) (List.drop 0 [c0, c1, c2])) = some y0 := hf 0 _ rfl
  have f1 : DataW.trod enc Try.prog W 0 (fun _ => true) true m' 3 (List.take (Try.prog.cellsOf 3) (List.drop 1 [c0, c1, c2])) = some y1 := hf 1 _ rfl
  have f2 : DataW.trod enc Try.prog W 0 (fun _ => true) true m' 3 (List.take (Try.prog.cellsOf 3) (List.drop 2 [c0, c1, c2])) = some y2 := hf 2 _ rfl
  clear hf
  rw [Try.cellsInt] at f0 f1 f2
  obtain ⟨n0, e0, g0, w0⟩ := DataW.trod_int Try.underlying3 f0
  obtain ⟨n1, e1, g1, w1⟩ := DataW.trod_int Try.underlying3 f1
  obtain ⟨n2, e2, g2, w2⟩ := DataW.trod_int Try.underlying3 f2
  simp only [List.drop_zero, List.drop_succ_cons, List.take_succ_cons, List.take_zero, List.cons.injEq, and_true] at e0 e1 e2
  subst e0 e1 e2
  have hcell : ∀ j v, [Value.int .i64 n0, .int .i64 n1, .int .i64 n2][j]? = some v → W.cell? ((a.add (i * 3)).add j) = some v := fun j v hv => by
   unfold World.cells? at hc
   rw [if_pos (Nat.zero_le _)] at hc
   have hj : j < 3 := (List.getElem?_eq_some_iff.1 hv).1
   have := mapM_some_get hc j j (by simp [hj])
   rw [this]; exact hv
  obtain ⟨b, k, sp⟩ := a
  have hs : sp = none := by
   by_cases hi0 : i = 0
   ·subst hi0
    have h00 := hcell 0 (.int .i64 n0) rfl
    simpa [Addr.add] using World.cell?_spot h00
   ·obtain ⟨cs0, hc0, _⟩ := hel 0 (by rw [hm]; simp; omega)
    unfold World.cells? at hc0
    rw [if_pos (Nat.zero_le _)] at hc0
    have h00 := mapM_some_get hc0 0 0 (by simp)
    have hlen := mapM_some_length hc0
    simp at hlen
    rw [List.getElem?_eq_getElem (by omega)] at h00
    simpa [Addr.add] using World.cell?_spot h00
  subst hs
  have hra : W.rangeAt b (k + i * 3) [.int .i64 n0, .int .i64 n1, .int .i64 n2] := fun j v hv => by
   have := hcell j v hv
   rw [addr_add, addr_add] at this
   exact this
  exact ⟨⟨n0, n1, n2⟩, ⟨b, k, rfl, cell_lt (hra 0 (.int .i64 n0) rfl), hra⟩, wf_i64 w0, wf_i64 w1, wf_i64 w2⟩
 obtain ⟨f, hf⟩ := @choose_lt TurnR ⟨⟨0, 0, 0⟩⟩ len _ hone
 refine ⟨f, fun i hi => ?_, by omega⟩
 obtain ⟨⟨b, k, rfl, hb, hra⟩, h4⟩ := hf i hi
 exact ⟨b, k, rfl, hb, hra, h4⟩
end
end Go.Proofs.Ytekegfbjbainhaa
