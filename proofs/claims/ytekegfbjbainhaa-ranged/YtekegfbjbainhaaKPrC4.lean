
import Derived.Test.YtekegfbjbainhaaKPrC3
set_option linter.unusedVariables false
set_option linter.unusedSimpArgs false
namespace Go.Proofs.Ytekegfbjbainhaa
open Go.RowKit
theorem itemsO_X (lv m : Nat) (its : List ItR) (l : List UInt8) : itemsO lv (m + 1) its (some l) = match entX lv l with
  | none => none
  | some ((key, more), r) => if behindK its key = true then itemsO lv m (its ++ [⟨key, more, 0⟩]) (some r) else none := by
 show (if entFine lv its (some l) = true then itemsO lv m (its ++ [⟨entK (some l), entM lv (some l), 0⟩]) (entR lv (some l)) else none) = _
 unfold entX
 cases hr : entR lv (some l) with
 | none =>
  simp only [itemsO_none]
  split <;> rfl
 | some r =>
  simp only
  by_cases hc : 1 ≤ oneV (some l) ∧ oneV (some l) ≤ 12 ∧ (lv = 0 → oneV (entO (some l)) ≤ 12)
  ·rw [if_pos hc]
   simp only
   have hf : entFine lv its (some l) = behindK its (entK (some l)) := by
    unfold entFine
    have h1 : decide (1 ≤ oneV (some l)) = true := by simp [hc.1]
    have h2 : decide (oneV (some l) ≤ 12) = true := by simp [hc.2.1]
    have h3 : (lv == 0 && decide (12 < oneV (entO (some l)))) = false := by
     by_cases e : lv = 0
     ·have := hc.2.2 e; simp; intro _; omega
     ·simp [e]
    rw [h1, h2, h3]; rfl
   rw [hf]
  ·rw [if_neg hc]
   have hf : entFine lv its (some l) = false := by
    unfold entFine
    rw [Bool.eq_false_iff]
    intro h
    simp only [Bool.and_eq_true, decide_eq_true_eq, Bool.not_eq_true', Bool.and_eq_false_iff, beq_eq_false_iff_ne, decide_eq_false_iff_not] at h
    exact hc ⟨h.1.1.2, h.1.2, fun e => by rcases h.1.1.1 with h | h; exact absurd e h; omega⟩
   rw [hf]; rfl
theorem pageF_short {b : List UInt8} (h : takeR 1 (takeR 1 (some b)) = none) : pageF b = none := by
 unfold pageF
 split
 ·rw [h, itemsO_none]; rfl
 ·rfl
theorem less_nil {key : List UInt8} (h : 1 ≤ key.length) : Op.bytesLess [] key = true := by
 cases key with
 | nil => simp at h
 | cons x l => rfl
theorem entX_key {lv : Nat} {l key more r : List UInt8} (h : entX lv l = some ((key, more), r)) : 1 ≤ key.length ∧ key.length ≤ 12 := by
 unfold entX at h
 cases hr : entR lv (some l) with
 | none => rw [hr] at h; cases h
 | some r' =>
  rw [hr] at h
  simp only at h
  split at h
  case isFalse => cases h
  case isTrue hc =>
   simp only [Option.some.injEq, Prod.mk.injEq] at h
   obtain ⟨⟨rfl, rfl⟩, rfl⟩ := h
   have ho : ∃ r2, entO (some l) = some r2 := by
    cases e : entO (some l) with
    | none => unfold entR at hr; rw [e] at hr; split at hr <;> cases hr
    | some r => exact ⟨r, rfl⟩
   obtain ⟨r2, ho⟩ := ho
   have hk : (entK (some l)).length = oneV (some l) := by unfold entK; unfold entO at ho; exact takeB_some ho
   omega
def aheadK (its : List ItR) : List UInt8 := match its.getLast? with
 | none => []
 | some x => x.key
theorem behind_ahead {its : List ItR} {key : List UInt8} (h : 1 ≤ key.length) : behindK its key = Op.bytesLess (aheadK its) key := by
 unfold behindK aheadK
 cases its.getLast? with
 | none => simp only [less_nil h]
 | some x => rfl
theorem ahead_push (its : List ItR) (x : ItR) : aheadK (its ++ [x]) = x.key := by unfold aheadK; simp
theorem EnRd.frame {lv : Nat} {w w' : World} {K S : Nat → Prop} {x : EnP} {key more : List UInt8} (h : EnRd lv w K x key more) (hf : Frame S w w') (hS : ∀ k, K k → ¬ S k) : EnRd lv w' K x key more := ⟨h.d8, h.key.frame hf hS, fun e => ⟨(h.low e).1.frame hf hS, (h.low e).2⟩, h.high⟩
structure EnsL (lv : Nat) (w : World) (K : Nat → Prop) (base : Nat) (cur : SlR) (xs : List EnP) (its : List ItR) : Prop where
 own : w.ownsRow base 103 10 cur.val xs.length (ensC xs)
 len : xs.length = its.length
 en : ∀ i (h1 : i < xs.length) (h2 : i < its.length), EnRd lv w K xs[i] its[i].key its[i].more
theorem EnsL.nil (lv : Nat) (w : World) (K : Nat → Prop) (base : Nat) : EnsL lv w K base ⟨none, 0, 0⟩ [] [] := ⟨World.ownsRow_nil _ _ _ _, rfl, fun i h => absurd h (Nat.not_lt_zero _)⟩
theorem EnsL.frame {lv : Nat} {w w' : World} {K S : Nat → Prop} {base : Nat} {cur : SlR} {xs : List EnP} {its : List ItR} (h : EnsL lv w K base cur xs its) (hf : Frame S w w') (h1 : ∀ k, cur.val.ownBlock = some k → ¬ S k) (h2 : ∀ k, K k → ¬ S k) : EnsL lv w' K base cur xs its :=
 ⟨owns_frame h.own hf h1, h.len, fun i g1 g2 => (h.en i g1 g2).frame hf h2⟩
theorem EnsL.below {lv : Nat} {w w' : World} {K : Nat → Prop} {base : Nat} {cur : SlR} {xs : List EnP} {its : List ItR} (h : EnsL lv w K base cur xs its) (hf : Below w.heap.size w w') : EnsL lv w' K base cur xs its := h.frame (Frame.of_below_all (S := fun _ => False) hf) (fun _ _ e => e) (fun _ _ e => e)
theorem EnsL.d8 {lv : Nat} {w : World} {K : Nat → Prop} {base : Nat} {cur : SlR} {xs : List EnP} {its : List ItR} (h : EnsL lv w K base cur xs its) : ∀ x ∈ xs, x.d.length = 8 := fun x hx => by
 obtain ⟨i, hi, rfl⟩ := List.mem_iff_getElem.1 hx
 exact (h.en i hi (by rw [← h.len]; exact hi)).d8
theorem EnsL.toBase {lv : Nat} {w : World} {K : Nat → Prop} {base base' : Nat} {cur : SlR} {xs : List EnP} {its : List ItR} (h : EnsL lv w K base cur xs its) (hb : base' ≤ base) : EnsL lv w K base' cur xs its :=
 ⟨owns_base h.own (fun k hk => Nat.le_trans hb (h.own.lt k hk).1), h.len, h.en⟩
theorem EnsL.push {lv : Nat} {w w' : World} {K : Nat → Prop} {base : Nat} {cur cur' : SlR} {xs xs2 : List EnP} {its its2 : List ItR} (h : EnsL lv w K base cur xs its) (hl : xs2.length = its2.length) (hen : ∀ i (h1 : i < xs2.length) (h2 : i < its2.length), EnRd lv w K xs2[i] its2[i].key its2[i].more)
  (ho : w'.ownsRow base 103 10 cur'.val (xs.length + xs2.length) (ensC xs ++ ensC xs2)) (hf : Frame (fun k => cur.val.ownBlock = some k) w w') (hK : ∀ k, K k → k < base) : EnsL lv w' K base cur' (xs ++ xs2) (its ++ its2) := by
 have hk : ∀ k, K k → ¬ cur.val.ownBlock = some k := fun k hk e => by have := (h.own.lt k e).1; have := hK k hk; omega
 refine ⟨by rw [List.length_append, ensC_append]; exact ho, by rw [List.length_append, List.length_append, h.len, hl], fun i g1 g2 => ?_⟩
 by_cases hi : i < xs.length
 ·rw [List.getElem_append_left hi, List.getElem_append_left (by rw [← h.len]; exact hi)]
  exact (h.en i hi (by rw [← h.len]; exact hi)).frame hf hk
 ·have e1 : its.length ≤ i := by rw [← h.len]; omega
  rw [List.getElem_append_right (by omega), List.getElem_append_right e1]
  simp only [← h.len]
  exact (hen _ _ _).frame hf hk
structure PgSt (w : World) (K : Nat → Prop) (wr : World) (rb pb lv : Nat) (cur : SlR) (xs : List EnP) (its : List ItR) (l : List UInt8) : Prop where
 be : Below w.heap.size w wr
 rd : RdP wr K rb l
 pg : RowV wr pb 128 [.int .i64 (lv : Int), cur.val]
 qg : RowV wr w.heap.size 128 [.int .i64 0, .slice none 0 0]
 ens : EnsL lv wr K w.heap.size cur xs its
 n1 : w.heap.size < rb
 n2 : w.heap.size < pb
 kk : ∀ k, K k → k < w.heap.size
theorem PgSt.n3 {w wr : World} {K : Nat → Prop} {rb pb lv : Nat} {cur : SlR} {xs : List EnP} {its : List ItR} {l : List UInt8} (h : PgSt w K wr rb pb lv cur xs its l) : pb ≠ rb := h.rd.rowNe h.pg (by decide)
theorem PgSt.below {w wr w' : World} {K : Nat → Prop} {rb pb lv : Nat} {cur : SlR} {xs : List EnP} {its : List ItR} {l : List UInt8} (h : PgSt w K wr rb pb lv cur xs its l) (hb : Below wr.heap.size wr w') : PgSt w K w' rb pb lv cur xs its l :=
 ⟨h.be.trans (hb.mono h.be.size), h.rd.below hb, RowV.below h.pg h.pg.lt hb, RowV.below h.qg h.qg.lt hb, h.ens.below hb, h.n1, h.n2, h.kk⟩
theorem PgSt.read {w wr w' : World} {K : Nat → Prop} {rb pb lv : Nat} {cur : SlR} {xs : List EnP} {its : List ItR} {l l' : List UInt8} (h : PgSt w K wr rb pb lv cur xs its l) (hf : Frame (fun k => k = rb) wr w') (hr : RdP w' K rb l') : PgSt w K w' rb pb lv cur xs its l' :=
 ⟨h.be.trans (hf.below h.be.size (fun k hk => by have := h.n1; omega)), hr, RowV.of_block h.pg (hf.block _ h.pg.lt (fun e => h.n3 e)), RowV.of_block h.qg (hf.block _ h.qg.lt (fun e => by have := h.n1; omega)),
  h.ens.frame hf (fun k hk e => h.rd.ownNe h.ens.own (by decide) (by rw [hk, e])) (fun k hk e => by have := h.kk k hk; have := h.n1; omega), h.n1, h.n2, h.kk⟩
theorem PgSt.push {w wr W w1 : World} {K : Nat → Prop} {rb pb lv : Nat} {cur cur' : SlR} {xs : List EnP} {its : List ItR} {x : EnP} {it : ItR} {l : List UInt8} (h : PgSt w K wr rb pb lv cur xs its l) (hb : Below wr.heap.size wr W) (hx : EnRd lv W K x it.key it.more)
  (ho : w1.ownsRow w.heap.size 103 10 cur'.val (xs.length + 1) (ensC xs ++ ensC [x])) (hf : Frame (fun k => cur.val.ownBlock = some k) W w1) :
  PgSt w K (w1.setCell ⟨pb, 1, none⟩ cur'.val) rb pb lv cur' (xs ++ [x]) (its ++ [it]) l := by
 have h2 := h.below hb
 have hr1 : RdP w1 K rb l := h2.rd.frame hf (fun e => h2.rd.ownNe h2.ens.own (by decide) e) (fun k hk e => by have := h.kk k hk; have := (h.ens.own.lt k e).1; omega)
 have hp1 : RowV w1 pb 128 [.int .i64 (lv : Int), cur.val] := RowV.of_block h2.pg (hf.block _ h2.pg.lt (fun e => owns_ne h2.ens.own h2.pg (by decide) e))
 have hq1 : RowV w1 w.heap.size 128 [.int .i64 0, .slice none 0 0] := RowV.of_block h2.qg (hf.block _ h2.qg.lt (fun e => owns_ne h2.ens.own h2.qg (by decide) e))
 have hf2 : Frame (fun k => k = pb) w1 (w1.setCell ⟨pb, 1, none⟩ cur'.val) := (Frame.refl (fun k => k = pb) _).setCell (p := ⟨pb, 1, none⟩) rfl _
 have hb1 : Below w.heap.size w w1 := h2.be.trans (hf.below h2.be.size (fun k hk => (h2.ens.own.lt k hk).1))
 have he1 : EnsL lv w1 K w.heap.size cur' (xs ++ [x]) (its ++ [it]) := EnsL.push h2.ens rfl (fun i g1 g2 => by
  simp only [List.length_singleton] at g1
  obtain rfl : i = 0 := by omega
  exact hx) ho hf h.kk
 exact ⟨hb1.trans (hf2.below hb1.size (fun k hk => by have := h.n2; omega)), hr1.frame hf2 (fun e => h.n3 e.symm) (fun k hk e => by have := h.kk k hk; have := h.n2; omega), by simpa using RowV.set hp1 1 cur'.val, RowV.of_block hq1 (hf2.block _ hq1.lt (fun e => by have := h.n2; omega)),
  he1.frame hf2 (fun k hk e => owns_ne he1.own hp1 (by decide) (by rw [hk, e])) (fun k hk e => by have := h.kk k hk; have := h.n2; omega), h.n1, h.n2, h.kk⟩
def pofPost (w : World) (K : Nat → Prop) (o : Option (Nat × List ItR)) (e : Ending) (w' : World) : Prop :=
 Below w.heap.size w w' ∧ match o with
  | none => e = pkE
  | some (lv, its) => ∃ (cur : SlR) (xs : List EnP), e = .returned (.agg #[.int .i64 (lv : Int), cur.val]) ∧ EnsL lv w' K w.heap.size cur xs its
end Go.Proofs.Ytekegfbjbainhaa
