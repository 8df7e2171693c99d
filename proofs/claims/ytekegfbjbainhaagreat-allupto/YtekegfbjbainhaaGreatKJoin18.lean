import Derived.Test.YtekegfbjbainhaaGreatKJoin17
import Derived.Test.YtekegfbjbainhaaGreatKJoin6
import Derived.Test.YtekegfbjbainhaaGreatKJoin13
import Derived.Test.YtekegfbjbainhaaGreatKJoin4
import Derived.BigQuiet
import Derived.Deep.RegionHeld3
import Derived.Deep.DeepCutAuto
set_option linter.unusedVariables false
set_option linter.unusedSimpArgs false

namespace Go.Proofs.YtekegfbjbainhaaGreat
open Go.RowKit
end Go.Proofs.YtekegfbjbainhaaGreat


namespace Go.Proofs.YtekegfbjbainhaaGreat
open Go.RowKit
def takeB (n : Nat) : Option (List UInt8) → List UInt8
 | some l => if n ≤ l.length then l.take n else []
 | none => []
def takeR (n : Nat) : Option (List UInt8) → Option (List UInt8)
 | some l => if n ≤ l.length then some (l.drop n) else none
 | none => none
def oneV : Option (List UInt8) → Nat
 | some (x :: _) => x.toNat
 | _ => 0
theorem takeB_length (n : Nat) (o : Option (List UInt8)) : (takeB n o).length ≤ n := by
 cases o with
 | none => simp [takeB]
 | some l =>
  show (if n ≤ l.length then l.take n else []).length ≤ n
  split
  ·rw [List.length_take]; omega
  ·simp
theorem oneV_lt (o : Option (List UInt8)) : oneV o < 256 := by
 unfold oneV; split
 ·exact UInt8.toNat_lt _
 ·omega
structure SubS (w : World) (K : Nat → Prop) (s : SlR) (l : List UInt8) : Prop where
 bs : BS w s l
 cap : s.n ≤ s.cap
 k : ∀ x, s.a = some x → K x.block
theorem SubS.nil (w : World) (K : Nat → Prop) : SubS w K ⟨none, 0, 0⟩ [] := ⟨⟨fun i h => absurd h (Nat.not_lt_zero _), rfl, fun _ => rfl, fun x h => (by cases h)⟩, Nat.le_refl _, fun x h => (by cases h)⟩
theorem SubS.frame {w w' : World} {S K : Nat → Prop} {s : SlR} {l : List UInt8} (h : SubS w K s l) (hf : Frame S w w') (hS : ∀ k, K k → ¬ S k) : SubS w' K s l := ⟨h.bs.frame hf (fun x hx => hS _ (h.k x hx)), h.cap, h.k⟩
theorem SubS.below {w w' : World} {K : Nat → Prop} {s : SlR} {l : List UInt8} (h : SubS w K s l) (hf : Below w.heap.size w w') : SubS w' K s l := ⟨h.bs.below hf, h.cap, h.k⟩
theorem SubS.take {w : World} {K : Nat → Prop} {s : SlR} {l : List UInt8} (h : SubS w K s l) (n : Nat) (hn : n ≤ l.length) : SubS w K ⟨s.a, n, s.cap⟩ (l.take n) := by
 have h1 := h.bs.n
 have h2 := h.cap
 refine ⟨⟨fun i hi => ?_, by simp; omega, h.bs.nil, h.bs.lt⟩, by show n ≤ s.cap; omega, h.k⟩
 have hi' : i < l.length := by rw [List.length_take] at hi; omega
 obtain ⟨b, o, ha, hb, hc⟩ := h.bs.sl i hi'
 exact ⟨b, o, ha, hb, by rw [hc]; simp⟩
theorem SubS.drop {w : World} {K : Nat → Prop} {s : SlR} {l : List UInt8} (h : SubS w K s l) (n : Nat) (hn : n ≤ l.length) : SubS w K ⟨cutS s.a s.cap n 1, s.n - n, s.cap - n⟩ (l.drop n) := by
 have h1 := h.bs.n
 have h2 := h.cap
 refine ⟨⟨fun i hi => ?_, by show s.n - n = _; rw [List.length_drop]; omega, fun e => ?_, fun x hx => ?_⟩, by show s.n - n ≤ s.cap - n; omega, fun x hx => ?_⟩
 ·have hlen : (l.drop n).length = l.length - n := List.length_drop
  obtain ⟨b, o, ha, hb, hc⟩ := h.bs.sl (n + i) (by omega)
  have hne : ¬ s.cap = n := by omega
  refine ⟨b, o + n, ?_, hb, ?_⟩
  ·show cutS s.a s.cap n 1 = _
   unfold cutS; rw [if_neg hne, ha]; simp [Addr.add_mid]
  ·rw [Nat.add_assoc, hc]; simp
 ·have := h.bs.nil (cutS_none e)
  show s.cap - n = 0; omega
 ·obtain ⟨y, hy, e⟩ := cutS_block hx
  rw [← e]; exact h.bs.lt y hy
 ·obtain ⟨y, hy, e⟩ := cutS_block hx
  rw [← e]; exact h.k y hy
structure RdAt (w : World) (K : Nat → Prop) (rb : Nat) (s : SlR) (l : List UInt8) (bad : Bool) : Prop where
 row : RowV w rb 77 [s.val, .bool bad]
 sub : SubS w K s l
 out : ¬ K rb
def RdO (w : World) (K : Nat → Prop) (rb : Nat) (o : Option (List UInt8)) : Prop := ∃ s l bad, RdAt w K rb s l bad ∧ o = if bad then none else some l
theorem RdO.lt {w : World} {K : Nat → Prop} {rb : Nat} {o : Option (List UInt8)} (h : RdO w K rb o) : rb < w.heap.size := by
 obtain ⟨s, l, bad, h, _⟩ := h; exact RowV.lt h.row
theorem RdO.frame {w w' : World} {S K : Nat → Prop} {rb : Nat} {o : Option (List UInt8)} (h : RdO w K rb o) (hf : Frame S w w') (h1 : ¬ S rb) (h2 : ∀ k, K k → ¬ S k) : RdO w' K rb o := by
 obtain ⟨s, l, bad, h, e⟩ := h
 exact ⟨s, l, bad, ⟨RowV.of_block h.row (hf.block _ (RowV.lt h.row) h1), h.sub.frame hf h2, h.out⟩, e⟩
theorem RdO.below {w w' : World} {K : Nat → Prop} {rb : Nat} {o : Option (List UInt8)} (h : RdO w K rb o) (hf : Below w.heap.size w w') : RdO w' K rb o := h.frame (Frame.of_below_all (S := fun _ => False) hf) (fun e => e) (fun _ _ e => e)
theorem RdAt.put {w : World} {K : Nat → Prop} {rb : Nat} {s s' : SlR} {l l' : List UInt8} {bad : Bool} (h : RdAt w K rb s l bad) (h' : SubS w K s' l') : RdAt (w.setCell ⟨rb, 0, none⟩ s'.val) K rb s' l' bad :=
 ⟨by simpa using RowV.set h.row 0 s'.val, h'.frame ((Frame.refl (fun k => k = rb) _).setCell (p := ⟨rb, 0, none⟩) rfl _) (fun k hk e => h.out (e ▸ hk)), h.out⟩
theorem RdAt.bad {w : World} {K : Nat → Prop} {rb : Nat} {s : SlR} {l : List UInt8} {bad : Bool} (h : RdAt w K rb s l bad) : RdAt (w.setCell ⟨rb, 1, none⟩ (.bool true)) K rb s l true :=
 ⟨by simpa using RowV.set h.row 1 (.bool true), h.sub.frame ((Frame.refl (fun k => k = rb) _).setCell (p := ⟨rb, 1, none⟩) rfl _) (fun k hk e => h.out (e ▸ hk)), h.out⟩
theorem run_sliceHi {P : Program} {w : World} (t e : TypeId) (ad : Option Addr) (n cap j size : Nat) (ht : P.underlying t = some (.slice e)) (hs : (P.info? e).map (·.size) = some size) (hjc : j ≤ cap) :
  (Instr.slice t (.slice ad n cap) none (some (.int .i64 (j : Int))) none).run P w = .ok (.slice ad j cap) w := by
 have h2 : (j : Int) ≤ cap := by omega
 have hso : (Go.sizeOf e).run P w = .ok size w := by
  cases hi : P.info? e with
  | none => simp [hi] at hs
  | some inf => simp [hi] at hs; simp [sizeOf, typeInfo, hi, hs]
 cases ad <;> simp [Instr.slice, run_underlying ht, Instr.sliceBounds, Instr.sliceBound, asIntOf, h2, hjc, Result.andThen, hso, Addr.add]
theorem wp_sliceHi {P : Program} {ops : Array Oper} {rest : List Oper} {o : Oper} {a : Act} {w : World} {Q : Exit → Act → World → Prop} (hgd : o.guard = none) (t e : TypeId) (x hi : Operand) (ho : o.op = .slice t x none (some hi) none)
  (ad : Option Addr) (n cap j size : Nat) (hx : a.eval x = .slice ad n cap) (hhi : a.eval hi = .int .i64 (j : Int)) (ht : P.underlying t = some (.slice e)) (hs : (P.info? e).map (·.size) = some size) (hjc : j ≤ cap)
  (h : wpList P ops Q rest (a.put o.dst (.slice ad j cap)) w) : wpList P ops Q (o :: rest) a w := by
 refine wpList_plain hgd fun K hK => ?_
 have hr := run_sliceHi (w := w) t e ad n cap j size ht hs hjc
 unfold Oper.wp execOp
 simp only [ho, Option.map, hx, hhi]
 go_simp
 exact hK _ _ h
theorem wrap64_toNat8 (x : UInt8) : wrap64 ((x.toNat : Nat) : Int) = ((x.toNat : Nat) : Int) := by
 have := x.toNat_lt
 have e := IntKind.wrap_i64 ((x.toNat : Nat) : Int)
 unfold wrap64
 omega
set_option maxRecDepth 100000 in
set_option maxHeartbeats 1000000 in
theorem some_any (K : Nat → Prop) (rb n : Nat) (o : Option (List UInt8)) (w : World) (h : RdO w K rb o) :
  Calls Tryz.prog 65 #[.pointer (some ⟨rb, 0, none⟩), .int .i64 (n : Int)] w fun e w' => ∃ s' : SlR, e = .returned s'.val ∧ Frame (fun k => k = rb) w w' ∧ w'.heap.size = w.heap.size ∧ SubS w' K s' (takeB n o) ∧ RdO w' K rb (takeR n o) := by
 obtain ⟨s, l, bad, h, ho⟩ := h
 have HO : Hid (o = if bad then none else some l) := ho
 clear ho
 have r0 : w.cell? ⟨rb, 0, none⟩ = some (.slice s.a s.n s.cap) := RowV.cell h.row 0 (by simp)
 have r1 : w.cell? ⟨rb, 1, none⟩ = some (.bool bad) := RowV.cell h.row 1 (by simp)
 have HH : Hid (RdAt w K rb s l bad) := h
 have HN : Hid (s.n = l.length) := h.sub.bs.n
 have HC : Hid (s.n ≤ s.cap) := h.sub.cap
 have HI : Hid ((Tryz.prog.info? 5).map (·.size) = some 1) := by unfold Hid; kernel_rfl
 have hrb : rb < w.heap.size := RowV.lt h.row
 have fz0 := h.row.frozen 0
 have fz1 := h.row.frozen 1
 clear h
 by_cases hn : s.n < n
 ·have hnI : (s.n : Int) < n := by omega
  have hb := HH.out.bad
  have HB : Hid (RdAt (w.setCell ⟨rb, 1, none⟩ (.bool true)) K rb s l true) := hb
  have r2 : (w.setCell ⟨rb, 1, none⟩ (.bool true)).cell? ⟨rb, 1, none⟩ = some (.bool true) := RowV.cell hb.row 1 (by simp)
  clear hb
  go_enter Tryz.func65, Tryz.ntmps65
  go_wp2
  go_ret
  refine ⟨⟨none, 0, 0⟩, rfl, (Frame.refl (fun k => k = rb) _).setCell (p := ⟨rb, 1, none⟩) rfl _, by simp, ?_, s, l, true, HB.out, ?_⟩
  ·have e : takeB n o = [] := by
    rw [HO.out]
    cases bad
    ·simp only [Bool.false_eq_true, if_false, takeB]; rw [if_neg (by have := HN.out; omega)]
    ·rfl
   rw [e]; exact SubS.nil _ _
  ·rw [HO.out]
   cases bad
   ·simp only [Bool.false_eq_true, if_false, takeR, if_true]; rw [if_neg (by have := HN.out; omega)]
   ·rfl
 ·have hnI : ¬ (s.n : Int) < n := by omega
  cases bad with
  | true =>
   go_enter Tryz.func65, Tryz.ntmps65
   go_wp2
   go_ret
   rw [HO.out]
   exact ⟨⟨none, 0, 0⟩, rfl, Frame.refl _ _, rfl, SubS.nil _ _, s, l, true, HH.out, rfl⟩
  | false =>
   have hnl : n ≤ l.length := by have := HN.out; omega
   have hlo : n ≤ s.n := by omega
   have hhi : n ≤ s.cap := by have := HC.out; omega
   have HL : Hid (n ≤ l.length) := hnl
   clear hnl
   go_enter Tryz.func65, Tryz.ntmps65
   go_wp2_with (first
    | (refine wp_sliceHi (by rfl) 38 5 _ _ (by rfl) s.a s.n s.cap n 1 (by rfl) (by rfl) Tryz.underlying38 HI.out hhi ?_)
    | (refine wp_sliceLo (by rfl) 38 5 _ _ (by rfl) s.a s.n s.cap n 1 (by rfl) (by rfl) Tryz.underlying38 HI.out hlo HC.out ?_))
   go_ret
   have hp := HH.out.put (HH.out.sub.drop n HL.out)
   refine ⟨⟨s.a, n, s.cap⟩, rfl, (Frame.refl (fun k => k = rb) _).setCell (p := ⟨rb, 0, none⟩) rfl _, by simp, ?_, _, _, false, hp, ?_⟩
   ·have e : takeB n o = l.take n := by
     rw [HO.out]
     simp only [Bool.false_eq_true, if_false, takeB]; rw [if_pos HL.out]
    rw [e]
    exact (HH.out.sub.take n HL.out).frame ((Frame.refl (fun k => k = rb) _).setCell (p := ⟨rb, 0, none⟩) rfl _) (fun k hk e => HH.out.out (e ▸ hk))
   ·rw [HO.out]
    simp only [Bool.false_eq_true, if_false, takeR]; rw [if_pos HL.out]
set_option maxRecDepth 100000 in
set_option maxHeartbeats 1000000 in
theorem one_any (K : Nat → Prop) (rb : Nat) (o : Option (List UInt8)) (w : World) (h : RdO w K rb o) :
  Calls Tryz.prog 64 #[.pointer (some ⟨rb, 0, none⟩)] w fun e w' => e = .returned (.int .i64 (oneV o : Int)) ∧ Frame (fun k => k = rb) w w' ∧ w'.heap.size = w.heap.size ∧ RdO w' K rb (takeR 1 o) := by
 have HS : Hid (Calls _ _ _ _ _) := some_any K rb 1 o w h
 go_enter Tryz.func64, Tryz.ntmps64
 go_wp2_with fail
 refine HS.out.mono ?_
 rintro e w1 ⟨s', rfl, hf, hz, hs, hr⟩
 have HR : Hid (RdO w1 K rb (takeR 1 o)) := hr
 have HF : Hid (Frame (fun k => k = rb) w w1) := hf
 have HZ : Hid (w1.heap.size = w.heap.size) := hz
 clear hr hf hz h
 unfold SlR.val
 cases hB : takeB 1 o with
 | nil =>
  have hn0 : s'.n = 0 := by have := hs.bs.n; rw [hB] at this; exact this
  have HE : Hid (oneV o = 0) := by
   unfold Hid
   cases o with
   | none => rfl
   | some l =>
    cases l with
    | nil => rfl
    | cons x r => simp [takeB] at hB
  rw [hn0]
  clear hB hs hn0
  go_wp2
  go_ret
  exact ⟨by rw [HE.out]; rfl, HF.out, HZ.out, HR.out⟩
 | cons x r =>
  rw [hB] at hs
  have hx : takeB 1 o = [x] ∧ oneV o = x.toNat := by
   cases o with
   | none => simp [takeB] at hB
   | some l =>
    cases l with
    | nil => simp [takeB] at hB
    | cons y r' =>
     simp [takeB] at hB
     exact ⟨by simp [takeB, hB.1], by simp [oneV, hB.1]⟩
  have hn1 : s'.n = 1 := by
   have h1 := hs.bs.n
   have h2 := hx.1
   rw [hB] at h2
   rw [h2] at h1
   exact h1
  obtain ⟨b, o', ha, hb, hc⟩ := hs.bs.sl 0 (by simp)
  rw [Nat.add_zero] at hc
  simp only [List.getElem_cons_zero] at hc
  have HE : Hid (oneV o = x.toNat) := hx.2
  rw [hn1, ha]
  clear hB hs hx hn1 ha
  go_wp2
  go_ret
  exact ⟨by rw [HE.out]; simp [wrap64_toNat8], HF.out, HZ.out, HR.out⟩
end Go.Proofs.YtekegfbjbainhaaGreat


namespace Go.Proofs.YtekegfbjbainhaaGreat
open Go.RowKit
def entK (o : Option (List UInt8)) : List UInt8 := takeB (oneV o) (takeR 1 o)
def entO (o : Option (List UInt8)) : Option (List UInt8) := takeR (oneV o) (takeR 1 o)
def entM (lv : Nat) (o : Option (List UInt8)) : List UInt8 := if lv = 0 then takeB (oneV (entO o)) (takeR 1 (entO o)) else takeB 8 (entO o)
def entR (lv : Nat) (o : Option (List UInt8)) : Option (List UInt8) := if lv = 0 then takeR (oneV (entO o)) (takeR 1 (entO o)) else takeR 8 (entO o)
def behindK (its : List ItR) (k : List UInt8) : Bool := match its.getLast? with
 | none => true
 | some x => Op.bytesLess x.key k
def entFine (lv : Nat) (its : List ItR) (o : Option (List UInt8)) : Bool := !(lv == 0 && decide (12 < oneV (entO o))) && decide (1 ≤ oneV o) && decide (oneV o ≤ 12) && behindK its (entK o)
def itemsO (lv : Nat) : Nat → List ItR → Option (List UInt8) → Option (List ItR)
 | 0, its, o => if o = some [] then some its else none
 | _ + 1, _, none => none
 | n + 1, its, some l => if entFine lv its (some l) then itemsO lv n (its ++ [⟨entK (some l), entM lv (some l), 0⟩]) (entR lv (some l)) else none
theorem itemsO_none (lv n : Nat) (its : List ItR) : itemsO lv n its none = none := by cases n <;> simp [itemsO]
def pageF (b : List UInt8) : Option (Nat × List ItR) :=
 if oneV (some b) ≤ 6 ∧ oneV (takeR 1 (some b)) ≤ 60 ∧ (oneV (some b) = 0 ∨ oneV (takeR 1 (some b)) ≠ 0) then (itemsO (oneV (some b)) (oneV (takeR 1 (some b))) [] (takeR 1 (takeR 1 (some b)))).map (fun its => (oneV (some b), its)) else none
theorem rowV_ne {w : World} {b b' t t' : Nat} {l l' : List Value} (h : RowV w b t l) (h' : RowV w b' t' l') (hne : t ≠ t') : b ≠ b' := fun e => by
 subst e
 have e1 := h
 have e2 := h'
 unfold RowV at e1 e2
 rw [e1] at e2
 simp at e2
 exact hne e2.2
structure DecSt (w : World) (K : Nat → Prop) (wr : World) (rb pb lv : Nat) (cur : SlR) (its : List ItR) (o : Option (List UInt8)) : Prop where
 be : Below w.heap.size w wr
 rd : RdO wr K rb o
 pg : RowV wr pb 80 [.int .i64 (lv : Int), cur.val]
 qg : RowV wr w.heap.size 80 [.int .i64 0, .slice none 0 0]
 own : OwnI wr w.heap.size cur.val its
 n1 : w.heap.size < rb
 n2 : w.heap.size < pb
 n3 : rb ≠ pb
 kk : ∀ k, K k → k < w.heap.size
theorem RdO.rowNe {w : World} {K : Nat → Prop} {rb b : Nat} {o : Option (List UInt8)} {t : Nat} {l : List Value} (h : RdO w K rb o) (h' : RowV w b t l) (hne : t ≠ 77) : b ≠ rb := by
 obtain ⟨s, l, bad, h, _⟩ := h
 exact rowV_ne h' h.row hne
theorem RdO.ownNe {w : World} {K : Nat → Prop} {rb base e size n : Nat} {v : Value} {xs : List Value} {o : Option (List UInt8)} (h : RdO w K rb o) (h' : w.ownsRow base e size v n xs) (hne : e ≠ 77) : v.ownBlock ≠ some rb := by
 obtain ⟨s, l, bad, h, _⟩ := h
 exact owns_ne h' h.row hne
theorem DecSt.frame {w wr w' : World} {K S : Nat → Prop} {rb pb lv : Nat} {cur : SlR} {its : List ItR} {o : Option (List UInt8)} (h : DecSt w K wr rb pb lv cur its o) (hf : Frame S wr w') (h1 : ¬ S rb) (h2 : ¬ S pb) (h3 : ∀ k, S k → w.heap.size < k) (h4 : ∀ k, cur.val.ownBlock = some k → ¬ S k) : DecSt w K w' rb pb lv cur its o :=
 ⟨h.be.trans (hf.below h.be.size (fun k hk => Nat.le_of_lt (h3 k hk))), h.rd.frame hf h1 (fun k hk e => by have := h.kk k hk; have := h3 k e; omega), RowV.of_block h.pg (hf.block _ (RowV.lt h.pg) h2), RowV.of_block h.qg (hf.block _ (RowV.lt h.qg) (fun e => by have := h3 _ e; omega)),
  owns_frame h.own hf h4, h.n1, h.n2, h.n3, h.kk⟩
theorem DecSt.below {w wr w' : World} {K : Nat → Prop} {rb pb lv : Nat} {cur : SlR} {its : List ItR} {o : Option (List UInt8)} (h : DecSt w K wr rb pb lv cur its o) (hb : Below wr.heap.size wr w') : DecSt w K w' rb pb lv cur its o := h.frame (Frame.of_below_all (S := fun _ => False) hb) (fun e => e) (fun e => e) (fun _ e => e.elim) (fun _ _ e => e)
theorem DecSt.read {w wr w' : World} {K : Nat → Prop} {rb pb lv : Nat} {cur : SlR} {its : List ItR} {o o' : Option (List UInt8)} (h : DecSt w K wr rb pb lv cur its o) (hf : Frame (fun k => k = rb) wr w') (hr : RdO w' K rb o') : DecSt w K w' rb pb lv cur its o' :=
 ⟨h.be.trans (hf.below h.be.size (fun k hk => by have := h.n1; omega)), hr, RowV.of_block h.pg (hf.block _ (RowV.lt h.pg) (fun e => h.n3 e.symm)), RowV.of_block h.qg (hf.block _ (RowV.lt h.qg) (fun e => by have := h.n1; omega)),
  owns_frame h.own hf (fun k hk e => h.rd.ownNe h.own (by decide) (by rw [hk, e])), h.n1, h.n2, h.n3, h.kk⟩
theorem DecSt.push {w wr W w1 : World} {K : Nat → Prop} {rb pb lv : Nat} {cur cur' : SlR} {its : List ItR} {x : ItR} {o : Option (List UInt8)} (h : DecSt w K wr rb pb lv cur its o) (hb : Below wr.heap.size wr W) (ho : OwnI w1 w.heap.size cur'.val (its ++ [x])) (hf : Frame (fun k => cur.val.ownBlock = some k) W w1) :
  DecSt w K (w1.setCell ⟨pb, 1, none⟩ cur'.val) rb pb lv cur' (its ++ [x]) o := by
 have h2 := h.below hb
 have hr1 : RdO w1 K rb o := h2.rd.frame hf (fun e => h2.rd.ownNe h2.own (by decide) e) (fun k hk e => by have := h.kk k hk; have := (h.own.lt k e).1; omega)
 have hp1 : RowV w1 pb 80 [.int .i64 (lv : Int), cur.val] := RowV.of_block h2.pg (hf.block _ (RowV.lt h2.pg) (fun e => owns_ne h2.own h2.pg (by decide) e))
 have hq1 : RowV w1 w.heap.size 80 [.int .i64 0, .slice none 0 0] := RowV.of_block h2.qg (hf.block _ (RowV.lt h2.qg) (fun e => owns_ne h2.own h2.qg (by decide) e))
 have hf2 : Frame (fun k => k = pb) w1 (w1.setCell ⟨pb, 1, none⟩ cur'.val) := (Frame.refl (fun k => k = pb) _).setCell (p := ⟨pb, 1, none⟩) rfl _
 have hb1 : Below w.heap.size w w1 := h2.be.trans (hf.below h2.be.size (fun k hk => (h2.own.lt k hk).1))
 refine ⟨hb1.trans (hf2.below hb1.size (fun k hk => by have := h.n2; omega)), hr1.frame hf2 h.n3 (fun k hk e => by have := h.kk k hk; have := h.n2; omega), by simpa using RowV.set hp1 1 cur'.val, RowV.of_block hq1 (hf2.block _ (RowV.lt hq1) (fun e => by have := h.n2; omega)), owns_frame ho hf2 (fun k hk e => owns_ne ho hp1 (by decide) (by rw [hk, e])), h.n1, h.n2, h.n3, h.kk⟩
theorem DecSt.fin {w wr : World} {K : Nat → Prop} {rb pb lv : Nat} {cur : SlR} {its : List ItR} {o : Option (List UInt8)} (h : DecSt w K wr rb pb lv cur its o) :
  RowV ((wr.setCell ⟨w.heap.size, 0, none⟩ (.int .i64 (lv : Int))).setCell ⟨w.heap.size, 1, none⟩ cur.val) w.heap.size 80 [.int .i64 (lv : Int), cur.val] ∧ Below w.heap.size w ((wr.setCell ⟨w.heap.size, 0, none⟩ (.int .i64 (lv : Int))).setCell ⟨w.heap.size, 1, none⟩ cur.val) ∧
   OwnI ((wr.setCell ⟨w.heap.size, 0, none⟩ (.int .i64 (lv : Int))).setCell ⟨w.heap.size, 1, none⟩ cur.val) w.heap.size cur.val its := by
 have hf : Frame (fun k => k = w.heap.size) wr ((wr.setCell ⟨w.heap.size, 0, none⟩ (.int .i64 (lv : Int))).setCell ⟨w.heap.size, 1, none⟩ cur.val) := ((Frame.refl (fun k => k = w.heap.size) wr).setCell (p := ⟨w.heap.size, 0, none⟩) rfl _).setCell (p := ⟨w.heap.size, 1, none⟩) rfl _
 refine ⟨by simpa using (RowV.set h.qg 0 (.int .i64 (lv : Int))).set 1 cur.val, h.be.trans (hf.below h.be.size (fun k hk => by omega)), owns_frame h.own hf (fun k hk e => owns_ne h.own h.qg (by decide) (by rw [hk, e]))⟩
def decPost (w : World) (b : List UInt8) (e : Ending) (w' : World) : Prop := ∃ (lvl : Nat) (cur : SlR) (ok : Bool), e = .returned (.tuple #[.agg #[.int .i64 (lvl : Int), cur.val], .bool ok]) ∧ Below w.heap.size w w' ∧ ok = (pageF b).isSome ∧ lvl < 256 ∧ (∀ lv its, pageF b = some (lv, its) → lvl = lv ∧ OwnI w' w.heap.size cur.val its)
theorem decPost_bad {w wr : World} {K : Nat → Prop} {rb pb lv : Nat} {cur : SlR} {its : List ItR} {o : Option (List UInt8)} {b : List UInt8} (h : DecSt w K wr rb pb lv cur its o) (hb : pageF b = none) (hlv : lv < 256) :
  decPost w b (.returned (.tuple #[.agg #[.int .i64 (lv : Int), cur.val], .bool false])) ((wr.setCell ⟨w.heap.size, 0, none⟩ (.int .i64 (lv : Int))).setCell ⟨w.heap.size, 1, none⟩ cur.val) :=
 ⟨lv, cur, false, rfl, h.fin.2.1, by rw [hb]; rfl, hlv, fun a c e => by rw [hb] at e; cases e⟩
theorem decPost_ok {w wr : World} {K : Nat → Prop} {rb pb lv : Nat} {cur : SlR} {its : List ItR} {o : Option (List UInt8)} {b : List UInt8} (h : DecSt w K wr rb pb lv cur its o) (hb : pageF b = some (lv, its)) (hlv : lv < 256) :
  decPost w b (.returned (.tuple #[.agg #[.int .i64 (lv : Int), cur.val], .bool true])) ((wr.setCell ⟨w.heap.size, 0, none⟩ (.int .i64 (lv : Int))).setCell ⟨w.heap.size, 1, none⟩ cur.val) :=
 ⟨lv, cur, true, rfl, h.fin.2.1, by rw [hb]; rfl, hlv, fun a c e => by rw [hb] at e; cases e; exact ⟨rfl, h.fin.2.2⟩⟩
end Go.Proofs.YtekegfbjbainhaaGreat


namespace Go.Proofs.YtekegfbjbainhaaGreat
open Go.RowKit
attribute [local go_sem ↓] Go.wp_at_zero Go.wp_at_succ
theorem pageF_out {b : List UInt8} {lv n : Nat} (h1 : oneV (some b) = lv) (h2 : oneV (takeR 1 (some b)) = n) (h : ¬ (lv ≤ 6 ∧ n ≤ 60 ∧ (lv = 0 ∨ n ≠ 0))) : pageF b = none := by
 subst h1; subst h2; unfold pageF; rw [if_neg h]
theorem pageF_in {b : List UInt8} {lv n : Nat} (h1 : oneV (some b) = lv) (h2 : oneV (takeR 1 (some b)) = n) (h : lv ≤ 6 ∧ n ≤ 60 ∧ (lv = 0 ∨ n ≠ 0)) : pageF b = (itemsO lv n [] (takeR 1 (takeR 1 (some b)))).map (fun its => (lv, its)) := by
 subst h1; subst h2; unfold pageF; rw [if_pos h]
theorem decSt_start {w w1 : World} {K : Nat → Prop} {rb lv : Nat} {o : Option (List UInt8)} (hK : ∀ k, K k → k < w.heap.size) (hb : Below w.heap.size w w1) (hq : RowV w1 w.heap.size 80 [.int .i64 0, .slice none 0 0]) (hr : RdO w1 K rb o) (hrb : w.heap.size < rb) (hz : w.heap.size < w1.heap.size) :
  DecSt w K (w1.alloc (.cells #[.int .i64 (lv : Int), .slice none 0 0] 80)) rb w1.heap.size lv ⟨none, 0, 0⟩ [] o := by
 have hlt := hr.lt
 have ha : Below w1.heap.size w1 (w1.alloc (.cells #[.int .i64 (lv : Int), .slice none 0 0] 80)) := (Below.refl _ _).alloc (Nat.le_refl _) _
 exact ⟨hb.trans (ha.mono hb.size), hr.below ha, RowV.new w1 80 [.int .i64 (lv : Int), .slice none 0 0], hq.below (RowV.lt hq) ha, World.ownsRow_nil _ _ _ _, hrb, hz, by omega, hK⟩
theorem DecSt.drewN {w wr : World} {K : Nat → Prop} {rb pb lv : Nat} {cur : SlR} {its : List ItR} {o : Option (List UInt8)} (h : DecSt w K wr rb pb lv cur its o) (m : Nat) : DecSt w K (wr.drewN m) rb pb lv cur its o := by
 have hb := Below.refl wr.heap.size wr
 exact h.below ⟨hb.os, hb.tape, hb.output, hb.size, hb.block⟩
theorem decPost_drew {w W : World} {b : List UInt8} {e : Ending} (h : decPost w b e W) : decPost w b e W.drew := by
 obtain ⟨lvl, cur, ok, h1, h2, h3, h4, h5⟩ := h
 have hb := Below.refl W.heap.size W
 have hd : Below W.heap.size W W.drew := ⟨hb.os, hb.tape, hb.output, hb.size, hb.block⟩
 exact ⟨lvl, cur, ok, h1, ⟨h2.os, h2.tape, h2.output, h2.size, h2.block⟩, h3, h4, fun lv its e => ⟨(h5 lv its e).1, owns_below (h5 lv its e).2 hd⟩⟩
set_option maxRecDepth 100000 in
set_option maxHeartbeats 4000000 in
theorem decoded_any (K : Nat → Prop) (s : SlR) (b : List UInt8) (w : World) (hs : SubS w K s b) (hK : ∀ k, K k → k < w.heap.size) :
  Calls Tryz.prog 66 #[.slice s.a s.n s.cap] w (decPost w b) := by
 have hA : Below w.heap.size w ((w.alloc (.cells #[.int .i64 0, .slice none 0 0] 80)).alloc (.cells #[.slice s.a s.n s.cap, .bool false] 77)) := ((Below.refl _ _).alloc (Nat.le_refl _) _).alloc (by simp) _
 have hQ : RowV ((w.alloc (.cells #[.int .i64 0, .slice none 0 0] 80)).alloc (.cells #[.slice s.a s.n s.cap, .bool false] 77)) w.heap.size 80 [.int .i64 0, .slice none 0 0] := (RowV.new w _ _).alloc _
 have hR : RdO ((w.alloc (.cells #[.int .i64 0, .slice none 0 0] 80)).alloc (.cells #[.slice s.a s.n s.cap, .bool false] 77)) K (w.heap.size + 1) (some b) :=
  ⟨s, b, false, ⟨RowV.new_at _ _ _ _ (by simp), hs.below hA, fun e => by have := hK _ e; omega⟩, rfl⟩
 have HK : Hid (∀ k, K k → k < w.heap.size) := hK
 have HA : Hid (Below w.heap.size w ((w.alloc (.cells #[.int .i64 0, .slice none 0 0] 80)).alloc (.cells #[.slice s.a s.n s.cap, .bool false] 77))) := hA
 have HQ : Hid (RowV _ _ _ _) := hQ
 clear hs hK hA hQ
 go_enter Tryz.func66, Tryz.ntmps66
 go_wp2_with fail
 refine (one_any K (w.heap.size + 1) (some b) _ hR).mono ?_
 rintro e w1 ⟨rfl, hf1, hz1, hr1⟩
 have hb1 : Below w.heap.size w w1 := HA.out.trans (hf1.below (by simp; omega) (fun k hk => by omega))
 have hq1 : RowV w1 w.heap.size 80 [.int .i64 0, .slice none 0 0] := RowV.of_block HQ.out (hf1.block _ (by simp; omega) (by omega))
 have hzz : w.heap.size < w1.heap.size := by rw [hz1]; simp; omega
 have HST : Hid (DecSt w K _ (w.heap.size + 1) w1.heap.size (oneV (some b)) ⟨none, 0, 0⟩ [] (takeR 1 (some b))) := decSt_start HK.out hb1 hq1 hr1 (by omega) hzz
 have hlvb := oneV_lt (some b)
 have hnb := oneV_lt (takeR 1 (some b))
 have HLV : Hid (oneV (some b) = oneV (some b)) := rfl
 have HNN : Hid (oneV (takeR 1 (some b)) = oneV (takeR 1 (some b))) := rfl
 have hone := one_any K (w.heap.size + 1) (takeR 1 (some b)) _ HST.out.rd
 generalize hlv : oneV (some b) = lv at *
 generalize hnn : oneV (takeR 1 (some b)) = n at *
 have HLV : Hid (oneV (some b) = lv) := hlv
 have HNN : Hid (oneV (takeR 1 (some b)) = n) := hnn
 have HOUT : Hid (¬ (lv ≤ 6 ∧ n ≤ 60 ∧ (lv = 0 ∨ n ≠ 0)) → pageF b = none) := fun h => pageF_out hlv hnn h
 have HIN : Hid (lv ≤ 6 ∧ n ≤ 60 ∧ (lv = 0 ∨ n ≠ 0) → pageF b = (itemsO lv n [] (takeR 1 (takeR 1 (some b)))).map (fun its => (lv, its))) := fun h => pageF_in hlv hnn h
 have HONE : Hid (Calls _ _ _ _ _) := hone
 clear hlv hnn hone hf1 hz1 hr1 hb1 hq1
 go_wp2_with fail
 refine HONE.out.mono ?_
 rintro e w2 ⟨rfl, hf2, hz2, hr2⟩
 have HS2 : Hid (DecSt w K w2 (w.heap.size + 1) w1.heap.size lv ⟨none, 0, 0⟩ [] (takeR 1 (takeR 1 (some b)))) := HST.out.read hf2 hr2
 clear HST hf2 hz2 hr2 HONE
 have c0 := HS2.out.pg.cell 0 (by simp)
 have c1 := HS2.out.pg.cell 1 (by simp)
 have fq0 := HS2.out.qg.frozen 0
 have fq1 := HS2.out.qg.frozen 1
 have q0 := HS2.out.qg.cell 0 (by simp)
 have q1 := HS2.out.qg.cell 1 (by simp)
 simp only [List.getElem_cons_zero, List.getElem_cons_succ, SlR.val] at c0 c1 q0 q1
 generalize w1.heap.size = pb at *
 have hpb : pb < w2.heap.size := RowV.lt HS2.out.pg
 have hnp : w.heap.size < pb := hzz
 have hnq : pb ≠ w.heap.size := by omega
 have hnq' : w.heap.size ≠ pb := by omega
 by_cases hin : lv ≤ 6 ∧ n ≤ 60 ∧ (lv = 0 ∨ n ≠ 0)
 ·have h6I : ¬ (6 : Int) < lv := by omega
  have h60I : ¬ (60 : Int) < n := by omega
  have HPG : Hid (pageF b = (itemsO lv n [] (takeR 1 (takeR 1 (some b)))).map (fun its => (lv, its))) := HIN.out hin
  have HIN0 : Hid (lv ≤ 6 ∧ n ≤ 60 ∧ (lv = 0 ∨ n ≠ 0)) := hin
  have HRB : Hid (w.heap.size + 1 < w2.heap.size) := HS2.out.rd.lt
  clear HOUT HIN
  go_upto_region 4 with fail
  go_cut [34] (fun cv wx => cv = .bool false ∧ wx = w2)
  case first =>
   by_cases hl0 : lv = 0
   ·subst hl0
    go_wp2_with fail
    go_meet
    case rel => exact ⟨by simp; omega, rfl⟩
   ·have hl0I : (0 : Int) < lv := by omega
    have hn0e : ((n : Int) == 0) = false := by have := HIN0.out; simp; omega
    go_wp2_with fail
    go_meet
    case rel => exact ⟨by simp; omega, rfl⟩
  case rest =>
   obtain ⟨rfl, hwc⟩ := hcut
   obtain rfl : w2 = wc := hwc.symm
   clear hwc
   go_wp2
   go_loopw [7, 8, 9, 10] (fun i _ _ _ wr => ∃ (k : Nat) (cur : SlR) (its : List ItR) (o : Option (List UInt8)), k ≤ n ∧ i = .int .i64 k ∧ Hid (DecSt w K wr (w.heap.size + 1) pb lv cur its o) ∧ Hid (its.length = k) ∧ Hid (itemsO lv (n - k) its o = itemsO lv n [] (takeR 1 (takeR 1 (some b))))) (fun i _ _ _ _ => n - (intOf i).toNat)
   case atStart => exact ⟨0, ⟨none, 0, 0⟩, [], _, by omega, by simp, HS2, rfl, rfl⟩
   case round =>
    obtain ⟨k, cur, its, o, hk, rfl, HS, HLN, HIT⟩ := hrel
    obtain ⟨s', l', bad, hrd, ho⟩ := HS.out.rd
    have r0 : wr.cell? ⟨w.heap.size + 1, 0, none⟩ = some (.slice s'.a s'.n s'.cap) := RowV.cell hrd.row 0 (by simp)
    have r1 : wr.cell? ⟨w.heap.size + 1, 1, none⟩ = some (.bool bad) := RowV.cell hrd.row 1 (by simp)
    have HO : Hid (o = if bad then none else some l') := ho
    have HSN : Hid (s'.n = l'.length) := hrd.sub.bs.n
    have d0 := HS.out.pg.cell 0 (by simp)
    have d1 := HS.out.pg.cell 1 (by simp)
    have gq0 := HS.out.qg.frozen 0
    have gq1 := HS.out.qg.frozen 1
    have e0 := HS.out.qg.cell 0 (by simp)
    have e1 := HS.out.qg.cell 1 (by simp)
    simp only [List.getElem_cons_zero, List.getElem_cons_succ, SlR.val] at d0 d1 e0 e1
    have hpr : pb < wr.heap.size := RowV.lt HS.out.pg
    have hrr : w.heap.size + 1 < wr.heap.size := RowV.lt hrd.row
    clear hrd ho c0 c1 fq0 fq1 q0 q1
    by_cases hgo : k < n ∧ bad = false
    ·obtain ⟨hlt, rfl⟩ := hgo
     have ho : o = some l' := HO.out
     subst ho
     have hltI : (k : Int) < n := by omega
     have hba : Below wr.heap.size wr (wr.alloc (.cells #[.string ⟨#[]⟩, .string ⟨#[]⟩, .int .i64 0] 84)) := (Below.refl _ _).alloc (Nat.le_refl _) _
     have HS0 : Hid (DecSt w K (wr.alloc (.cells #[.string ⟨#[]⟩, .string ⟨#[]⟩, .int .i64 0] 84)) (w.heap.size + 1) pb lv cur its (some l')) := HS.out.below hba
     have HON : Hid (Calls _ _ _ _ _) := one_any K (w.heap.size + 1) (some l') _ HS0.out.rd
     have hk1 := oneV_lt (some l')
     have HK1 : Hid (∀ k1, oneV (some l') = k1 → entK (some l') = takeB k1 (takeR 1 (some l')) ∧ entO (some l') = takeR k1 (takeR 1 (some l'))) := fun k1 e => by subst e; exact ⟨rfl, rfl⟩
     clear hba r0
     go_wp2_with fail
     refine HON.out.mono ?_
     rintro e w3 ⟨rfl, hf3, hz3, hr3⟩
     have HS3 : Hid (DecSt w K w3 (w.heap.size + 1) pb lv cur its (takeR 1 (some l'))) := HS0.out.read hf3 hr3
     have HX3 : Hid (RowV w3 wr.heap.size 84 [.string ⟨#[]⟩, .string ⟨#[]⟩, .int .i64 0]) := RowV.of_block (RowV.new wr _ _) (hf3.block _ (by simp) (by omega))
     have HSO : Hid (Calls _ _ _ _ _) := some_any K (w.heap.size + 1) (oneV (some l')) (takeR 1 (some l')) w3 hr3
     generalize hk1e : oneV (some l') = k1 at *
     have HK2 : Hid (entK (some l') = takeB k1 (takeR 1 (some l')) ∧ entO (some l') = takeR k1 (takeR 1 (some l'))) := HK1.out k1 rfl
     have HK3 : Hid (oneV (some l') = k1) := hk1e
     clear HK1 hk1e hf3 hz3 hr3 HON HS0 d0 d1 r1
     go_wp2_with fail
     refine HSO.out.mono ?_
     rintro e w4 ⟨s1, rfl, hf4, hz4, hs4, hr4⟩
     have HS4 : Hid (DecSt w K w4 (w.heap.size + 1) pb lv cur its (takeR k1 (takeR 1 (some l')))) := HS3.out.read hf4 hr4
     have hx4 : RowV w4 wr.heap.size 84 [.string ⟨#[]⟩, .string ⟨#[]⟩, .int .i64 0] := RowV.of_block HX3.out (hf4.block _ (RowV.lt HX3.out) (by omega))
     have hcv := run_string_SlB (P := Tryz.prog) w4 38 9 5 s1.a s1.n s1.cap _ Tryz.underlying38 Tryz.underlying5 Tryz.underlying9 hs4.bs.n hs4.bs.sl hs4.bs.nil
     have fx0 := hx4.frozen 0
     have x0 := hx4.cell 0 (by simp)
     have HX4 : Hid (RowV w4 wr.heap.size 84 [.string ⟨#[]⟩, .string ⟨#[]⟩, .int .i64 0]) := hx4
     have HKB : Hid (entK (some l') = takeB k1 (takeR 1 (some l'))) := HK2.out.1
     have HKO : Hid (entO (some l') = takeR k1 (takeR 1 (some l'))) := HK2.out.2
     generalize takeB k1 (takeR 1 (some l')) = key at *
     generalize takeR k1 (takeR 1 (some l')) = o2 at *
     clear HK2 hf4 hz4 hs4 hr4 hx4 HSO HS3 HX3
     have hft := (Frame.refl (fun k => k = wr.heap.size) w4).setCell (p := ⟨wr.heap.size, 0, none⟩) rfl (.string ⟨key.toArray⟩)
     have HS5 : Hid (DecSt w K (w4.setCell ⟨wr.heap.size, 0, none⟩ (.string ⟨key.toArray⟩)) (w.heap.size + 1) pb lv cur its o2) := HS4.out.frame hft (by omega) (by omega) (fun k hk => by omega) (fun k hk e => by have := (HS.out.own.lt k hk).2; omega)
     have HX5 : Hid (RowV (w4.setCell ⟨wr.heap.size, 0, none⟩ (.string ⟨key.toArray⟩)) wr.heap.size 84 [.string ⟨key.toArray⟩, .string ⟨#[]⟩, .int .i64 0]) := by unfold Hid; simpa using RowV.set HX4.out 0 (.string ⟨key.toArray⟩)
     have d0 := HS5.out.pg.cell 0 (by simp)
     simp only [List.getElem_cons_zero] at d0
     have HXX : Hid (w.heap.size < wr.heap.size) := by unfold Hid; omega
     have HON2 : Hid (Calls _ _ _ _ _) := one_any K (w.heap.size + 1) o2 _ HS5.out.rd
     have hv1 := oneV_lt o2
     clear hft
     unfold SlR.val
     go_upto_if 57 with fail
     go_cut [10] (fun vv wx => ∃ (v : Nat) (o3 : Option (List UInt8)), vv = .int .i64 (v : Int) ∧ v ≤ 12 ∧ Hid (DecSt w K wx (w.heap.size + 1) pb lv cur its o3) ∧ Hid (RowV wx wr.heap.size 84 [.string ⟨key.toArray⟩, .string ⟨#[]⟩, .int .i64 0]) ∧
      Hid (itemsO lv (n - k) its (some l') = if decide (1 ≤ k1) && decide (k1 ≤ 12) && behindK its key then itemsO lv (n - (k + 1)) (its ++ [⟨key, takeB v o3, 0⟩]) (takeR v o3) else none))
     case first =>
      by_cases hl0 : lv = 0
      ·subst hl0
       go_wp2_with fail
       refine HON2.out.mono ?_
       rintro e w5 ⟨rfl, hf5, hz5, hr5⟩
       have HS6 : Hid (DecSt w K w5 (w.heap.size + 1) pb 0 cur its (takeR 1 o2)) := HS5.out.read hf5 hr5
       have HX6 : Hid (RowV w5 wr.heap.size 84 [.string ⟨key.toArray⟩, .string ⟨#[]⟩, .int .i64 0]) := RowV.of_block HX5.out (hf5.block _ (RowV.lt HX5.out) (by omega))
       have HVE : Hid (∀ v, oneV o2 = v → oneV o2 = v) := fun _ e => e
       generalize hve : oneV o2 = v at *
       have HVE : Hid (oneV o2 = v) := hve
       clear hve hf5 hz5 hr5 HON2 d0
       by_cases hv12 : v ≤ 12
       ·have hvI : ¬ (12 : Int) < v := by omega
        go_wp2_with fail
        go_meet
        case rel =>
         refine ⟨v, takeR 1 o2, rfl, hv12, HS6, HX6, ?_⟩
         unfold Hid
         have HM : entM 0 (some l') = takeB v (takeR 1 o2) := by unfold entM; rw [if_pos rfl, HKO.out, HVE.out]
         have HR3 : entR 0 (some l') = takeR v (takeR 1 o2) := by unfold entR; rw [if_pos rfl, HKO.out, HVE.out]
         have HFI : entFine 0 its (some l') = (decide (1 ≤ k1) && decide (k1 ≤ 12) && behindK its key) := by
          unfold entFine; rw [HK3.out, HKB.out, HKO.out, HVE.out]
          have e : decide (12 < v) = false := by simp; omega
          simp only [e, Bool.and_false, Bool.not_false, Bool.true_and]
         rw [show n - k = (n - (k + 1)) + 1 by omega, itemsO, HKB.out, HM, HR3, HFI]
       ·have hvI : (12 : Int) < v := by omega
        have HB : Hid (pageF b = none) := by
         unfold Hid
         have HFI : entFine 0 its (some l') = false := by
          unfold entFine; rw [HKO.out, HVE.out]
          have e : decide (12 < v) = true := by simp; omega
          simp [e]
         rw [HPG.out, ← HIT.out, show n - k = (n - (k + 1)) + 1 by omega, itemsO, HFI]; rfl
        have d0 := HS6.out.pg.cell 0 (by simp)
        have d1 := HS6.out.pg.cell 1 (by simp)
        have gz0 := HS6.out.qg.frozen 0
        have gz1 := HS6.out.qg.frozen 1
        have n0 := HS6.out.qg.cell 0 (by simp)
        have n1 := HS6.out.qg.cell 1 (by simp)
        simp only [List.getElem_cons_zero, List.getElem_cons_succ, SlR.val] at d0 d1 n0 n1
        go_wp2
        exact ret_agg2 (k := 2) (k2 := 3) (cs := [.int .i64 ((0 : Nat) : Int), .slice cur.a cur.n cur.cap]) rfl rfl rfl HS6.out.fin.1 Tryz.underlying80 rfl Tryz.sizePage rfl (decPost_bad HS6.out HB.out hlvb)
      ·have hl0e : ((lv : Int) == 0) = false := by simp; omega
       go_wp2_with fail
       go_meet
       case rel =>
        refine ⟨8, o2, rfl, by omega, HS5, HX5, ?_⟩
        unfold Hid
        have HM : entM lv (some l') = takeB 8 o2 := by unfold entM; rw [if_neg hl0, HKO.out]
        have HR3 : entR lv (some l') = takeR 8 o2 := by unfold entR; rw [if_neg hl0, HKO.out]
        have HFI : entFine lv its (some l') = (decide (1 ≤ k1) && decide (k1 ≤ 12) && behindK its key) := by
         unfold entFine; rw [HK3.out, HKB.out]
         have e : (lv == 0) = false := by simp [hl0]
         simp only [e, Bool.false_and, Bool.not_false, Bool.true_and]
        rw [show n - k = (n - (k + 1)) + 1 by omega, itemsO, HKB.out, HM, HR3, HFI]
     case rest =>
      obtain ⟨v, o3, rfl, hv12, HS6, HX6, HNX⟩ := hcut
      have HSP : Hid (Calls _ _ _ _ _) := some_any K (w.heap.size + 1) v o3 wc HS6.out.rd
      clear HON2 HS5 HX5 HS4 HX4 d0 fx0 x0 hcv HKO HKB HK3 gq0 gq1 e0 e1 hv1
      go_wp2_with fail
      refine HSP.out.mono ?_
      rintro e w6 ⟨s2, rfl, hf6, hz6, hs6, hr6⟩
      have HS7 : Hid (DecSt w K w6 (w.heap.size + 1) pb lv cur its (takeR v o3)) := HS6.out.read hf6 hr6
      have hx6 : RowV w6 wr.heap.size 84 [.string ⟨key.toArray⟩, .string ⟨#[]⟩, .int .i64 0] := RowV.of_block HX6.out (hf6.block _ (RowV.lt HX6.out) (by omega))
      have hcw := run_string_SlB (P := Tryz.prog) w6 38 9 5 s2.a s2.n s2.cap _ Tryz.underlying38 Tryz.underlying5 Tryz.underlying9 hs6.bs.n hs6.bs.sl hs6.bs.nil
      have fx1 := hx6.frozen 1
      have x1 := hx6.cell 1 (by simp)
      have HX7 : Hid (RowV w6 wr.heap.size 84 [.string ⟨key.toArray⟩, .string ⟨#[]⟩, .int .i64 0]) := hx6
      generalize takeB v o3 = mo at *
      generalize takeR v o3 = o4 at *
      clear hf6 hz6 hs6 hr6 hx6 HSP HS6 HX6
      have hft := (Frame.refl (fun k => k = wr.heap.size) w6).setCell (p := ⟨wr.heap.size, 1, none⟩) rfl (.string ⟨mo.toArray⟩)
      have HS8 : Hid (DecSt w K (w6.setCell ⟨wr.heap.size, 1, none⟩ (.string ⟨mo.toArray⟩)) (w.heap.size + 1) pb lv cur its o4) := HS7.out.frame hft (by omega) (by omega) (fun k hk => by omega) (fun k hk e => by have := (HS.out.own.lt k hk).2; omega)
      have HX8 : Hid (RowV (w6.setCell ⟨wr.heap.size, 1, none⟩ (.string ⟨mo.toArray⟩)) wr.heap.size 84 [.string ⟨key.toArray⟩, .string ⟨mo.toArray⟩, .int .i64 0]) := by unfold Hid; simpa using RowV.set HX7.out 1 (.string ⟨mo.toArray⟩)
      clear hft
      unfold SlR.val
      go_upto_region 18 with fail
      clear fx1 x1 hcw HX7 HS7
      generalize w6.setCell ⟨wr.heap.size, 1, none⟩ (.string ⟨mo.toArray⟩) = W7 at *
      have m0 := HS8.out.pg.cell 0 (by simp)
      have m1 := HS8.out.pg.cell 1 (by simp)
      have n0 := HS8.out.qg.cell 0 (by simp)
      have n1 := HS8.out.qg.cell 1 (by simp)
      have gz0 := HS8.out.qg.frozen 0
      have gz1 := HS8.out.qg.frozen 1
      have y0 := HX8.out.cell 0 (by simp)
      have y1 := HX8.out.cell 1 (by simp)
      have y2 := HX8.out.cell 2 (by simp)
      simp only [List.getElem_cons_zero, List.getElem_cons_succ, SlR.val] at m0 m1 n0 n1 y0 y1 y2
      have hx7 : wr.heap.size < W7.heap.size := RowV.lt HX8.out
      have hp7 : pb < W7.heap.size := RowV.lt HS8.out.pg
      have hsi : SlI W7 cur.a its ∧ cur.n = its.length := SlV.ofOwn (s := cur) HS8.out.own
      have HCN : Hid (cur.n = k) := by unfold Hid; rw [hsi.2]; exact HLN.out
      have HSI : Hid (SlI W7 cur.a its) := hsi.1
      clear hsi
      have hk60 : (k : Int) ≤ 60 := by have := HIN0.out; omega
      obtain ⟨fb, hfb⟩ : ∃ fb, (decide (1 ≤ k1) && decide (k1 ≤ 12) && behindK its key) = fb := ⟨_, rfl⟩
      rw [hfb] at HNX
      have HFB : Hid ((decide (1 ≤ k1) && decide (k1 ≤ 12) && behindK its key) = fb) := hfb
      clear hfb
      go_cut [89] (fun cv wx => ∃ m, cv = .bool (!fb) ∧ wx = W7.drewN m)
      case first =>
       clear HX8 HO h6I h60I HS HIT HNX
       by_cases h1 : 1 ≤ k1
       ·have h1D : decide ((k1 : Int) < 1) = false := by simp; omega
        by_cases h12 : k1 ≤ 12
        ·have h12D : decide ((12 : Int) < k1) = false := by simp; omega
         by_cases hk0 : k = 0
         ·have hk0D : decide ((0 : Int) < k) = false := by simp; omega
          have hits : its = [] := List.length_eq_zero_iff.1 (by have := HLN.out; omega)
          obtain rfl : fb = true := by rw [← HFB.out, hits]; simp [behindK, h1, h12]
          go_quiet (fail)
          go_wp2_with fail
          go_meet
          case rel => exact ⟨nq, rfl, rfl⟩
         ·have hk0D : decide ((0 : Int) < k) = true := by simp; omega
          have hkp : 0 < k := by omega
          have hk0N : decide (0 < k) = true := by simp; omega
          have hkl : k - 1 < its.length := by have := HLN.out; omega
          obtain ⟨bb, oo, hca, hbb, z0, _, _⟩ := SlI.cells HSI.out (k - 1) hkl
          have HLA : Hid (its.getLast? = some its[k - 1]) := by
           unfold Hid; rw [List.getLast?_eq_getElem?, List.getElem?_eq_getElem (by have := HLN.out; omega)]
           congr 2; have := HLN.out; omega
          unfold strV at z0
          have HFC : Hid (Op.bytesLess its[k - 1].key key = fb) := by
           unfold Hid; rw [← HFB.out]; unfold behindK; rw [HLA.out]; simp [h1, h12]
          generalize its[k - 1].key = lk at *
          have hkw : IntKind.i64.wrap ((k : Int) - 1) = ((k - 1 : Nat) : Int) := by simp only [IntKind.wrap_i64]; omega
          have hkn : ((k - 1 : Nat) : Int) < cur.n := by have := HCN.out; omega
          obtain ⟨ca, cn, cc⟩ := cur
          simp only at hca hkn
          subst hca
          clear HLA HSI HCN HLN
          have hbl := HFC.out
          cases fb with
          | true =>
           go_quiet (fail)
           go_wp2_with fail
           go_meet
           case rel => exact ⟨nq, rfl, rfl⟩
          | false =>
           go_quiet (fail)
           go_wp2_with fail
           go_meet
           case rel => exact ⟨nq, rfl, rfl⟩
        ·have h12D : decide ((12 : Int) < k1) = true := by simp; omega
         obtain rfl : fb = false := by rw [← HFB.out]; simp [h12]
         go_quiet (fail)
         go_wp2_with fail
         go_meet
         case rel => exact ⟨nq, rfl, rfl⟩
       ·have h1D : decide ((k1 : Int) < 1) = true := by simp; omega
        obtain rfl : fb = false := by rw [← HFB.out]; simp [h1]
        go_quiet (fail)
        go_wp2_with fail
        go_meet
        case rel => exact ⟨nq, rfl, rfl⟩
      case rest =>
       obtain ⟨m, rfl, hwc⟩ := hcut
       subst hwc
       clear m0 m1 n0 n1 gz0 gz1 y0 y1 y2 HSI HO
       have HS9 : Hid (DecSt w K (W7.drewN m) (w.heap.size + 1) pb lv cur its o4) := HS8.out.drewN m
       have HX9 : Hid (RowV (W7.drewN m) wr.heap.size 84 [.string ⟨key.toArray⟩, .string ⟨mo.toArray⟩, .int .i64 0]) := RowV.of_block HX8.out rfl
       generalize W7.drewN m = W9 at *
       have m1 := HS9.out.pg.cell 1 (by simp)
       simp only [List.getElem_cons_zero, List.getElem_cons_succ, SlR.val] at m1
       cases fb with
       | false =>
        have HB : Hid (pageF b = none) := by
         unfold Hid
         rw [HPG.out, ← HIT.out, HNX.out]; rfl
        have m0 := HS9.out.pg.cell 0 (by simp)
        have n0 := HS9.out.qg.cell 0 (by simp)
        have n1 := HS9.out.qg.cell 1 (by simp)
        have gz0 := HS9.out.qg.frozen 0
        have gz1 := HS9.out.qg.frozen 1
        simp only [List.getElem_cons_zero, List.getElem_cons_succ, SlR.val] at m0 n0 n1
        go_wp2
        exact ret_agg2 (k := 2) (k2 := 3) (cs := [.int .i64 (lv : Int), .slice cur.a cur.n cur.cap]) rfl rfl rfl HS9.out.fin.1 Tryz.underlying80 rfl Tryz.sizePage rfl (decPost_bad HS9.out HB.out hlvb)
       | true =>
        have y0 := HX9.out.cell 0 (by simp)
        have y1 := HX9.out.cell 1 (by simp)
        have y2 := HX9.out.cell 2 (by simp)
        simp only [List.getElem_cons_zero, List.getElem_cons_succ] at y0 y1 y2
        have HIT2 : Hid (itemsO lv (n - (k + 1)) (its ++ [⟨key, mo, 0⟩]) o4 = itemsO lv n [] (takeR 1 (takeR 1 (some b)))) := by
         unfold Hid
         rw [← HIT.out, HNX.out, if_pos rfl]
        have HBA : Hid (Below W9.heap.size W9 (W9.alloc (.cells #[.string ⟨key.toArray⟩, .string ⟨mo.toArray⟩, .int .i64 0] 84))) := (Below.refl _ _).alloc (Nat.le_refl _) _
        have HOA : Hid (OwnI (W9.alloc (.cells #[.string ⟨key.toArray⟩, .string ⟨mo.toArray⟩, .int .i64 0] 84)) w.heap.size (.slice cur.a cur.n cur.cap) its) := (HS9.out.below HBA.out).own
        have HSA : Hid (SlI (W9.alloc (.cells #[.string ⟨key.toArray⟩, .string ⟨mo.toArray⟩, .int .i64 0] 84)) (some ⟨W9.heap.size, 0, none⟩) [⟨key, mo, 0⟩]) := SlV.alloc_new W9 (itsC [⟨key, mo, 0⟩]) _
        have HLE : Hid (its.length + [(⟨key, mo, 0⟩ : ItR)].length ≤ 1000000) := by unfold Hid; have := HLN.out; have := HIN0.out; simp; omega
        have HBS : Hid (w.heap.size ≤ (W9.alloc (.cells #[.string ⟨key.toArray⟩, .string ⟨mo.toArray⟩, .int .i64 0] 84)).heap.size) := (HS9.out.below HBA.out).be.size
        have HPA : Hid (RowV (W9.alloc (.cells #[.string ⟨key.toArray⟩, .string ⟨mo.toArray⟩, .int .i64 0] 84)) pb 80 [.int .i64 (lv : Int), .slice cur.a cur.n cur.cap]) := (HS9.out.below HBA.out).pg
        go_wp2_with (at_builtin; refine wp_appendI (by rfl) (.tmp 92) (.tmp 94) (by rfl) w.heap.size (.slice cur.a cur.n cur.cap) its (by rfl) HOA.out (some ⟨W9.heap.size, 0, none⟩) 1 1 [⟨key, mo, 0⟩] (by rfl) rfl HSA.out (fun e => by cases e) HLE.out HBS.out ?_; intro a9 n9 c9 w9 ho9 hf9 hat9; have hp9 : RowV w9 pb 80 [.int .i64 (lv : Int), .slice cur.a cur.n cur.cap] := RowV.of_block HPA.out (hf9.block _ (RowV.lt HPA.out) (fun e => owns_ne HOA.out HPA.out (by decide) e)); have p1 := hp9.cell 1 (by simp); have fp1 := hp9.frozen 1)
        have HPS : Hid (DecSt w K (w9.setCell ⟨pb, 1, none⟩ (.slice a9 n9 c9)) (w.heap.size + 1) pb lv ⟨a9, n9, c9⟩ (its ++ [⟨key, mo, 0⟩]) o4) := DecSt.push (cur' := ⟨a9, n9, c9⟩) HS9.out HBA.out ho9 hf9
        go_roundw
        case measure => simp [intOf]; omega
        case rel => exact ⟨k + 1, ⟨a9, n9, c9⟩, its ++ [⟨key, mo, 0⟩], o4, by omega, by go_num, HPS, by unfold Hid; have := HLN.out; simp; omega, HIT2⟩
    ·cases bad with
     | true =>
      have HB : Hid (pageF b = none) := by
       unfold Hid
       rw [HPG.out, ← HIT.out, HO.out, if_pos rfl, itemsO_none]; rfl
      have HR : Hid (RowV _ _ _ _) := HS.out.fin.1
      have HD : Hid (decPost _ _ _ _) := decPost_bad HS.out HB.out hlvb
      by_cases hlt : k < n
      ·have hltI : (k : Int) < n := by omega
       go_wp2
       go_region
       go_wp2
       exact ret_agg2 (k := 2) (k2 := 3) (cs := [.int .i64 (lv : Int), .slice cur.a cur.n cur.cap]) rfl rfl rfl (RowV.of_block HR.out rfl) Tryz.underlying80 rfl Tryz.sizePage rfl (decPost_drew HD.out)
      ·have hltI : ¬ (k : Int) < n := by omega
       go_wp2
       go_region
       go_wp2
       exact ret_agg2 (k := 2) (k2 := 3) (cs := [.int .i64 (lv : Int), .slice cur.a cur.n cur.cap]) rfl rfl rfl (RowV.of_block HR.out rfl) Tryz.underlying80 rfl Tryz.sizePage rfl (decPost_drew HD.out)
     | false =>
      have hlt : ¬ k < n := fun e => hgo ⟨e, rfl⟩
      have hltI : ¬ (k : Int) < n := by omega
      have HR : Hid (RowV _ _ _ _) := HS.out.fin.1
      have HE : Hid (pageF b = (if l' = [] then some its else none).map (fun its => (lv, its))) := by
       unfold Hid
       rw [HPG.out, ← HIT.out, HO.out, show n - k = 0 by omega]
       simp [itemsO]
      by_cases hz : s'.n = 0
      ·have HD : Hid (decPost _ _ _ _) := decPost_ok HS.out (by rw [HE.out, if_pos (List.length_eq_zero_iff.1 (by have := HSN.out; omega))]; rfl) hlvb
       have hzI : ((s'.n : Int) == 0) = true := by simp; omega
       go_wp2
       go_region_held3 (fun W => W.cell? ⟨w.heap.size + 1, 0, none⟩ = some (.slice s'.a s'.n s'.cap) ∧ W.cell? ⟨w.heap.size + 1, 1, none⟩ = some (.bool false) ∧ W.cell? ⟨pb, 0, none⟩ = some (.int .i64 (lv : Int)) ∧ W.cell? ⟨pb, 1, none⟩ = some (.slice cur.a cur.n cur.cap)) (go_keep) (fail)
       go_wp2
       exact ret_agg2 (k := 2) (k2 := 3) (cs := [.int .i64 (lv : Int), .slice cur.a cur.n cur.cap]) rfl rfl rfl (RowV.of_block HR.out rfl) Tryz.underlying80 rfl Tryz.sizePage rfl (decPost_drew HD.out)
      ·have HD : Hid (decPost _ _ _ _) := decPost_bad HS.out (by rw [HE.out, if_neg (fun e => by have := HSN.out; rw [e] at this; simp at this; omega)]; rfl) hlvb
       have hzI : ((s'.n : Int) == 0) = false := by simp; omega
       go_wp2
       go_region_held3 (fun W => W.cell? ⟨w.heap.size + 1, 0, none⟩ = some (.slice s'.a s'.n s'.cap) ∧ W.cell? ⟨w.heap.size + 1, 1, none⟩ = some (.bool false) ∧ W.cell? ⟨pb, 0, none⟩ = some (.int .i64 (lv : Int)) ∧ W.cell? ⟨pb, 1, none⟩ = some (.slice cur.a cur.n cur.cap)) (go_keep) (fail)
       go_wp2
       exact ret_agg2 (k := 2) (k2 := 3) (cs := [.int .i64 (lv : Int), .slice cur.a cur.n cur.cap]) rfl rfl rfl (RowV.of_block HR.out rfl) Tryz.underlying80 rfl Tryz.sizePage rfl (decPost_drew HD.out)
 ·have HB : Hid (pageF b = none) := HOUT.out hin
  have HF : Hid (_ ∧ _ ∧ _) := HS2.out.fin
  by_cases h6 : lv ≤ 6
  ·have h6I : ¬ (6 : Int) < lv := by omega
   by_cases h60 : n ≤ 60
   ·have h60I : ¬ (60 : Int) < n := by omega
    have hn0 : n = 0 := by omega
    have hl0 : (0 : Int) < lv := by omega
    subst hn0
    go_wp2
    exact ret_agg2 (k := 2) (k2 := 3) (cs := [.int .i64 (lv : Int), .slice none 0 0]) rfl rfl rfl HF.out.1 Tryz.underlying80 rfl Tryz.sizePage rfl (decPost_bad HS2.out HB.out hlvb)
   ·have h60I : (60 : Int) < n := by omega
    go_wp2
    exact ret_agg2 (k := 2) (k2 := 3) (cs := [.int .i64 (lv : Int), .slice none 0 0]) rfl rfl rfl HF.out.1 Tryz.underlying80 rfl Tryz.sizePage rfl (decPost_bad HS2.out HB.out hlvb)
  ·have h6I : (6 : Int) < lv := by omega
   go_wp2
   exact ret_agg2 (k := 2) (k2 := 3) (cs := [.int .i64 (lv : Int), .slice none 0 0]) rfl rfl rfl HF.out.1 Tryz.underlying80 rfl Tryz.sizePage rfl (decPost_bad HS2.out HB.out hlvb)
end Go.Proofs.YtekegfbjbainhaaGreat
