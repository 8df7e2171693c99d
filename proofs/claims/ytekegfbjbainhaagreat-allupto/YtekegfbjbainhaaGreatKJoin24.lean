import Derived.Test.YtekegfbjbainhaaGreatKJoin23
import Derived.Deep.DeepCutAuto
set_option linter.unusedVariables false
set_option linter.unusedSimpArgs false

namespace Go.Proofs.YtekegfbjbainhaaGreat
open Go.RowKit
theorem itemsO_X (lv m : Nat) (its : List ItR) (l : List UInt8) : itemsO lv (m + 1) its (some l) = match entX lv l with
  | none => none
  | some ((key, more), r) => if behindK its key = true then itemsO lv m (its ++ [⟨key, more, 0⟩]) (some r) else none := by
 show (if entFine lv its (some l) = true then itemsO lv m (its ++ [⟨entK (some l), entM lv (some l), 0⟩]) (entR lv (some l)) else none) = _
 unfold entX
 cases hr : entR lv (some l) with
 | none =>
  simp only [itemsO_none]
  split <;> rfl
 | some r =>
  simp only
  by_cases hc : 1 ≤ oneV (some l) ∧ oneV (some l) ≤ 12 ∧ (lv = 0 → oneV (entO (some l)) ≤ 12)
  ·rw [if_pos hc]
   simp only
   have hf : entFine lv its (some l) = behindK its (entK (some l)) := by
    unfold entFine
    have h1 : decide (1 ≤ oneV (some l)) = true := by simp [hc.1]
    have h2 : decide (oneV (some l) ≤ 12) = true := by simp [hc.2.1]
    have h3 : (lv == 0 && decide (12 < oneV (entO (some l)))) = false := by
     by_cases e : lv = 0
     ·have := hc.2.2 e; simp; intro _; omega
     ·simp [e]
    rw [h1, h2, h3]; rfl
   rw [hf]
  ·rw [if_neg hc]
   have hf : entFine lv its (some l) = false := by
    unfold entFine
    rw [Bool.eq_false_iff]
    intro h
    simp only [Bool.and_eq_true, decide_eq_true_eq, Bool.not_eq_true', Bool.and_eq_false_iff, beq_eq_false_iff_ne, decide_eq_false_iff_not] at h
    exact hc ⟨h.1.1.2, h.1.2, fun e => by rcases h.1.1.1 with h | h; exact absurd e h; omega⟩
   rw [hf]; rfl
theorem pageF_short {b : List UInt8} (h : takeR 1 (takeR 1 (some b)) = none) : pageF b = none := by
 unfold pageF
 split
 ·rw [h, itemsO_none]; rfl
 ·rfl
theorem less_nil {key : List UInt8} (h : 1 ≤ key.length) : Op.bytesLess [] key = true := by
 cases key with
 | nil => simp at h
 | cons x l => rfl
theorem entX_key {lv : Nat} {l key more r : List UInt8} (h : entX lv l = some ((key, more), r)) : 1 ≤ key.length ∧ key.length ≤ 12 := by
 unfold entX at h
 cases hr : entR lv (some l) with
 | none => rw [hr] at h; cases h
 | some r' =>
  rw [hr] at h
  simp only at h
  split at h
  case isFalse => cases h
  case isTrue hc =>
   simp only [Option.some.injEq, Prod.mk.injEq] at h
   obtain ⟨⟨rfl, rfl⟩, rfl⟩ := h
   have ho : ∃ r2, entO (some l) = some r2 := by
    cases e : entO (some l) with
    | none => unfold entR at hr; rw [e] at hr; split at hr <;> cases hr
    | some r => exact ⟨r, rfl⟩
   obtain ⟨r2, ho⟩ := ho
   have hk : (entK (some l)).length = oneV (some l) := by unfold entK; unfold entO at ho; exact takeB_some ho
   omega
def aheadK (its : List ItR) : List UInt8 := match its.getLast? with
 | none => []
 | some x => x.key
theorem behind_ahead {its : List ItR} {key : List UInt8} (h : 1 ≤ key.length) : behindK its key = Op.bytesLess (aheadK its) key := by
 unfold behindK aheadK
 cases its.getLast? with
 | none => simp only [less_nil h]
 | some x => rfl
theorem ahead_push (its : List ItR) (x : ItR) : aheadK (its ++ [x]) = x.key := by unfold aheadK; simp
theorem EnRd.frame {lv : Nat} {w w' : World} {K S : Nat → Prop} {x : EnP} {key more : List UInt8} (h : EnRd lv w K x key more) (hf : Frame S w w') (hS : ∀ k, K k → ¬ S k) : EnRd lv w' K x key more := ⟨h.d8, h.key.frame hf hS, fun e => ⟨(h.low e).1.frame hf hS, (h.low e).2⟩, h.high⟩
structure EnsL (lv : Nat) (w : World) (K : Nat → Prop) (base : Nat) (cur : SlR) (xs : List EnP) (its : List ItR) : Prop where
 own : w.ownsRow base 74 10 cur.val xs.length (ensC xs)
 len : xs.length = its.length
 en : ∀ i (h1 : i < xs.length) (h2 : i < its.length), EnRd lv w K xs[i] its[i].key its[i].more
theorem EnsL.nil (lv : Nat) (w : World) (K : Nat → Prop) (base : Nat) : EnsL lv w K base ⟨none, 0, 0⟩ [] [] := ⟨World.ownsRow_nil _ _ _ _, rfl, fun i h => absurd h (Nat.not_lt_zero _)⟩
theorem EnsL.frame {lv : Nat} {w w' : World} {K S : Nat → Prop} {base : Nat} {cur : SlR} {xs : List EnP} {its : List ItR} (h : EnsL lv w K base cur xs its) (hf : Frame S w w') (h1 : ∀ k, cur.val.ownBlock = some k → ¬ S k) (h2 : ∀ k, K k → ¬ S k) : EnsL lv w' K base cur xs its :=
 ⟨owns_frame h.own hf h1, h.len, fun i g1 g2 => (h.en i g1 g2).frame hf h2⟩
theorem EnsL.below {lv : Nat} {w w' : World} {K : Nat → Prop} {base : Nat} {cur : SlR} {xs : List EnP} {its : List ItR} (h : EnsL lv w K base cur xs its) (hf : Below w.heap.size w w') : EnsL lv w' K base cur xs its := h.frame (Frame.of_below_all (S := fun _ => False) hf) (fun _ _ e => e) (fun _ _ e => e)
theorem EnsL.d8 {lv : Nat} {w : World} {K : Nat → Prop} {base : Nat} {cur : SlR} {xs : List EnP} {its : List ItR} (h : EnsL lv w K base cur xs its) : ∀ x ∈ xs, x.d.length = 8 := fun x hx => by
 obtain ⟨i, hi, rfl⟩ := List.mem_iff_getElem.1 hx
 exact (h.en i hi (by rw [← h.len]; exact hi)).d8
theorem EnsL.toBase {lv : Nat} {w : World} {K : Nat → Prop} {base base' : Nat} {cur : SlR} {xs : List EnP} {its : List ItR} (h : EnsL lv w K base cur xs its) (hb : base' ≤ base) : EnsL lv w K base' cur xs its :=
 ⟨owns_base h.own (fun k hk => Nat.le_trans hb (h.own.lt k hk).1), h.len, h.en⟩
theorem EnsL.push {lv : Nat} {w w' : World} {K : Nat → Prop} {base : Nat} {cur cur' : SlR} {xs xs2 : List EnP} {its its2 : List ItR} (h : EnsL lv w K base cur xs its) (hl : xs2.length = its2.length) (hen : ∀ i (h1 : i < xs2.length) (h2 : i < its2.length), EnRd lv w K xs2[i] its2[i].key its2[i].more)
  (ho : w'.ownsRow base 74 10 cur'.val (xs.length + xs2.length) (ensC xs ++ ensC xs2)) (hf : Frame (fun k => cur.val.ownBlock = some k) w w') (hK : ∀ k, K k → k < base) : EnsL lv w' K base cur' (xs ++ xs2) (its ++ its2) := by
 have hk : ∀ k, K k → ¬ cur.val.ownBlock = some k := fun k hk e => by have := (h.own.lt k e).1; have := hK k hk; omega
 refine ⟨by rw [List.length_append, ensC_append]; exact ho, by rw [List.length_append, List.length_append, h.len, hl], fun i g1 g2 => ?_⟩
 by_cases hi : i < xs.length
 ·rw [List.getElem_append_left hi, List.getElem_append_left (by rw [← h.len]; exact hi)]
  exact (h.en i hi (by rw [← h.len]; exact hi)).frame hf hk
 ·have e1 : its.length ≤ i := by rw [← h.len]; omega
  rw [List.getElem_append_right (by omega), List.getElem_append_right e1]
  simp only [← h.len]
  exact (hen _ _ _).frame hf hk
structure PgSt (w : World) (K : Nat → Prop) (wr : World) (rb pb lv : Nat) (cur : SlR) (xs : List EnP) (its : List ItR) (l : List UInt8) : Prop where
 be : Below w.heap.size w wr
 rd : RdP wr K rb l
 pg : RowV wr pb 171 [.int .i64 (lv : Int), cur.val]
 qg : RowV wr w.heap.size 171 [.int .i64 0, .slice none 0 0]
 ens : EnsL lv wr K w.heap.size cur xs its
 n1 : w.heap.size < rb
 n2 : w.heap.size < pb
 kk : ∀ k, K k → k < w.heap.size
theorem PgSt.n3 {w wr : World} {K : Nat → Prop} {rb pb lv : Nat} {cur : SlR} {xs : List EnP} {its : List ItR} {l : List UInt8} (h : PgSt w K wr rb pb lv cur xs its l) : pb ≠ rb := h.rd.rowNe h.pg (by decide)
theorem PgSt.below {w wr w' : World} {K : Nat → Prop} {rb pb lv : Nat} {cur : SlR} {xs : List EnP} {its : List ItR} {l : List UInt8} (h : PgSt w K wr rb pb lv cur xs its l) (hb : Below wr.heap.size wr w') : PgSt w K w' rb pb lv cur xs its l :=
 ⟨h.be.trans (hb.mono h.be.size), h.rd.below hb, RowV.below h.pg h.pg.lt hb, RowV.below h.qg h.qg.lt hb, h.ens.below hb, h.n1, h.n2, h.kk⟩
theorem PgSt.read {w wr w' : World} {K : Nat → Prop} {rb pb lv : Nat} {cur : SlR} {xs : List EnP} {its : List ItR} {l l' : List UInt8} (h : PgSt w K wr rb pb lv cur xs its l) (hf : Frame (fun k => k = rb) wr w') (hr : RdP w' K rb l') : PgSt w K w' rb pb lv cur xs its l' :=
 ⟨h.be.trans (hf.below h.be.size (fun k hk => by have := h.n1; omega)), hr, RowV.of_block h.pg (hf.block _ h.pg.lt (fun e => h.n3 e)), RowV.of_block h.qg (hf.block _ h.qg.lt (fun e => by have := h.n1; omega)),
  h.ens.frame hf (fun k hk e => h.rd.ownNe h.ens.own (by decide) (by rw [hk, e])) (fun k hk e => by have := h.kk k hk; have := h.n1; omega), h.n1, h.n2, h.kk⟩
theorem PgSt.push {w wr W w1 : World} {K : Nat → Prop} {rb pb lv : Nat} {cur cur' : SlR} {xs : List EnP} {its : List ItR} {x : EnP} {it : ItR} {l : List UInt8} (h : PgSt w K wr rb pb lv cur xs its l) (hb : Below wr.heap.size wr W) (hx : EnRd lv W K x it.key it.more)
  (ho : w1.ownsRow w.heap.size 74 10 cur'.val (xs.length + 1) (ensC xs ++ ensC [x])) (hf : Frame (fun k => cur.val.ownBlock = some k) W w1) :
  PgSt w K (w1.setCell ⟨pb, 1, none⟩ cur'.val) rb pb lv cur' (xs ++ [x]) (its ++ [it]) l := by
 have h2 := h.below hb
 have hr1 : RdP w1 K rb l := h2.rd.frame hf (fun e => h2.rd.ownNe h2.ens.own (by decide) e) (fun k hk e => by have := h.kk k hk; have := (h.ens.own.lt k e).1; omega)
 have hp1 : RowV w1 pb 171 [.int .i64 (lv : Int), cur.val] := RowV.of_block h2.pg (hf.block _ h2.pg.lt (fun e => owns_ne h2.ens.own h2.pg (by decide) e))
 have hq1 : RowV w1 w.heap.size 171 [.int .i64 0, .slice none 0 0] := RowV.of_block h2.qg (hf.block _ h2.qg.lt (fun e => owns_ne h2.ens.own h2.qg (by decide) e))
 have hf2 : Frame (fun k => k = pb) w1 (w1.setCell ⟨pb, 1, none⟩ cur'.val) := (Frame.refl (fun k => k = pb) _).setCell (p := ⟨pb, 1, none⟩) rfl _
 have hb1 : Below w.heap.size w w1 := h2.be.trans (hf.below h2.be.size (fun k hk => (h2.ens.own.lt k hk).1))
 have he1 : EnsL lv w1 K w.heap.size cur' (xs ++ [x]) (its ++ [it]) := EnsL.push h2.ens rfl (fun i g1 g2 => by
  simp only [List.length_singleton] at g1
  obtain rfl : i = 0 := by omega
  exact hx) ho hf h.kk
 exact ⟨hb1.trans (hf2.below hb1.size (fun k hk => by have := h.n2; omega)), hr1.frame hf2 (fun e => h.n3 e.symm) (fun k hk e => by have := h.kk k hk; have := h.n2; omega), by simpa using RowV.set hp1 1 cur'.val, RowV.of_block hq1 (hf2.block _ hq1.lt (fun e => by have := h.n2; omega)),
  he1.frame hf2 (fun k hk e => owns_ne he1.own hp1 (by decide) (by rw [hk, e])) (fun k hk e => by have := h.kk k hk; have := h.n2; omega), h.n1, h.n2, h.kk⟩
def pofPost (w : World) (K : Nat → Prop) (o : Option (Nat × List ItR)) (e : Ending) (w' : World) : Prop :=
 Below w.heap.size w w' ∧ match o with
  | none => e = pkE
  | some (lv, its) => ∃ (cur : SlR) (xs : List EnP), e = .returned (.agg #[.int .i64 (lv : Int), cur.val]) ∧ EnsL lv w' K w.heap.size cur xs its
end Go.Proofs.YtekegfbjbainhaaGreat


namespace Go.Proofs.YtekegfbjbainhaaGreat
open Go.RowKit
attribute [local go_sem ↓] Go.wp_at_zero Go.wp_at_succ
theorem Tryz.sizePgP : (Tryz.prog.info? 171).map (·.size) = some 2 := by kernel_rfl
theorem PgSt.fin {w wr : World} {K : Nat → Prop} {rb pb lv : Nat} {cur : SlR} {xs : List EnP} {its : List ItR} {l : List UInt8} (h : PgSt w K wr rb pb lv cur xs its l) :
  RowV ((wr.setCell ⟨w.heap.size, 0, none⟩ (.int .i64 (lv : Int))).setCell ⟨w.heap.size, 1, none⟩ cur.val) w.heap.size 171 [.int .i64 (lv : Int), cur.val] ∧ Below w.heap.size w ((wr.setCell ⟨w.heap.size, 0, none⟩ (.int .i64 (lv : Int))).setCell ⟨w.heap.size, 1, none⟩ cur.val) ∧
   EnsL lv ((wr.setCell ⟨w.heap.size, 0, none⟩ (.int .i64 (lv : Int))).setCell ⟨w.heap.size, 1, none⟩ cur.val) K w.heap.size cur xs its := by
 have hf : Frame (fun k => k = w.heap.size) wr ((wr.setCell ⟨w.heap.size, 0, none⟩ (.int .i64 (lv : Int))).setCell ⟨w.heap.size, 1, none⟩ cur.val) := ((Frame.refl (fun k => k = w.heap.size) wr).setCell (p := ⟨w.heap.size, 0, none⟩) rfl _).setCell (p := ⟨w.heap.size, 1, none⟩) rfl _
 refine ⟨by simpa using (RowV.set h.qg 0 (.int .i64 (lv : Int))).set 1 cur.val, h.be.trans (hf.below h.be.size (fun k hk => by omega)), h.ens.frame hf (fun k hk e => owns_ne h.ens.own h.qg (by decide) (by rw [hk, e])) (fun k hk e => by have := h.kk k hk; omega)⟩
set_option maxRecDepth 100000 in
set_option maxHeartbeats 8000000 in
theorem pageOf_any (K : Nat → Prop) (s : SlR) (b : List UInt8) (w : World) (hs : SubS w K s b) (hK : ∀ k, K k → k < w.heap.size) :
  Calls Tryz.prog 134 #[.slice s.a s.n s.cap] w (pofPost w K (pageF b)) := by
 have hA : Below w.heap.size w ((w.alloc (.cells #[.int .i64 0, .slice none 0 0] 171)).alloc (.cells #[.slice s.a s.n s.cap] 168)) := ((Below.refl _ _).alloc (Nat.le_refl _) _).alloc (by simp) _
 have HQ : Hid (RowV ((w.alloc (.cells #[.int .i64 0, .slice none 0 0] 171)).alloc (.cells #[.slice s.a s.n s.cap] 168)) w.heap.size 171 [.int .i64 0, .slice none 0 0]) := (RowV.new w _ _).alloc _
 have hR : RdP ((w.alloc (.cells #[.int .i64 0, .slice none 0 0] 171)).alloc (.cells #[.slice s.a s.n s.cap] 168)) K (w.heap.size + 1) b :=
  ⟨s, RowV.new_at _ _ _ _ (by simp), hs.below hA, fun e => by have := hK _ e; omega⟩
 have HK : Hid (∀ k, K k → k < w.heap.size) := hK
 have HA : Hid (Below w.heap.size w ((w.alloc (.cells #[.int .i64 0, .slice none 0 0] 171)).alloc (.cells #[.slice s.a s.n s.cap] 168))) := hA
 have HN1 : Hid (Calls _ _ _ _ _) := numberP_any K (w.heap.size + 1) b _ hR
 clear hs hK hA hR
 go_enter Tryz.func134, Tryz.ntmps134
 go_wp2_with fail
 refine HN1.out.mono ?_
 rintro e w1 ⟨hf1, hz1, hm⟩
 have HB1 : Hid (Below w.heap.size w w1) := HA.out.trans (hf1.below (by simp; omega) (fun k hk => by omega))
 have HQ1 : Hid (RowV w1 w.heap.size 171 [.int .i64 0, .slice none 0 0]) := RowV.of_block HQ.out (hf1.block _ (by simp; omega) (by omega))
 cases h1 : takeR 1 (some b) with
 | none =>
  rw [h1] at hm
  obtain rfl : e = pkE := hm
  have HX : Hid (pageF b = none) := pageF_short (by rw [h1]; rfl)
  unfold pkE
  go_wp2
  refine ⟨rfl, HB1.out, ?_⟩
  rw [HX.out]; rfl
 | some b1 =>
  rw [h1] at hm
  obtain ⟨rfl, hr1⟩ := hm
  have hlvb := oneV_lt (some b)
  have HST : Hid (PgSt w K (w1.alloc (.cells #[.int .i64 (oneV (some b) : Int), .slice none 0 0] 171)) (w.heap.size + 1) w1.heap.size (oneV (some b)) ⟨none, 0, 0⟩ [] [] b1) := by
   have ha : Below w1.heap.size w1 (w1.alloc (.cells #[.int .i64 (oneV (some b) : Int), .slice none 0 0] 171)) := (Below.refl _ _).alloc (Nat.le_refl _) _
   exact ⟨HB1.out.trans (ha.mono HB1.out.size), hr1.below ha, RowV.new w1 _ _, RowV.below HQ1.out HQ1.out.lt ha, EnsL.nil _ _ _ _, by omega, HQ1.out.lt, HK.out⟩
  have HN2 : Hid (Calls _ _ _ _ _) := numberP_any K (w.heap.size + 1) b1 _ HST.out.rd
  have hnb := oneV_lt (some b1)
  have HOUT : Hid (¬ (oneV (some b) ≤ 6 ∧ oneV (some b1) ≤ 60 ∧ (oneV (some b) = 0 ∨ oneV (some b1) ≠ 0)) → pageF b = none) := fun h => pageF_out rfl (by rw [h1]) h
  have HIN : Hid (oneV (some b) ≤ 6 ∧ oneV (some b1) ≤ 60 ∧ (oneV (some b) = 0 ∨ oneV (some b1) ≠ 0) → pageF b = (itemsO (oneV (some b)) (oneV (some b1)) [] (takeR 1 (some b1))).map (fun its => (oneV (some b), its))) := fun h => by rw [pageF_in rfl (by rw [h1]) h, h1]
  have HSH : Hid (takeR 1 (some b1) = none → pageF b = none) := fun h => pageF_short (by rw [h1, h])
  generalize oneV (some b) = lv at *
  have hpb : w.heap.size < w1.heap.size := HQ1.out.lt
  clear h1 hr1 hf1 hz1 HN1 HB1 HQ1 HQ HA
  have c0 := HST.out.pg.cell 0 (by simp)
  simp only [List.getElem_cons_zero] at c0
  by_cases h6 : lv ≤ 6
  ·have h6I : (lv : Int) ≤ 6 := by omega
   go_wp2_with (go_at_call 132; refine (must_yes _).mono ?_; rintro e w2 ⟨rfl, hw2⟩; subst hw2)
   refine HN2.out.mono ?_
   rintro e w2 ⟨hf2, hz2, hm⟩
   cases h2 : takeR 1 (some b1) with
   | none =>
    rw [h2] at hm
    obtain rfl : e = pkE := hm
    have HX : Hid (pageF b = none) := HSH.out h2
    have HB2 : Hid (Below w.heap.size w w2) := HST.out.be.trans (hf2.below HST.out.be.size (fun k hk => by omega))
    unfold pkE
    go_wp2
    refine ⟨rfl, HB2.out, ?_⟩
    rw [HX.out]; rfl
   | some b2 =>
    rw [h2] at hm
    obtain ⟨rfl, hr2⟩ := hm
    have HS2 : Hid (PgSt w K w2 (w.heap.size + 1) w1.heap.size lv ⟨none, 0, 0⟩ [] [] b2) := HST.out.read hf2 hr2
    generalize oneV (some b1) = n at *
    have HIN2 : Hid (lv ≤ 6 ∧ n ≤ 60 ∧ (lv = 0 ∨ n ≠ 0) → pageF b = (itemsO lv n [] (some b2)).map (fun its => (lv, its))) := by rw [h2] at HIN; exact HIN
    generalize w1.heap.size = pb at *
    clear h2 hr2 hf2 hz2 HN2 HST HSH HIN c0
    have c0 := HS2.out.pg.cell 0 (by simp)
    simp only [List.getElem_cons_zero] at c0
    by_cases h60 : n ≤ 60
    ·have h60I : (n : Int) ≤ 60 := by omega
     by_cases hor : lv = 0 ∨ n ≠ 0
     ·have HPG : Hid (pageF b = (itemsO lv n [] (some b2)).map (fun its => (lv, its))) := HIN2.out ⟨h6, h60, hor⟩
      have HLV : Hid (lv ≤ 6 ∧ n ≤ 60) := ⟨h6, h60⟩
      go_upto_region 6 with (go_at_call 132; refine (must_yes _).mono ?_; rintro e w3 ⟨rfl, hw3⟩; obtain rfl : w2 = w3 := hw3.symm; clear hw3)
      go_cut [27] (fun cv wx => wx = w2)
      case first =>
       by_cases hn0 : n = 0
       ·have hl0 : lv = 0 := by omega
        subst hn0; subst hl0
        go_wp2_with (go_at_call 132; refine (must_yes _).mono ?_; rintro e w3 ⟨rfl, hw3⟩; obtain rfl : w2 = w3 := hw3.symm; clear hw3)
        go_meet
        case rel => rfl
       ·have hn0I : (0 : Int) < n := by omega
        go_wp2_with (go_at_call 132; refine (must_yes _).mono ?_; rintro e w3 ⟨rfl, hw3⟩; obtain rfl : w2 = w3 := hw3.symm; clear hw3)
        go_meet
        case rel => rfl
      case rest =>
       obtain rfl : w2 = wc := hcut.symm
       clear hcut c0 hor
       go_wp2
       go_loopw [6, 7, 29] (fun av _ ix wr => ∃ (k : Nat) (sa : SlR) (cur : SlR) (xs : List EnP) (its : List ItR) (l : List UInt8), k ≤ n ∧ ix = .int .i64 (k : Int) ∧ av = .slice sa.a sa.n sa.cap ∧ Hid (PgSt w K wr (w.heap.size + 1) pb lv cur xs its l) ∧ Hid (its.length = k) ∧ Hid (SubS wr K sa (aheadK its)) ∧ Hid (itemsO lv (n - k) its (some l) = itemsO lv n [] (some b2))) (fun _ _ ix _ => n - (intOf ix).toNat)
       case atStart => exact ⟨0, ⟨none, 0, 0⟩, ⟨none, 0, 0⟩, [], [], b2, by omega, by simp, rfl, HS2, rfl, SubS.nil _ _, rfl⟩
       case round =>
        obtain ⟨k, sa, cur, xs, its, l, hk, rfl, rfl, HS, HLN, HSA, HIT⟩ := hrel
        have d0 := HS.out.pg.cell 0 (by simp)
        have d1 := HS.out.pg.cell 1 (by simp)
        simp only [List.getElem_cons_zero, List.getElem_cons_succ, SlR.val] at d0 d1
        have hk60 : (k : Int) ≤ 60 := by omega
        by_cases hlt : k < n
        ·have hltI : (k : Int) < n := by omega
         have HEN : Hid (Calls _ _ _ _ _) := entryP_any K (w.heap.size + 1) lv l wr HS.out.rd (fun q hq => Nat.lt_of_lt_of_le (HK.out q hq) HS.out.be.size) h6
         go_wp2_with fail
         refine HEN.out.mono ?_
         rintro e w3 ⟨hf3, hm⟩
         have HSTP := itemsO_X lv (n - (k + 1)) its l
         rw [show n - (k + 1) + 1 = n - k by omega] at HSTP
         cases hX : entX lv l with
         | none =>
          rw [hX] at hm HSTP
          obtain rfl : e = pkE := hm
          have HX : Hid (pageF b = none) := by unfold Hid; rw [HPG.out, ← HIT.out, HSTP]; rfl
          have HB3 : Hid (Below w.heap.size w w3) := HS.out.be.trans (hf3.below HS.out.be.size (fun k hk => by omega))
          clear HSTP
          unfold pkE
          go_wp2
          refine ⟨rfl, HB3.out, ?_⟩
          rw [HX.out]; rfl
         | some q =>
          obtain ⟨⟨key, more⟩, r⟩ := q
          rw [hX] at hm HSTP
          obtain ⟨x, rfl, hen, hr3⟩ := hm
          have hkl := entX_key hX
          have HS3 : Hid (PgSt w K w3 (w.heap.size + 1) pb lv cur xs its r) := HS.out.read hf3 hr3
          have hkn : ∀ q, K q → ¬ q = w.heap.size + 1 := fun q hq e => by have := HK.out q hq; omega
          have HA3 : Hid (SubS w3 K sa (aheadK its)) := HSA.out.frame hf3 hkn
          obtain ⟨sk, sv, dd⟩ := x
          obtain ⟨x0, x1, x2, x3, x4, x5, x6, x7, rfl⟩ := list8 dd hen.d8
          have hagg : (enC ⟨sk, sv, [x0, x1, x2, x3, x4, x5, x6, x7]⟩).toArray = #[.slice sk.a sk.n sk.cap, .slice sv.a sv.n sv.cap, .int .u8 (x0.toNat : Int), .int .u8 (x1.toNat : Int), .int .u8 (x2.toNat : Int), .int .u8 (x3.toNat : Int), .int .u8 (x4.toNat : Int), .int .u8 (x5.toNat : Int), .int .u8 (x6.toNat : Int), .int .u8 (x7.toNat : Int)] := rfl
          rw [hagg]
          have hb4 : Below w3.heap.size w3 (w3.alloc (.cells #[.slice sk.a sk.n sk.cap, .slice sv.a sv.n sv.cap, .int .u8 (x0.toNat : Int), .int .u8 (x1.toNat : Int), .int .u8 (x2.toNat : Int), .int .u8 (x3.toNat : Int), .int .u8 (x4.toNat : Int), .int .u8 (x5.toNat : Int), .int .u8 (x6.toNat : Int), .int .u8 (x7.toNat : Int)] 74)) := (Below.refl _ _).alloc (Nat.le_refl _) _
          have HS4 : Hid (PgSt w K (w3.alloc (.cells #[.slice sk.a sk.n sk.cap, .slice sv.a sv.n sv.cap, .int .u8 (x0.toNat : Int), .int .u8 (x1.toNat : Int), .int .u8 (x2.toNat : Int), .int .u8 (x3.toNat : Int), .int .u8 (x4.toNat : Int), .int .u8 (x5.toNat : Int), .int .u8 (x6.toNat : Int), .int .u8 (x7.toNat : Int)] 74)) (w.heap.size + 1) pb lv cur xs its r) := HS3.out.below hb4
          have HA4 : Hid (SubS (w3.alloc (.cells #[.slice sk.a sk.n sk.cap, .slice sv.a sv.n sv.cap, .int .u8 (x0.toNat : Int), .int .u8 (x1.toNat : Int), .int .u8 (x2.toNat : Int), .int .u8 (x3.toNat : Int), .int .u8 (x4.toNat : Int), .int .u8 (x5.toNat : Int), .int .u8 (x6.toNat : Int), .int .u8 (x7.toNat : Int)] 74)) K sa (aheadK its)) := HA3.out.below hb4
          have HN4 : Hid (EnRd lv (w3.alloc (.cells #[.slice sk.a sk.n sk.cap, .slice sv.a sv.n sv.cap, .int .u8 (x0.toNat : Int), .int .u8 (x1.toNat : Int), .int .u8 (x2.toNat : Int), .int .u8 (x3.toNat : Int), .int .u8 (x4.toNat : Int), .int .u8 (x5.toNat : Int), .int .u8 (x6.toNat : Int), .int .u8 (x7.toNat : Int)] 74)) K ⟨sk, sv, [x0, x1, x2, x3, x4, x5, x6, x7]⟩ key more) := hen.frame (Frame.of_below_all (S := fun _ => False) hb4) (fun _ _ e => e)
          have HX4 : Hid (RowV (w3.alloc (.cells #[.slice sk.a sk.n sk.cap, .slice sv.a sv.n sv.cap, .int .u8 (x0.toNat : Int), .int .u8 (x1.toNat : Int), .int .u8 (x2.toNat : Int), .int .u8 (x3.toNat : Int), .int .u8 (x4.toNat : Int), .int .u8 (x5.toNat : Int), .int .u8 (x6.toNat : Int), .int .u8 (x7.toNat : Int)] 74)) w3.heap.size 74 [.slice sk.a sk.n sk.cap, .slice sv.a sv.n sv.cap, .int .u8 (x0.toNat : Int), .int .u8 (x1.toNat : Int), .int .u8 (x2.toNat : Int), .int .u8 (x3.toNat : Int), .int .u8 (x4.toNat : Int), .int .u8 (x5.toNat : Int), .int .u8 (x6.toNat : Int), .int .u8 (x7.toNat : Int)]) := RowV.new w3 _ _
          have HNX : Hid (itemsO lv (n - k) its (some l) = if Op.bytesLess (aheadK its) key = true then itemsO lv (n - (k + 1)) (its ++ [⟨key, more, 0⟩]) (some r) else none) := by unfold Hid; rw [HSTP]; simp only [behind_ahead hkl.1]
          have hpb3 : pb < w3.heap.size := HS3.out.pg.lt
          have HOB : Hid (∀ q, cur.val.ownBlock = some q → q < w3.heap.size) := fun q hq => (HS3.out.ens.own.lt q hq).2
          clear hX hen hr3 hkl HSTP hf3 HS3 hkn HA3 hagg hb4 d0 d1 HEN
          go_upto_region 11 with fail
          generalize w3.alloc (.cells #[.slice sk.a sk.n sk.cap, .slice sv.a sv.n sv.cap, .int .u8 (x0.toNat : Int), .int .u8 (x1.toNat : Int), .int .u8 (x2.toNat : Int), .int .u8 (x3.toNat : Int), .int .u8 (x4.toNat : Int), .int .u8 (x5.toNat : Int), .int .u8 (x6.toNat : Int), .int .u8 (x7.toNat : Int)] 74) = W4 at *
          generalize w3.heap.size = eb at *
          have HCM : Hid (Calls _ _ _ _ _) := compare_any sa sk (aheadK its) key W4 HA4.out.bs HN4.out.key.bs
          have HLE := cmp_neg (aheadK its) key
          have HBD := cmp_bd (aheadK its) key
          generalize Lib.compareBytes (aheadK its) key = c at *
          unfold SlR.val at HCM
          have y0 := HX4.out.cell 0 (by simp)
          simp only [List.getElem_cons_zero] at y0
          by_cases hbl : Op.bytesLess (aheadK its) key = true
          ·have hcI : c < 0 := HLE.2 hbl
           have HNY : Hid (itemsO lv (n - (k + 1)) (its ++ [⟨key, more, 0⟩]) (some r) = itemsO lv n [] (some b2)) := by unfold Hid; rw [← HIT.out, HNX.out, if_pos hbl]
           clear HLE hbl HNX
           go_upto_region 12 with (first
            | (go_at_call 63; refine HCM.out.mono ?_; rintro e w5 ⟨rfl, hw5⟩; obtain rfl : W4 = w5 := hw5.symm; clear hw5)
            | (go_at_call 132; refine (must_yes _).mono ?_; rintro e w5 ⟨rfl, hw5⟩; obtain rfl : W4 = w5 := hw5.symm; clear hw5))
           have d1 := HS4.out.pg.cell 1 (by simp)
           simp only [List.getElem_cons_zero, List.getElem_cons_succ, SlR.val] at d1
           have HBA : Hid (Below W4.heap.size W4 (W4.alloc (.cells #[.slice sk.a sk.n sk.cap, .slice sv.a sv.n sv.cap, .int .u8 (x0.toNat : Int), .int .u8 (x1.toNat : Int), .int .u8 (x2.toNat : Int), .int .u8 (x3.toNat : Int), .int .u8 (x4.toNat : Int), .int .u8 (x5.toNat : Int), .int .u8 (x6.toNat : Int), .int .u8 (x7.toNat : Int)] 74))) := (Below.refl _ _).alloc (Nat.le_refl _) _
           have HS5 : Hid (PgSt w K (W4.alloc (.cells #[.slice sk.a sk.n sk.cap, .slice sv.a sv.n sv.cap, .int .u8 (x0.toNat : Int), .int .u8 (x1.toNat : Int), .int .u8 (x2.toNat : Int), .int .u8 (x3.toNat : Int), .int .u8 (x4.toNat : Int), .int .u8 (x5.toNat : Int), .int .u8 (x6.toNat : Int), .int .u8 (x7.toNat : Int)] 74)) (w.heap.size + 1) pb lv cur xs its r) := HS4.out.below HBA.out
           have HN5 : Hid (EnRd lv (W4.alloc (.cells #[.slice sk.a sk.n sk.cap, .slice sv.a sv.n sv.cap, .int .u8 (x0.toNat : Int), .int .u8 (x1.toNat : Int), .int .u8 (x2.toNat : Int), .int .u8 (x3.toNat : Int), .int .u8 (x4.toNat : Int), .int .u8 (x5.toNat : Int), .int .u8 (x6.toNat : Int), .int .u8 (x7.toNat : Int)] 74)) K ⟨sk, sv, [x0, x1, x2, x3, x4, x5, x6, x7]⟩ key more) := HN4.out.frame (Frame.of_below_all (S := fun _ => False) HBA.out) (fun _ _ e => e)
           have HXL : Hid (xs.length ≤ 60) := by unfold Hid; rw [HS4.out.ens.len, HLN.out]; omega
           have HSV : Hid (SlV (W4.alloc (.cells #[.slice sk.a sk.n sk.cap, .slice sv.a sv.n sv.cap, .int .u8 (x0.toNat : Int), .int .u8 (x1.toNat : Int), .int .u8 (x2.toNat : Int), .int .u8 (x3.toNat : Int), .int .u8 (x4.toNat : Int), .int .u8 (x5.toNat : Int), .int .u8 (x6.toNat : Int), .int .u8 (x7.toNat : Int)] 74)) (some ⟨W4.heap.size, 0, none⟩) [.slice sk.a sk.n sk.cap, .slice sv.a sv.n sv.cap, .int .u8 (x0.toNat : Int), .int .u8 (x1.toNat : Int), .int .u8 (x2.toNat : Int), .int .u8 (x3.toNat : Int), .int .u8 (x4.toNat : Int), .int .u8 (x5.toNat : Int), .int .u8 (x6.toNat : Int), .int .u8 (x7.toNat : Int)]) := SlV.alloc_new W4 _ _
           have H1C : Hid (∀ u ∈ ([.slice sk.a sk.n sk.cap, .slice sv.a sv.n sv.cap, .int .u8 (x0.toNat : Int), .int .u8 (x1.toNat : Int), .int .u8 (x2.toNat : Int), .int .u8 (x3.toNat : Int), .int .u8 (x4.toNat : Int), .int .u8 (x5.toNat : Int), .int .u8 (x6.toNat : Int), .int .u8 (x7.toNat : Int)] : List Value), u.oneCell' = true) := enC_one ⟨sk, sv, [x0, x1, x2, x3, x4, x5, x6, x7]⟩
           have HSZ : Hid (w.heap.size ≤ (W4.alloc (.cells #[.slice sk.a sk.n sk.cap, .slice sv.a sv.n sv.cap, .int .u8 (x0.toNat : Int), .int .u8 (x1.toNat : Int), .int .u8 (x2.toNat : Int), .int .u8 (x3.toNat : Int), .int .u8 (x4.toNat : Int), .int .u8 (x5.toNat : Int), .int .u8 (x6.toNat : Int), .int .u8 (x7.toNat : Int)] 74)).heap.size) := HS5.out.be.size
           have HKK : Hid (SubS (W4.alloc (.cells #[.slice sk.a sk.n sk.cap, .slice sv.a sv.n sv.cap, .int .u8 (x0.toNat : Int), .int .u8 (x1.toNat : Int), .int .u8 (x2.toNat : Int), .int .u8 (x3.toNat : Int), .int .u8 (x4.toNat : Int), .int .u8 (x5.toNat : Int), .int .u8 (x6.toNat : Int), .int .u8 (x7.toNat : Int)] 74)) K sk key) := HN5.out.key
           go_wp2_with (first
            | (refine wpList_load_mid (by rfl) 74 (.tmp 7) (by rfl) eb 0 (by rfl) [.slice sk.a sk.n sk.cap, .slice sv.a sv.n sv.cap, .int .u8 (x0.toNat : Int), .int .u8 (x1.toNat : Int), .int .u8 (x2.toNat : Int), .int .u8 (x3.toNat : Int), .int .u8 (x4.toNat : Int), .int .u8 (x5.toNat : Int), .int .u8 (x6.toNat : Int), .int .u8 (x7.toNat : Int)] _ HX4.out.range Tryz.underlying74 rfl Tryz.sizeEntryB ?_)
            | (at_builtin; refine wp_appendV (by rfl) (.tmp 41) (.tmp 43) 67 (by rfl) w.heap.size 74 _ 10 56 Tryz.underlying67 Tryz.infoEntry rfl (by decide) (.slice cur.a cur.n cur.cap) xs.length (ensC xs) (by rfl) HS5.out.ens.own (some ⟨W4.heap.size, 0, none⟩) 1 1 [.slice sk.a sk.n sk.cap, .slice sv.a sv.n sv.cap, .int .u8 (x0.toNat : Int), .int .u8 (x1.toNat : Int), .int .u8 (x2.toNat : Int), .int .u8 (x3.toNat : Int), .int .u8 (x4.toNat : Int), .int .u8 (x5.toNat : Int), .int .u8 (x6.toNat : Int), .int .u8 (x7.toNat : Int)] (by rfl) rfl HSV.out (fun h => by cases h) H1C.out (by have := HXL.out; unfold maxLen; omega) (by have := HXL.out; omega) HSZ.out ?_; intro v9 w9 ho9 hf9 hat9; obtain ⟨a9, c9, hv9, _⟩ := owns_form ho9; subst hv9; have hp9 : RowV w9 pb 171 [.int .i64 (lv : Int), .slice cur.a cur.n cur.cap] := RowV.of_block HS5.out.pg (hf9.block _ HS5.out.pg.lt (fun e => owns_ne HS5.out.ens.own HS5.out.pg (by decide) e)); have p1 := hp9.cell 1 (by simp); have fp1 := hp9.frozen 1; have hx9 : RowV w9 eb 74 [.slice sk.a sk.n sk.cap, .slice sv.a sv.n sv.cap, .int .u8 (x0.toNat : Int), .int .u8 (x1.toNat : Int), .int .u8 (x2.toNat : Int), .int .u8 (x3.toNat : Int), .int .u8 (x4.toNat : Int), .int .u8 (x5.toNat : Int), .int .u8 (x6.toNat : Int), .int .u8 (x7.toNat : Int)] := RowV.of_block (RowV.below HX4.out HX4.out.lt HBA.out) (hf9.block _ (RowV.lt (RowV.below HX4.out HX4.out.lt HBA.out)) (fun e => by have := HOB.out _ e; omega)); have y0 := hx9.cell 0 (by simp); simp only [List.getElem_cons_zero] at y0))
           have hps : Hid (PgSt w K (w9.setCell ⟨pb, 1, none⟩ (.slice a9 (xs.length + 1) c9)) (w.heap.size + 1) pb lv ⟨a9, xs.length + 1, c9⟩ (xs ++ [⟨sk, sv, [x0, x1, x2, x3, x4, x5, x6, x7]⟩]) (its ++ [⟨key, more, 0⟩]) r) := PgSt.push (cur' := ⟨a9, xs.length + 1, c9⟩) (it := ⟨key, more, 0⟩) HS4.out HBA.out HN5.out ho9 hf9
           have hft : Frame (fun k => k = pb) w9 (w9.setCell ⟨pb, 1, none⟩ (.slice a9 (xs.length + 1) c9)) := (Frame.refl (fun k => k = pb) _).setCell (p := ⟨pb, 1, none⟩) rfl _
           have hsk : SubS (w9.setCell ⟨pb, 1, none⟩ (.slice a9 (xs.length + 1) c9)) K sk key := (HKK.out.frame hf9 (fun q hq e => by have := (HS4.out.ens.own.lt q e).1; have := HK.out q hq; omega)).frame hft (fun q hq e => by have := HK.out q hq; have := HS4.out.n2; omega)
           refine ⟨⟨k + 1, sk, ⟨a9, xs.length + 1, c9⟩, xs ++ [⟨sk, sv, [x0, x1, x2, x3, x4, x5, x6, x7]⟩], its ++ [⟨key, more, 0⟩], r, hlt, by go_num, rfl, hps, by unfold Hid; rw [List.length_append, HLN.out]; rfl, ?_, HNY⟩, by simp [intOf]; omega⟩
           unfold Hid; rw [ahead_push]; exact hsk
          ·have hcI : decide (c < 0) = false := by have : ¬ c < 0 := fun h => hbl (HLE.1 h); simp; omega
           have HX : Hid (pageF b = none) := by unfold Hid; rw [HPG.out, ← HIT.out, HNX.out, if_neg hbl]; rfl
           clear HLE hbl HNX
           go_wp2_with (first
            | (go_at_call 63; refine HCM.out.mono ?_; rintro e w5 ⟨rfl, hw5⟩; obtain rfl : W4 = w5 := hw5.symm; clear hw5)
            | (go_at_call 132; refine (must_no _).mono ?_; rintro e w5 ⟨rfl, hw5⟩; obtain rfl : W4 = w5 := hw5.symm; clear hw5; unfold pkE))
           refine ⟨rfl, HS4.out.be, ?_⟩
           rw [HX.out]; rfl
        ·obtain rfl : k = n := by omega
         have HEND : Hid (Calls _ _ _ _ _) := endP_any K (w.heap.size + 1) l wr HS.out.rd
         have HPE : Hid (pageF b = (if l = [] then some its else none).map (fun its => (lv, its))) := by
          unfold Hid; rw [HPG.out, ← HIT.out, Nat.sub_self]; simp [itemsO]
         go_wp2_with fail
         refine HEND.out.mono ?_
         rintro e w3 ⟨hw3, he⟩
         obtain rfl : wr = w3 := hw3.symm
         clear hw3
         by_cases hl : l = []
         ·rw [if_pos hl] at he
          subst he
          have HX : Hid (pageF b = some (lv, its)) := by unfold Hid; rw [HPE.out, if_pos hl]; rfl
          have n0 := HS.out.qg.cell 0 (by simp)
          have n1 := HS.out.qg.cell 1 (by simp)
          have gz0 := HS.out.qg.frozen 0
          have gz1 := HS.out.qg.frozen 1
          simp only [List.getElem_cons_zero, List.getElem_cons_succ] at n0 n1
          have hnp : pb ≠ w.heap.size := by have := HS.out.n2; omega
          go_wp2
          obtain ⟨q1, q2, q3⟩ := HS.out.fin
          refine ret_agg (k := 2) (cs := [.int .i64 (lv : Int), .slice cur.a cur.n cur.cap]) rfl rfl q1 Tryz.underlying171 rfl Tryz.sizePgP rfl ⟨q2, ?_⟩
          rw [HX.out]
          exact ⟨cur, xs, rfl, q3⟩
         ·rw [if_neg hl] at he
          obtain rfl : e = pkE := he
          have HX : Hid (pageF b = none) := by unfold Hid; rw [HPE.out, if_neg hl]; rfl
          unfold pkE
          go_wp2
          refine ⟨rfl, HS.out.be, ?_⟩
          rw [HX.out]; rfl
     ·have HX : Hid (pageF b = none) := HOUT.out (fun h => hor h.2.2)
      have hn0 : n = 0 := by omega
      have hl0 : ((lv : Int) == 0) = false := by simp; omega
      subst hn0
      have HB2 : Hid (Below w.heap.size w w2) := HS2.out.be
      go_wp2_with (go_at_call 132; first | (refine (must_yes _).mono ?_; rintro e w3 ⟨rfl, hw3⟩; obtain rfl : w2 = w3 := hw3.symm; clear hw3) | (refine (must_no _).mono ?_; rintro e w3 ⟨rfl, hw3⟩; obtain rfl : w2 = w3 := hw3.symm; clear hw3; unfold pkE))
      refine ⟨rfl, HB2.out, ?_⟩
      rw [HX.out]; rfl
    ·have h60D : decide ((n : Int) ≤ 60) = false := by simp; omega
     have HX : Hid (pageF b = none) := HOUT.out (fun h => h60 h.2.1)
     have HB2 : Hid (Below w.heap.size w w2) := HS2.out.be
     go_wp2_with (go_at_call 132; refine (must_no _).mono ?_; rintro e w3 ⟨rfl, hw3⟩; obtain rfl : w2 = w3 := hw3.symm; clear hw3; unfold pkE)
     refine ⟨rfl, HB2.out, ?_⟩
     rw [HX.out]; rfl
  ·have h6D : decide ((lv : Int) ≤ 6) = false := by simp; omega
   have HX : Hid (pageF b = none) := HOUT.out (fun h => h6 h.1)
   have HB2 := HST.out.be
   go_wp2_with (go_at_call 132; refine (must_no _).mono ?_; rintro e w2 ⟨rfl, hw2⟩; subst hw2; unfold pkE)
   refine ⟨rfl, HB2, ?_⟩
   rw [HX.out]; rfl
end Go.Proofs.YtekegfbjbainhaaGreat
