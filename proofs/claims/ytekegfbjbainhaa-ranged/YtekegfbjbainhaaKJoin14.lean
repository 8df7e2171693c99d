import Derived.Test.YtekegfbjbainhaaKJoin13
import Derived.Test.YtekegfbjbainhaaKJoin10
import Derived.Deep.RegionHeld3
import Derived.Deep.DrawnRows
set_option linter.unusedVariables false
set_option linter.unusedSimpArgs false

namespace Go.Proofs.Ytekegfbjbainhaa
open Go.RowKit
set_option maxRecDepth 100000 in
theorem nodeKeyP_any (nb : Nat) (k : SlR) (w : World) (h0 : w.cell? ⟨nb, 0, none⟩ = some k.val) :
  Calls Try.prog 80 #[.pointer (some ⟨nb, 0, none⟩)] w fun e w' => e = .returned k.val ∧ w' = w := by
 unfold SlR.val at *
 go_enter Try.func80, Try.ntmps80
 go_wp2
 go_ret
 exact ⟨rfl, rfl⟩
def selF (p : List ItR) (fr tu : List UInt8) (bl : List Nat) (k : Nat) : List Nat := (List.range k).flatMap (fun i => if withB p i fr tu = true then [bl.getD i 0] else [])
theorem sel_yes (p : List ItR) (fr tu : List UInt8) (bl : List Nat) (k : Nat) (h : withB p k fr tu = true) : selF p fr tu bl (k + 1) = selF p fr tu bl k ++ [bl.getD k 0] := by
 unfold selF
 rw [List.range_succ, List.flatMap_append]
 simp [h]
theorem sel_no (p : List ItR) (fr tu : List UInt8) (bl : List Nat) (k : Nat) (h : withB p k fr tu = false) : selF p fr tu bl (k + 1) = selF p fr tu bl k := by
 unfold selF
 rw [List.range_succ, List.flatMap_append]
 simp [h]
theorem sel_len (p : List ItR) (fr tu : List UInt8) (bl : List Nat) : ∀ (k : Nat), (selF p fr tu bl k).length ≤ k
 | 0 => by simp [selF]
 | k + 1 => by
  have ih := sel_len p fr tu bl k
  cases h : withB p k fr tu
  ·rw [sel_no _ _ _ _ _ h]; omega
  ·rw [sel_yes _ _ _ _ _ h]; simp; omega
theorem with_zero {p : List ItR} {fr tu : List UInt8} {c : Int} (h : 0 < p.length) (hc : Lib.compareBytes p[0].key fr = c) : withB p 0 fr tu = decide (0 ≤ c) := by
 unfold withB
 rw [keyAt_lt h]
 have := cmp_neg p[0].key fr
 rw [hc] at this
 cases e : Op.bytesLess p[0].key fr
 ·have h2 : ¬ c < 0 := fun h => by rw [this.1 h] at e; cases e
  simp; omega
 ·have h2 : c < 0 := this.2 e
  simp; omega
theorem with_succ {p : List ItR} {fr tu : List UInt8} {j : Nat} {c d : Int} (h : j + 1 < p.length) (hd : Lib.compareBytes p[j].key tu = d) (hc : Lib.compareBytes p[j + 1].key fr = c) : withB p (j + 1) fr tu = (decide (d < 0) && decide (0 ≤ c)) := by
 unfold withB
 rw [keyAt_lt h, show j + 1 - 1 = j by omega, keyAt_lt (by omega : j < p.length)]
 have h1 := cmp_neg p[j + 1].key fr
 have h2 := cmp_neg p[j].key tu
 rw [hc] at h1
 rw [hd] at h2
 have e1 : Op.bytesLess p[j + 1].key fr = decide (c < 0) := by
  rw [Bool.eq_iff_iff]; simp [h1]
 have e2 : Op.bytesLess p[j].key tu = decide (d < 0) := by
  rw [Bool.eq_iff_iff]; simp [h2]
 rw [e1, e2]
 by_cases g1 : c < 0 <;> by_cases g2 : d < 0 <;> simp [g1, g2] <;> omega
set_option maxRecDepth 100000 in
set_option maxHeartbeats 2000000 in
theorem withinN_any (a : Option Addr) (n cap : Nat) (bl : List Nat) (its : List ItR) (sf st : SlR) (fr tu : List UInt8) (w : World) (hn : n = its.length) (hl : its.length = bl.length) (h200 : its.length ≤ 200) (hs : SlV w a (bl.map ptrV)) (hen : ∀ i (h1 : i < bl.length) (h2 : i < its.length), ∃ la : SlR, w.cell? ⟨bl[i], 0, none⟩ = some la.val ∧ bl[i] < w.heap.size ∧ BS w la its[i].key) (hF : BS w sf fr) (hT : BS w st tu) :
  Calls Try.prog 79 #[.slice a n cap, .func (.func 80) #[] #[], sf.val, st.val] w fun e w' => ∃ o : SlR, e = .returned o.val ∧ w'.ownsRow w.heap.size 96 1 o.val (selF its fr tu bl n).length ((selF its fr tu bl n).map ptrV) ∧ Below w.heap.size w w' := by
 have HQ : Hid (∀ (wr : World), Below w.heap.size w wr → ∀ k (hk : k < n) (hk2 : k < its.length), ∃ b o p, a = some ⟨b, o, none⟩ ∧ bl.getD k 0 = p ∧ wr.cell? ⟨b, o + k, none⟩ = some (.pointer (some ⟨p, 0, none⟩)) ∧
   ∃ sk : SlR, (Calls Try.prog 80 #[.pointer (some ⟨p, 0, none⟩)] wr fun e w' => e = .returned sk.val ∧ w' = wr) ∧ BS wr sk its[k].key) := fun wr hB k hk hk2 => by
  obtain ⟨b, o, ha, hb, hc⟩ := SlV.ptr hs k (by omega)
  obtain ⟨la, hla, hlt, hbs⟩ := hen k (by omega) hk2
  refine ⟨b, o, bl[k]'(by omega), ha, by simp [List.getD_eq_getElem?_getD, show k < bl.length by omega], ?_, la, ?_, hbs.below hB⟩
  ·rw [hB.cell (p := ⟨b, o + k, none⟩) hb]; exact hc
  ·refine nodeKeyP_any _ la wr ?_
   rw [hB.cell (p := ⟨bl[k]'(by omega), 0, none⟩) hlt]; exact hla
 have HCF : Hid (∀ (wr : World), Below w.heap.size w wr → ∀ (sk : SlR) (l : List UInt8), BS wr sk l → Calls Try.prog 44 #[sk.val, sf.val] wr fun e w' => e = .returned (.int .i64 (Lib.compareBytes l fr)) ∧ w' = wr) := fun wr hB sk l h => compare_any sk sf l fr wr h (hF.below hB)
 have HCT : Hid (∀ (wr : World), Below w.heap.size w wr → ∀ (sk : SlR) (l : List UInt8), BS wr sk l → Calls Try.prog 44 #[sk.val, st.val] wr fun e w' => e = .returned (.int .i64 (Lib.compareBytes l tu)) ∧ w' = wr) := fun wr hB sk l h => compare_any sk st l tu wr h (hT.below hB)
 have HN : Hid (n = its.length) := hn
 have hn2 : n ≤ 200 := by omega
 have hnI : (n : Int) ≤ 200 := by omega
 have H1 : Hid (∀ p : Nat, ∀ u ∈ [Value.pointer (some ⟨p, 0, none⟩)], u.oneCell' = true) := fun p u hu => by simp at hu; subst hu; rfl
 clear hs hen hn hl h200 hF hT
 unfold SlR.val at HCF HCT ⊢
 go_enter Try.func79, Try.ntmps79
 go_wp2
 go_loopw [9, 10, 11, 12, 15] (fun ov _ _ _ ix wr => ∃ (k : Nat) (o : SlR), k ≤ n ∧ ix = .int .i64 k ∧ ov = o.val ∧ Hid (wr.ownsRow w.heap.size 96 1 o.val (selF its fr tu bl k).length ((selF its fr tu bl k).map ptrV)) ∧ Below w.heap.size w wr) (fun _ _ _ _ ix _ => n - (intOf ix).toNat)
 case atStart => exact ⟨0, ⟨none, 0, 0⟩, by omega, by simp, rfl, World.ownsRow_nil _ _ _ _, Below.refl _ _⟩
 case round =>
  obtain ⟨k, o9, hk, rfl, rfl, HO, hB⟩ := hrel
  by_cases hlt : k < n
  ·have hltI : (k : Int) < n := by omega
   have hkl : k < its.length := by have := HN.out; omega
   obtain ⟨b, o, p, rfl, hpg, hc, sk, hkey, hbs⟩ := HQ.out wr hB k hlt hkl
   have HK1 : Hid (Calls _ _ _ _ _) := hkey
   have HK2 : Hid (Calls _ _ _ _ _) := HCF.out wr hB sk _ hbs
   have HBD := cmp_bd its[k].key fr
   have HOX : Hid ((wr.alloc (.cells #[.pointer (some ⟨p, 0, none⟩)] 96)).ownsRow w.heap.size 96 1 (.slice o9.a o9.n o9.cap) (selF its fr tu bl k).length ((selF its fr tu bl k).map ptrV)) := HO.out.alloc _
   have HBX : Hid (Below w.heap.size w (wr.alloc (.cells #[.pointer (some ⟨p, 0, none⟩)] 96))) := hB.alloc hB.size _
   have HSL : Hid ((selF its fr tu bl k).length ≤ 200) := by have := sel_len its fr tu bl k; unfold Hid; omega
   have HPG : Hid (bl.getD k 0 = p) := hpg
   clear hkey hbs hpg
   unfold SlR.val at HK1 HK2 ⊢
   cases k with
   | zero =>
    rw [Nat.add_zero] at hc
    have HW0 := fun c hcm => with_zero (fr := fr) (tu := tu) (c := c) hkl hcm
    generalize hcm : Lib.compareBytes its[0].key fr = c at *
    have HW1 := HW0 c rfl
    clear HW0
    by_cases hc0 : 0 ≤ c
    ·have HW : Hid (withB its 0 fr tu = true) := by unfold Hid; rw [HW1]; simp [hc0]
     clear HW1 hcm
     go_wp2_with (first
      | (go_at_call_of 80 (Value.pointer (some ⟨p, 0, none⟩)); refine HK1.out.mono ?_; rintro e w4 ⟨rfl, hw4⟩; obtain rfl : wr = w4 := hw4.symm; clear hw4)
      | (go_at_call_of 44 (Value.slice sk.a sk.n sk.cap); refine HK2.out.mono ?_; rintro e w5 ⟨rfl, hw5⟩; obtain rfl : wr = w5 := hw5.symm; clear hw5)
      | (at_builtin; refine wp_appendV (by rfl) (.tmp 43) (.tmp 45) 87 (by rfl) w.heap.size 96 _ 1 8 Try.underlying87 Try.infoNodeP rfl (by decide) (.slice o9.a o9.n o9.cap) (selF its fr tu bl 0).length ((selF its fr tu bl 0).map ptrV) (by rfl) HOX.out (some ⟨wr.heap.size, 0, none⟩) 1 1 [.pointer (some ⟨p, 0, none⟩)] (by rfl) rfl (SlV.alloc_new wr _ _) (fun h => by cases h) (H1.out p) (by have := HSL.out; unfold maxLen; omega) (by have := HSL.out; omega) HBX.out.size ?_; intro v3 w3 ho3 hf3 hat3; obtain ⟨a3, c3, hv3, _⟩ := owns_form ho3; subst hv3))
     refine ⟨⟨0 + 1, ⟨a3, _, c3⟩, by omega, by go_num, rfl, ?_, HBX.out.trans (hf3.below HBX.out.size (fun q hq => (HOX.out.lt q hq).1))⟩, by simp [intOf]; omega⟩
     unfold Hid; rw [sel_yes _ _ _ _ _ HW.out, List.length_append, List.map_append, HPG.out]; exact ho3
    ·have HW : Hid (withB its 0 fr tu = false) := by unfold Hid; rw [HW1]; simp [hc0]
     clear HW1 hcm
     go_wp2_with (first
      | (go_at_call_of 80 (Value.pointer (some ⟨p, 0, none⟩)); refine HK1.out.mono ?_; rintro e w4 ⟨rfl, hw4⟩; obtain rfl : wr = w4 := hw4.symm; clear hw4)
      | (go_at_call_of 44 (Value.slice sk.a sk.n sk.cap); refine HK2.out.mono ?_; rintro e w5 ⟨rfl, hw5⟩; obtain rfl : wr = w5 := hw5.symm; clear hw5))
     refine ⟨⟨0 + 1, o9, by omega, by go_num, rfl, ?_, hB⟩, by simp [intOf]; omega⟩
     unfold Hid; rw [sel_no _ _ _ _ _ HW.out]; exact HO.out
   | succ j =>
    have hjl : j < its.length := by omega
    obtain ⟨b', o', p', hb', hpg', hc', sk', hkey', hbs'⟩ := HQ.out wr hB j (by omega) hjl
    cases hb'
    have HJ1 : Hid (Calls _ _ _ _ _) := hkey'
    have HJ2 : Hid (Calls _ _ _ _ _) := HCT.out wr hB sk' _ hbs'
    have HBD' := cmp_bd its[j].key tu
    have hj0 : ((j : Int) + 1 == 0) = false := by simp; omega
    have hjI : (j : Int) + 1 - 1 = j := by omega
    have hjJ : (j : Int) < n := by omega
    clear hkey' hbs' hpg'
    unfold SlR.val at HJ1 HJ2
    have HW0 := fun c d hcm hdm => with_succ (fr := fr) (tu := tu) (c := c) (d := d) hkl hdm hcm
    generalize hcm : Lib.compareBytes its[j + 1].key fr = c at *
    generalize hdm : Lib.compareBytes its[j].key tu = d at *
    have HW1 := HW0 c d rfl rfl
    clear HW0
    clear HQ HCF HCT
    have hltI' : (j : Int) + 1 < n := by omega
    by_cases hd0 : d < 0
    ·by_cases hc0 : 0 ≤ c
     ·have HW : Hid (withB its (j + 1) fr tu = true) := by unfold Hid; rw [HW1]; simp [hc0, hd0]
      clear HW1 hcm hdm
      go_wp2_with (first
       | (go_at_call_of 80 (Value.pointer (some ⟨p', 0, none⟩)); refine HJ1.out.mono ?_; rintro e w4 ⟨rfl, hw4⟩; obtain rfl : wr = w4 := hw4.symm; clear hw4)
       | (go_at_call_of 44 (Value.slice sk'.a sk'.n sk'.cap); refine HJ2.out.mono ?_; rintro e w5 ⟨rfl, hw5⟩; obtain rfl : wr = w5 := hw5.symm; clear hw5)
       | (go_at_call_of 80 (Value.pointer (some ⟨p, 0, none⟩)); refine HK1.out.mono ?_; rintro e w4 ⟨rfl, hw4⟩; obtain rfl : wr = w4 := hw4.symm; clear hw4)
       | (go_at_call_of 44 (Value.slice sk.a sk.n sk.cap); refine HK2.out.mono ?_; rintro e w5 ⟨rfl, hw5⟩; obtain rfl : wr = w5 := hw5.symm; clear hw5)
       | (at_builtin; refine wp_appendV (by rfl) (.tmp 43) (.tmp 45) 87 (by rfl) w.heap.size 96 _ 1 8 Try.underlying87 Try.infoNodeP rfl (by decide) (.slice o9.a o9.n o9.cap) (selF its fr tu bl (j + 1)).length ((selF its fr tu bl (j + 1)).map ptrV) (by rfl) HOX.out (some ⟨wr.heap.size, 0, none⟩) 1 1 [.pointer (some ⟨p, 0, none⟩)] (by rfl) rfl (SlV.alloc_new wr _ _) (fun h => by cases h) (H1.out p) (by have := HSL.out; unfold maxLen; omega) (by have := HSL.out; omega) HBX.out.size ?_; intro v3 w3 ho3 hf3 hat3; obtain ⟨a3, c3, hv3, _⟩ := owns_form ho3; subst hv3))
      refine ⟨⟨j + 1 + 1, ⟨a3, _, c3⟩, by omega, by go_num, rfl, ?_, HBX.out.trans (hf3.below HBX.out.size (fun q hq => (HOX.out.lt q hq).1))⟩, by simp [intOf]; omega⟩
      unfold Hid; rw [sel_yes _ _ _ _ _ HW.out, List.length_append, List.map_append, HPG.out]; exact ho3
     ·have HW : Hid (withB its (j + 1) fr tu = false) := by unfold Hid; rw [HW1]; simp [hc0]
      clear HW1 hcm hdm
      go_wp2_with (first
       | (go_at_call_of 80 (Value.pointer (some ⟨p', 0, none⟩)); refine HJ1.out.mono ?_; rintro e w4 ⟨rfl, hw4⟩; obtain rfl : wr = w4 := hw4.symm; clear hw4)
       | (go_at_call_of 44 (Value.slice sk'.a sk'.n sk'.cap); refine HJ2.out.mono ?_; rintro e w5 ⟨rfl, hw5⟩; obtain rfl : wr = w5 := hw5.symm; clear hw5)
       | (go_at_call_of 80 (Value.pointer (some ⟨p, 0, none⟩)); refine HK1.out.mono ?_; rintro e w4 ⟨rfl, hw4⟩; obtain rfl : wr = w4 := hw4.symm; clear hw4)
       | (go_at_call_of 44 (Value.slice sk.a sk.n sk.cap); refine HK2.out.mono ?_; rintro e w5 ⟨rfl, hw5⟩; obtain rfl : wr = w5 := hw5.symm; clear hw5))
      refine ⟨⟨j + 1 + 1, o9, by omega, by go_num, rfl, ?_, hB⟩, by simp [intOf]; omega⟩
      unfold Hid; rw [sel_no _ _ _ _ _ HW.out]; exact HO.out
    ·have HW : Hid (withB its (j + 1) fr tu = false) := by unfold Hid; rw [HW1]; simp [hd0]
     clear HW1 hcm hdm
     go_wp2_with (first
      | (go_at_call_of 80 (Value.pointer (some ⟨p', 0, none⟩)); refine HJ1.out.mono ?_; rintro e w4 ⟨rfl, hw4⟩; obtain rfl : wr = w4 := hw4.symm; clear hw4)
      | (go_at_call_of 44 (Value.slice sk'.a sk'.n sk'.cap); refine HJ2.out.mono ?_; rintro e w5 ⟨rfl, hw5⟩; obtain rfl : wr = w5 := hw5.symm; clear hw5))
     refine ⟨⟨j + 1 + 1, o9, by omega, by go_num, rfl, ?_, hB⟩, by simp [intOf]; omega⟩
     unfold Hid; rw [sel_no _ _ _ _ _ HW.out]; exact HO.out
  ·obtain rfl : k = n := by omega
   unfold SlR.val
   go_wp2
   go_ret
   exact ⟨o9, rfl, HO.out, hB⟩
end Go.Proofs.Ytekegfbjbainhaa


namespace Go.Proofs.Ytekegfbjbainhaa
open Go.RowKit
theorem TreeRep.node {lvls : List (List (List ItR))} {L : List (List Nd)} (h : TreeRep lvls L) {n j : Nat} {nds : List Nd} {x : Nd} (h1 : L[n]? = some nds) (h2 : nds[j]? = some x) : x.level = n ∧ x.its = normL (pageAt lvls n j) ∧ ∃ ps, lvls[n]? = some ps ∧ ps[j]? = some (pageAt lvls n j) ∧ nds.length = ps.length := by
 have e := congrArg (fun l => l[n]?) h.its
 simp only [List.getElem?_map, h1, Option.map_some] at e
 cases hp : lvls[n]? with
 | none => rw [hp] at e; cases e
 | some ps =>
  rw [hp] at e
  simp only [Option.map_some, Option.some.injEq] at e
  have hl : nds.length = ps.length := by simpa using congrArg List.length e
  have hj := (List.getElem?_eq_some_iff.1 h2).1
  have e2 := congrArg (fun l => l[j]?) e
  simp only [List.getElem?_map, h2, Option.map_some, List.getElem?_eq_getElem (by omega : j < ps.length), Option.some.injEq] at e2
  have hpa : pageAt lvls n j = ps[j]'(by omega) := by
   unfold pageAt
   rw [hp]
   simp [show j < ps.length by omega]
  exact ⟨h.lev n nds h1 x (List.mem_of_getElem? h2), by rw [hpa]; exact e2, ps, rfl, by rw [hpa]; exact List.getElem?_eq_getElem (by omega), hl⟩
theorem TreeRep.low' {lvls : List (List (List ItR))} {L : List (List Nd)} (h : TreeRep lvls L) {j : Nat} {nds : List Nd} {x : Nd} (h1 : L[0]? = some nds) (h2 : nds[j]? = some x) : x.bl = [] := h.low nds h1 x (List.mem_of_getElem? h2)
theorem TreeRep.down {lvls : List (List (List ItR))} {L : List (List Nd)} (h : TreeRep lvls L) (hL : LvlsOk lvls) {n j : Nat} {nds : List Nd} {x : Nd} (h1 : L[n + 1]? = some nds) (h2 : nds[j]? = some x) :
  x.bl.length = (pageAt lvls (n + 1) j).length ∧ ∀ i (hi : i < (pageAt lvls (n + 1) j).length), ∃ (nds' : List Nd) (y : Nd), L[n]? = some nds' ∧ nds'[belowAt (pageAt lvls (n + 1) j) i]? = some y ∧ x.bl[i]? = some y.b ∧ lastK y.its = (pageAt lvls (n + 1) j)[i].key := by
 obtain ⟨_, _, ps, hp, hpj, hlen⟩ := h.node h1 h2
 have hn : n < L.length := by have := (List.getElem?_eq_some_iff.1 h1).1; omega
 have e1 : L[n]? = some L[n] := List.getElem?_eq_getElem hn
 have hb := h.bel n L[n] nds ps e1 h1 hp
 have hbj := congrArg (fun l => l[j]?) hb
 simp only [List.getElem?_map, h2, hpj, Option.map_some, Option.some.injEq] at hbj
 refine ⟨by rw [hbj, List.length_map], fun i hi => ?_⟩
 have hmem := List.mem_of_getElem? hpj
 have hq : lvls[n]? = some (lvls[n]'(by have := (List.getElem?_eq_some_iff.1 hp).1; omega)) := List.getElem?_eq_getElem _
 obtain ⟨hlt, hkey⟩ := hL.bel n _ ps hq hp _ hmem _ (List.getElem_mem hi)
 have hbel : belowAt (pageAt lvls (n + 1) j) i = (pageAt lvls (n + 1) j)[i].below := by unfold belowAt; rw [List.getElem?_eq_getElem hi]; rfl
 have hL0 : L[n].length = (lvls[n]'(by have := (List.getElem?_eq_some_iff.1 hp).1; omega)).length := by
  have e := congrArg (fun l => l[n]?) h.its
  simp only [List.getElem?_map, e1, hq, Option.map_some, Option.some.injEq] at e
  simpa using congrArg List.length e
 have hy : L[n][(pageAt lvls (n + 1) j)[i].below]? = some (L[n][(pageAt lvls (n + 1) j)[i].below]'(by rw [hL0]; exact hlt)) := List.getElem?_eq_getElem _
 refine ⟨L[n], L[n][(pageAt lvls (n + 1) j)[i].below]'(by rw [hL0]; exact hlt), e1, by rw [hbel]; exact hy, ?_, ?_⟩
 ·rw [hbj, List.getElem?_map, List.getElem?_eq_getElem hi]
  simp only [Option.map_some]
  rw [hy]; rfl
 ·obtain ⟨_, g2, ps', gp, gpj, _⟩ := h.node e1 hy
  rw [g2, lastK_norm, hkey]
  rw [hq] at gp
  cases gp
  rw [gpj]; rfl
def selI (p : List ItR) (fr tu : List UInt8) (k : Nat) : List Nat := (List.range k).filter (fun i => withB p i fr tu)
theorem flat_if {α : Type} (q : Nat → Bool) (f : Nat → List α) : ∀ (l : List Nat), l.flatMap (fun i => if q i = true then f i else []) = (l.filter q).flatMap f
 | [] => rfl
 | x :: l => by
  rw [List.flatMap_cons, flat_if q f l, List.filter_cons]
  cases h : q x <;> simp
theorem sel_places (p : List ItR) (fr tu : List UInt8) (bl : List Nat) (k : Nat) : selF p fr tu bl k = (selI p fr tu k).map (fun i => bl.getD i 0) := by
 unfold selF selI
 rw [flat_if (fun i => withB p i fr tu) (fun i => [bl.getD i 0])]
 generalize (List.range k).filter (fun i => withB p i fr tu) = l
 induction l with
 | nil => rfl
 | cons x l ih => rw [List.flatMap_cons, ih]; rfl
theorem behind_places (lvls : List (List (List ItR))) (fr tu : List UInt8) (n : Nat) (p : List ItR) (k : Nat) : behindF lvls fr tu n p k = (selI p fr tu k).flatMap (fun i => rangeF lvls fr tu n (pageAt lvls n (belowAt p i))) := flat_if (fun i => withB p i fr tu) _ _
theorem selI_lt {p : List ItR} {fr tu : List UInt8} {k i : Nat} (h : i ∈ selI p fr tu k) : i < k := by
 unfold selI at h
 simpa using (List.mem_filter.1 h).1
end Go.Proofs.Ytekegfbjbainhaa


namespace Go.Proofs.Ytekegfbjbainhaa
open Go.RowKit
structure TrAt (w : World) (base : Nat) (L : List (List Nd)) : Prop where
 ok : ∀ nds ∈ L, ∀ x ∈ nds, NdOk w x
 lo : ∀ nds ∈ L, ∀ x ∈ nds, ∀ k, ndF x k → k < base
theorem TrAt.below {w w' : World} {base : Nat} {L : List (List Nd)} (h : TrAt w base L) (hb : Below base w w') (hs : w.heap.size ≤ w'.heap.size) : TrAt w' base L :=
 ⟨fun nds hn x hx => (h.ok nds hn x hx).frame (S := fun k => base ≤ k) ⟨hb.os, hb.tape, hb.output, hs, fun k _ hk => hb.block k (by omega)⟩ (fun k hk e => by have := h.lo nds hn x hx k hk; omega), h.lo⟩
structure BLow (w : World) (base : Nat) (s : SlR) (l : List UInt8) : Prop where
 bs : BS w s l
 lo : ∀ x, s.a = some x → x.block < base
theorem BLow.below {w w' : World} {base : Nat} {s : SlR} {l : List UInt8} (h : BLow w base s l) (hb : Below base w w') (hs : w.heap.size ≤ w'.heap.size) : BLow w' base s l :=
 ⟨h.bs.frame (S := fun k => base ≤ k) ⟨hb.os, hb.tape, hb.output, hs, fun k _ hk => hb.block k (by omega)⟩ (fun x hx e => by have := h.lo x hx; omega), h.lo⟩
theorem wrap_u8 (x : Int) : IntKind.u8.wrap x = x % 256 := by
 simp [IntKind.wrap, IntKind.bits, IntKind.signed]
theorem RowV.cellP {w : World} {b t : Nat} {l : List Value} (h : RowV w b t l) (k : Nat) (v : Value) (hv : l[k]? = some v) : w.cell? ⟨b, k, none⟩ = some v := by
 rw [h.cell? k]; exact hv
attribute [local go_sem ↓] Go.wp_at_zero Go.wp_at_succ
set_option maxRecDepth 100000 in
set_option maxHeartbeats 4000000 in
theorem pages_step (L : List (List Nd)) (sf st : SlR) (fr tu : List UInt8) (x : Nd) (v : SlR) (l C : List UInt8) (its : List ItR) (fs : List (List UInt8)) (base : Nat) (w : World) (hA : TrAt w base L) (hx : ∃ nds ∈ L, x ∈ nds) (hF : BLow w base sf fr) (hS : BLow w base st tu) (hb : base ≤ w.heap.size) (ho : OwnB w base v.val l)
  (hC : codeB x.level x.its = C) (hC6 : C.length ≤ 6000) (hl : its.length = x.bl.length) (h200 : its.length ≤ 200) (hen : ∀ (W : World), TrAt W base L → ∀ i (h1 : i < x.bl.length) (h2 : i < its.length), ∃ la : SlR, W.cell? ⟨x.bl[i], 0, none⟩ = some la.val ∧ x.bl[i] < W.heap.size ∧ BS W la its[i].key)
  (hfs : fs.length = (selF its fr tu x.bl its.length).length) (hlen : l.length + 2 + C.length + fs.flatten.length ≤ 140737488355328)
  (hrec : ∀ (t : Nat) (ht : t < (selF its fr tu x.bl its.length).length) (ht2 : t < fs.length) (v2 : SlR) (l2 : List UInt8) (W : World), TrAt W base L → BLow W base sf fr → BLow W base st tu → base ≤ W.heap.size → OwnB W base v2.val l2 → l2.length + fs[t].length ≤ 140737488355328 →
   Calls Try.prog 60 #[v2.val, .pointer (some ⟨(selF its fr tu x.bl its.length)[t], 0, none⟩), sf.val, st.val] W fun e w' => ∃ v' : SlR, e = .returned v'.val ∧ OwnB w' base v'.val (l2 ++ fs[t]) ∧ Frame (fun k => v2.val.ownBlock = some k) W w' ∧ (∀ k, v'.val.ownBlock = some k → k < W.heap.size → v2.val.ownBlock = some k)) :
  Calls Try.prog 60 #[v.val, .pointer (some ⟨x.b, 0, none⟩), sf.val, st.val] w fun e w' => ∃ v' : SlR, e = .returned v'.val ∧ OwnB w' base v'.val (l ++ (bt (C.length / 256) :: bt (C.length % 256) :: C) ++ fs.flatten) ∧ Frame (fun k => v.val.ownBlock = some k) w w' ∧ (∀ k, v'.val.ownBlock = some k → k < w.heap.size → v.val.ownBlock = some k) := by
 obtain ⟨nds, hnds, hxn⟩ := hx
 have HX : Hid (∀ W, TrAt W base L → NdOk W x) := fun W h => h.ok nds hnds x hxn
 have hxw := hA.ok nds hnds x hxn
 have hby := hxw.by_
 rw [hC] at hby
 have hnI : (x.by_.n : Int) ≤ 6000 := by rw [hby.n]; omega
 have c1 : w.cell? ⟨x.b, 1, none⟩ = some (.slice x.by_.a x.by_.n x.by_.cap) := hxw.row.cellP 1 _ (by simp [ndC, SlR.val])
 have HSH : Hid (x.by_.n = C.length) := hby.n
 unfold SlR.val at ho
 have hAB : Below w.heap.size w (w.alloc (.cells #[.int .u8 (IntKind.u8.wrap ((x.by_.n : Int) / 256)), .int .u8 (IntKind.u8.wrap (x.by_.n : Int))] 5)).drew := by
  have hz : Below w.heap.size w (w.alloc (.cells #[.int .u8 (IntKind.u8.wrap ((x.by_.n : Int) / 256)), .int .u8 (IntKind.u8.wrap (x.by_.n : Int))] 5)) := (Below.refl _ _).alloc (Nat.le_refl _) _
  exact ⟨hz.os, hz.tape, hz.output, hz.size, hz.block⟩
 have HO0 : Hid ((w.alloc (.cells #[.int .u8 (IntKind.u8.wrap ((x.by_.n : Int) / 256)), .int .u8 (IntKind.u8.wrap (x.by_.n : Int))] 5)).drew.ownsRow base 5 1 (.slice v.a v.n v.cap) l.length (l.map u8c)) := owns_below ho hAB
 have HB2 : Hid ([bt (C.length / 256), bt (C.length % 256)].map u8c = [.int .u8 (IntKind.u8.wrap ((x.by_.n : Int) / 256)), .int .u8 (IntKind.u8.wrap (x.by_.n : Int))]) := by
  unfold Hid
  simp only [List.map_cons, List.map_nil]
  rw [bt_c (by omega), bt_c (by omega), hby.n, wrap_u8, wrap_u8]
  simp
  omega
 have HS0 : Hid (SlV (w.alloc (.cells #[.int .u8 (IntKind.u8.wrap ((x.by_.n : Int) / 256)), .int .u8 (IntKind.u8.wrap (x.by_.n : Int))] 5)).drew (some ⟨w.heap.size, 0, none⟩) ([bt (C.length / 256), bt (C.length % 256)].map u8c)) := by
  unfold Hid; rw [HB2.out]; exact SlV.alloc_new w _ _
 have HAB : Hid (Below w.heap.size w (w.alloc (.cells #[.int .u8 (IntKind.u8.wrap ((x.by_.n : Int) / 256)), .int .u8 (IntKind.u8.wrap (x.by_.n : Int))] 5)).drew) := hAB
 have HLEN : Hid (l.length + 2 + C.length + fs.flatten.length ≤ 140737488355328) := hlen
 have HBA : Hid (base ≤ w.heap.size) := hb
 have HOV : Hid (∀ k, (Value.slice v.a v.n v.cap).ownBlock = some k → base ≤ k ∧ k < w.heap.size) := ho.lt
 have HA : Hid (TrAt w base L) := hA
 have HF : Hid (BLow w base sf fr) := hF
 have HS : Hid (BLow w base st tu) := hS
 have HCO : Hid (codeB x.level x.its = C) := hC
 have HNX : Hid (∀ W, Frame (fun k => (Value.slice v.a v.n v.cap).ownBlock = some k) w W → TrAt W base L ∧ BLow W base sf fr ∧ BLow W base st tu ∧ base ≤ W.heap.size) := fun W hf => by
  have hbl : Below base w W := hf.below hb (fun k hk => (ho.lt k hk).1)
  exact ⟨hA.below hbl hf.size, hF.below hbl hf.size, hS.below hbl hf.size, Nat.le_trans hb hf.size⟩
 have HC1 : Hid (∀ W, TrAt W base L → W.cell? ⟨x.b, 1, none⟩ = some (.slice x.by_.a x.by_.n x.by_.cap)) := fun W h => (h.ok nds hnds x hxn).row.cellP 1 _ (by simp [ndC, SlR.val])
 have HC10 : Hid (∀ W, TrAt W base L → W.cell? ⟨x.b, 10, none⟩ = some (.slice x.be.a x.be.n x.be.cap)) := fun W h => (h.ok nds hnds x hxn).row.cellP 10 _ (by simp [ndC, SlR.val, digB_length])
 have HBY : Hid (∀ W, TrAt W base L → SlB W x.by_.a C) := fun W h => by
  have := (h.ok nds hnds x hxn).by_.sl
  rw [hC] at this
  exact this
 have HBN : Hid (x.by_.a = none → x.by_.cap = 0) := hxw.by_.nil
 have HWI : Hid (∀ W, TrAt W base L → BLow W base sf fr → BLow W base st tu → Calls Try.prog 79 #[.slice x.be.a x.be.n x.be.cap, .func (.func 80) #[] #[], .slice sf.a sf.n sf.cap, .slice st.a st.n st.cap] W fun e w' => ∃ o : SlR, e = .returned (.slice o.a o.n o.cap) ∧ w'.ownsRow W.heap.size 96 1 (.slice o.a o.n o.cap) (selF its fr tu x.bl its.length).length ((selF its fr tu x.bl its.length).map ptrV) ∧ Below W.heap.size W w') := fun W h1 h2 h3 => by
  have hxW := h1.ok nds hnds x hxn
  have := withinN_any x.be.a x.be.n x.be.cap x.bl its sf st fr tu W (by rw [hxW.ben, hl]) hl h200 hxW.be (hen W h1) h2.bs h3.bs
  rw [show x.be.n = its.length by rw [hxW.ben, hl]] at this ⊢
  exact this
 have HFS : Hid (fs.length = (selF its fr tu x.bl its.length).length) := hfs
 have HRC : Hid (∀ (t : Nat) (ht : t < (selF its fr tu x.bl its.length).length) (ht2 : t < fs.length) (v2 : SlR) (l2 : List UInt8) (W : World), _) := hrec
 have HSL : Hid ((selF its fr tu x.bl its.length).length ≤ 200) := by have := sel_len its fr tu x.bl its.length; unfold Hid; omega
 generalize selF its fr tu x.bl its.length = sel at *
 clear hAB hby hxw hA hF hS hlen hb hC ho hfs hrec hl hen h200
 unfold SlR.val
 go_enter Try.func60, Try.ntmps60
 go_wp2
 go_region_held3 (fun W => W.cell? ⟨x.b, 1, none⟩ = some (.slice x.by_.a x.by_.n x.by_.cap)) (go_keep)
  ((refine step_appendV (by rfl) (.tmp 11) (.tmp 25) 35 (by rfl) base 5 _ 1 1 Try.underlying35 Try.infoU8 rfl (by decide) (.slice v.a v.n v.cap) l.length (l.map u8c) (by rfl) HO0.out ⟨w.heap.size, 0, none⟩ 2 2 ([bt (C.length / 256), bt (C.length % 256)].map u8c) (by rfl) rfl HS0.out (u8c_one _) (by have := HLEN.out; unfold maxLen; omega) (by have := HLEN.out; omega) (Nat.le_trans HBA.out HAB.out.size) ?_; intro a1 n1 k1 w1 ho1 hf1 hat1; have hfw1 := Frame.trans (Frame.of_below_all HAB.out) hf1; obtain ⟨hA1, hF1, hS1, hb1⟩ := HNX.out w1 hfw1; have d1 := HC1.out w1 hA1))
 have HO1 : Hid (OwnB w1 base (.slice a1 n1 k1) (l ++ [bt (C.length / 256), bt (C.length % 256)])) := by
  unfold Hid OwnB
  rw [List.length_append, List.map_append]
  exact ho1
 have HV1 : Hid (∀ k, (Value.slice a1 n1 k1).ownBlock = some k → k < w.heap.size → (Value.slice v.a v.n v.cap).ownBlock = some k) := fun k hk hlt => by
  rcases hat1 with e | e
  ·rw [← e]; exact hk
  ·rw [e] at hk
   have := Option.some.inj hk
   have := HAB.out.size
   simp at *; omega
 have HFW1 : Hid (Frame (fun k => (Value.slice v.a v.n v.cap).ownBlock = some k) w w1) := hfw1
 have HB1 : Hid (base ≤ w1.heap.size) := hb1
 have hsb1 := HBY.out w1 hA1
 clear ho1 hf1 hat1 hfw1 hF1 hS1 hb1 hA1
 go_wp2_with (at_builtin; refine wp_appendB (by rfl) (.tmp 27) (.tmp 31) (by rfl) base _ (l ++ [bt (C.length / 256), bt (C.length % 256)]) (by rfl) HO1.out x.by_.a x.by_.n x.by_.cap C (by rfl) HSH.out hsb1 HBN.out (by have := HLEN.out; simp; omega) HB1.out ?_; intro a2 n2 c2 w2 hn2 ho2 hs2 hf2 hat2; clear hn2 hs2; have HO2 : Hid (OwnB w2 base (.slice a2 n2 c2) (l ++ [bt (C.length / 256), bt (C.length % 256)] ++ C)) := ho2; have HFW2 : Hid (Frame (fun k => (Value.slice v.a v.n v.cap).ownBlock = some k) w w2) := Frame.inside HFW1.out hf2 (fun k hlt hk => HV1.out k hk hlt); have HAT2 : Hid ((Value.slice a2 n2 c2).ownBlock = (Value.slice a1 n1 k1).ownBlock ∨ (Value.slice a2 n2 c2).ownBlock = some w1.heap.size) := hat2; clear ho2 hf2 hat2; obtain ⟨hA2, hF2, hS2, hb2⟩ := HNX.out w2 HFW2.out; have d10 := HC10.out w2 hA2; have HW2 : Hid (Calls _ _ _ _ _) := HWI.out w2 hA2 hF2 hS2; clear hA2 hF2 hS2 hb2)
 have HV2 : Hid (∀ k, (Value.slice a2 n2 c2).ownBlock = some k → k < w.heap.size → (Value.slice v.a v.n v.cap).ownBlock = some k) := fun k hk hlt => by
  rcases HAT2.out with e | e
  ·exact HV1.out k (by rw [← e]; exact hk) hlt
  ·rw [e] at hk
   have h1 := Option.some.inj hk
   have h2 := HFW1.out.size
   omega
 refine HW2.out.mono ?_
 rintro e w3 ⟨o, rfl, ho3, hb3⟩
 have hon : o.n = sel.length := (owns_cap (a := o.a) (n' := o.n) (cap := o.cap) ho3).1
 have HON : Hid (o.n = sel.length) := hon
 have hoI : (o.n : Int) ≤ 200 := by have := HSL.out; omega
 have HO3 : Hid (OwnB w3 base (.slice a2 n2 c2) (l ++ [bt (C.length / 256), bt (C.length % 256)] ++ C)) := owns_below HO2.out hb3
 have HFW3 : Hid (Frame (fun k => (Value.slice v.a v.n v.cap).ownBlock = some k) w w3) := HFW2.out.trans (Frame.of_below_all hb3)
 have HP3 : Hid (w3.ownsRow w2.heap.size 96 1 (.slice o.a o.n o.cap) sel.length (sel.map ptrV)) := ho3
 clear ho3 hb3 hon
 go_wp2
 go_loopw [0, 10, 41] (fun pv _ ix wr => ∃ (t : Nat) (v2 : SlR), t ≤ o.n ∧ ix = .int .i64 t ∧ pv = v2.val ∧ Hid (OwnB wr base v2.val (l ++ [bt (C.length / 256), bt (C.length % 256)] ++ C ++ (fs.take t).flatten)) ∧ Hid (Frame (fun k => (Value.slice v.a v.n v.cap).ownBlock = some k) w wr) ∧ Hid (wr.ownsRow w2.heap.size 96 1 (.slice o.a o.n o.cap) sel.length (sel.map ptrV)) ∧ Hid (∀ k, v2.val.ownBlock = some k → k < w.heap.size → (Value.slice v.a v.n v.cap).ownBlock = some k)) (fun _ _ ix _ => o.n - (intOf ix).toNat)
 case atStart => exact ⟨0, ⟨a2, n2, c2⟩, by omega, by simp, rfl, by unfold Hid; rw [List.take_zero, List.flatten_nil, List.append_nil]; exact HO3.out, HFW3, HP3, HV2⟩
 case round =>
  obtain ⟨t, v2, ht, rfl, rfl, HO, HFW, HP, HV⟩ := hrel
  by_cases hlt : t < o.n
  ·have hltI : (t : Int) < o.n := by omega
   have hts : t < sel.length := by have := HON.out; omega
   have htf : t < fs.length := by have := HFS.out; omega
   obtain ⟨b, q, hoa, hbb, hcell⟩ := SlV.ptr (SlV.ofOwn (s := o) HP.out).1 t hts
   obtain ⟨hA4, hF4, hS4, hb4⟩ := HNX.out wr HFW.out
   have HTK : Hid ((fs.take (t + 1)).flatten = (fs.take t).flatten ++ fs[t]) := by
    unfold Hid
    rw [List.take_succ_eq_append_getElem htf, List.flatten_append]; simp
   have HL2 : Hid ((l ++ [bt (C.length / 256), bt (C.length % 256)] ++ C ++ (fs.take t).flatten).length + fs[t].length ≤ 140737488355328) := by
    have h1 := HLEN.out
    have h2 := congrArg List.length HTK.out
    have h3 : ((fs.take (t + 1)).flatten).length ≤ fs.flatten.length := by
     have h := congrArg (fun m => m.flatten.length) (List.take_append_drop (t + 1) fs)
     simp only [List.flatten_append, List.length_append] at h
     omega
    rw [List.length_append] at h2
    unfold Hid
    simp only [List.length_append, List.length_cons, List.length_nil] at h1 h2 h3 ⊢
    omega
   have HR : Hid (Calls _ _ _ _ _) := HRC.out t hts htf v2 _ wr hA4 hF4 hS4 hb4 HO.out HL2.out
   generalize sel[t] = y at *
   obtain ⟨oa, on, oc⟩ := o
   simp only at hoa hltI ht hlt hoI
   subst hoa
   clear hA4 hF4 hS4 hb4
   unfold SlR.val at HR ⊢
   go_wp2_with (go_at_call 60; refine HR.out.mono ?_; rintro e w5 ⟨v5, rfl, ho5, hf5, hv5⟩)
   have HV5 : Hid (∀ k, v5.val.ownBlock = some k → k < w.heap.size → (Value.slice v.a v.n v.cap).ownBlock = some k) := fun k hk hlt' => HV.out k (hv5 k hk (by have := HFW.out.size; omega)) hlt'
   refine ⟨⟨t + 1, v5, by omega, by go_num, rfl, ?_, ?_, ?_, HV5⟩, by simp [intOf]; omega⟩
   ·unfold Hid; rw [HTK.out, ← List.append_assoc]; exact ho5
   ·exact Frame.inside HFW.out hf5 (fun k hlt' hk => HV.out k hk hlt')
   ·exact owns_frame HP.out hf5 (fun k hk e => owns_ne2 HP.out HO.out (by decide) k hk e)
  ·obtain rfl : t = o.n := by omega
   have HTE : Hid (fs.take o.n = fs) := by unfold Hid; rw [HON.out, ← HFS.out, List.take_length]
   unfold SlR.val
   go_wp2
   go_ret
   refine ⟨v2, rfl, ?_, HFW.out, HV.out⟩
   have h1 := HO.out
   rw [HTE.out] at h1
   have e : l ++ (bt (C.length / 256) :: bt (C.length % 256) :: C) ++ fs.flatten = l ++ [bt (C.length / 256), bt (C.length % 256)] ++ C ++ fs.flatten := by simp
   rw [e]
   exact h1
end Go.Proofs.Ytekegfbjbainhaa
