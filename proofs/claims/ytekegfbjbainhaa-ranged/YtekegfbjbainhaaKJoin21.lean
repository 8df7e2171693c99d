import Derived.Test.YtekegfbjbainhaaKPrC6
import Derived.Deep.DeepCutAuto
import Derived.Test.YtekegfbjbainhaaKJoin1
import Derived.Maps.AppendAt
set_option linter.unusedVariables false
set_option linter.unusedSimpArgs false

namespace Go.Proofs.Ytekegfbjbainhaa
open Go.RowKit
attribute [local go_sem ↓] Go.wp_at_zero Go.wp_at_succ
def en0 : EnP := ⟨⟨none, 0, 0⟩, ⟨none, 0, 0⟩, zero8⟩
def selX (its : List ItR) (xs : List EnP) (fr tu : List UInt8) (k : Nat) : List EnP := (List.range k).flatMap (fun i => if withB its i fr tu = true then [xs.getD i en0] else [])
theorem selX_yes (its : List ItR) (xs : List EnP) (fr tu : List UInt8) (k : Nat) (h : withB its k fr tu = true) : selX its xs fr tu (k + 1) = selX its xs fr tu k ++ [xs.getD k en0] := by
 unfold selX
 rw [List.range_succ, List.flatMap_append]
 simp [h]
theorem selX_no (its : List ItR) (xs : List EnP) (fr tu : List UInt8) (k : Nat) (h : withB its k fr tu = false) : selX its xs fr tu (k + 1) = selX its xs fr tu k := by
 unfold selX
 rw [List.range_succ, List.flatMap_append]
 simp [h]
theorem selX_len (its : List ItR) (xs : List EnP) (fr tu : List UInt8) : ∀ (k : Nat), (selX its xs fr tu k).length ≤ k
 | 0 => by simp [selX]
 | k + 1 => by
  have ih := selX_len its xs fr tu k
  cases h : withB its k fr tu
  ·rw [selX_no _ _ _ _ _ h]; omega
  ·rw [selX_yes _ _ _ _ _ h]; simp; omega
set_option maxRecDepth 100000 in
theorem entryKeyP_any (sk sv : SlR) (x0 x1 x2 x3 x4 x5 x6 x7 : UInt8) (w : World) :
  Calls Try.prog 82 #[.agg #[.slice sk.a sk.n sk.cap, .slice sv.a sv.n sv.cap, .int .u8 (x0.toNat : Int), .int .u8 (x1.toNat : Int), .int .u8 (x2.toNat : Int), .int .u8 (x3.toNat : Int), .int .u8 (x4.toNat : Int), .int .u8 (x5.toNat : Int), .int .u8 (x6.toNat : Int), .int .u8 (x7.toNat : Int)]] w fun e w' => e = .returned (.slice sk.a sk.n sk.cap) ∧ Below w.heap.size w w' := by
 go_enter Try.func82, Try.ntmps82
 go_wp2
 go_ret
 exact ⟨rfl, by go_grown⟩
set_option maxRecDepth 100000 in
set_option maxHeartbeats 8000000 in
theorem withinE_any (cur : SlR) (xs : List EnP) (its : List ItR) (sf st : SlR) (fr tu : List UInt8) (w : World) (hn : cur.n = its.length) (hl : xs.length = its.length) (h200 : its.length ≤ 200) (hs : SlE w cur.a xs) (h8 : ∀ x ∈ xs, x.d.length = 8) (hen : ∀ i (h1 : i < xs.length) (h2 : i < its.length), BS w xs[i].k its[i].key) (hF : BS w sf fr) (hT : BS w st tu) :
  Calls Try.prog 81 #[cur.val, .func (.func 82) #[] #[], sf.val, st.val] w fun e w' => ∃ o : SlR, e = .returned o.val ∧ w'.ownsRow w.heap.size 103 10 o.val (selX its xs fr tu its.length).length (ensC (selX its xs fr tu its.length)) ∧ Below w.heap.size w w' := by
 have HQ : Hid (∀ (wr : World), Below w.heap.size w wr → ∀ k (hk : k < xs.length) (hk2 : k < its.length), ∃ b o, cur.a = some ⟨b, o, none⟩ ∧ b < w.heap.size ∧ wr.rangeAt b (o + k * 10) (enC xs[k]) ∧ BS wr xs[k].k its[k].key) := fun wr hB k hk hk2 => by
  obtain ⟨b, o, ha, hb, hc⟩ := SlE.range (SlV.below hs hB (fun x hx => by obtain ⟨b, o, ha, hb, _⟩ := SlE.range hs h8 k hk; rw [ha] at hx; cases hx; exact hb)) h8 k hk
  obtain ⟨b', o', ha', hb', _⟩ := SlE.range hs h8 k hk
  rw [ha] at ha'; cases ha'
  exact ⟨b, o, ha, hb', hc, (hen k hk hk2).below hB⟩
 have HF : Hid (BS w sf fr) := hF
 have HT : Hid (BS w st tu) := hT
 have HN : Hid (cur.n = its.length) := hn
 have HL : Hid (xs.length = its.length) := hl
 have H8 : Hid (∀ x ∈ xs, x.d.length = 8) := h8
 have hn2 : cur.n ≤ 200 := by omega
 have hnI : (cur.n : Int) ≤ 200 := by omega
 clear hs hen hn hl h200 hF hT h8
 unfold SlR.val
 go_enter Try.func81, Try.ntmps81
 go_wp2
 go_loopw [9, 10, 11, 12, 15] (fun ov _ _ _ ix wr => ∃ (k : Nat) (o : SlR), k ≤ its.length ∧ ix = .int .i64 (k : Int) ∧ ov = .slice o.a o.n o.cap ∧ Hid (wr.ownsRow w.heap.size 103 10 o.val (selX its xs fr tu k).length (ensC (selX its xs fr tu k))) ∧ Hid (Below w.heap.size w wr)) (fun _ _ _ _ ix _ => its.length - (intOf ix).toNat)
 case atStart => exact ⟨0, ⟨none, 0, 0⟩, by omega, by simp, rfl, World.ownsRow_nil _ _ _ _, Below.refl _ _⟩
 case round =>
  obtain ⟨k, o9, hk, rfl, rfl, HO, HB⟩ := hrel
  by_cases hlt : k < its.length
  ·have hltI : (k : Int) < cur.n := by rw [HN.out]; omega
   have hkI : (k : Int) ≤ 200 := by omega
   obtain ⟨b, o, hca, hb, hrg, hbs⟩ := HQ.out wr HB.out k (by rw [HL.out]; exact hlt) hlt
   have HGD : Hid (xs.getD k en0 = xs[k]'(by rw [HL.out]; exact hlt)) := by unfold Hid; rw [List.getD_eq_getElem?_getD, List.getElem?_eq_getElem (by rw [HL.out]; exact hlt)]; rfl
   have hx8 := H8.out _ (List.getElem_mem (by rw [HL.out]; exact hlt : k < xs.length))
   generalize xs[k]'(by rw [HL.out]; exact hlt) = x at *
   obtain ⟨sk, sv, dd⟩ := x
   obtain ⟨x0, x1, x2, x3, x4, x5, x6, x7, rfl⟩ := list8 dd hx8
   have HRG : Hid (wr.rangeAt b (o + k * 10) [.slice sk.a sk.n sk.cap, .slice sv.a sv.n sv.cap, .int .u8 (x0.toNat : Int), .int .u8 (x1.toNat : Int), .int .u8 (x2.toNat : Int), .int .u8 (x3.toNat : Int), .int .u8 (x4.toNat : Int), .int .u8 (x5.toNat : Int), .int .u8 (x6.toNat : Int), .int .u8 (x7.toNat : Int)]) := hrg
   have HBS : Hid (BS wr sk its[k].key) := hbs
   obtain ⟨ca, cn, cc⟩ := cur
   simp only at hca
   subst hca
   simp only at HN hn2 hnI hltI
   clear hrg hbs hx8
   go_upto_region 5 with (refine wpList_load_mid (by rfl) 103 (.tmp 18) (by rfl) b (o + k * 10) (by rfl) [.slice sk.a sk.n sk.cap, .slice sv.a sv.n sv.cap, .int .u8 (x0.toNat : Int), .int .u8 (x1.toNat : Int), .int .u8 (x2.toNat : Int), .int .u8 (x3.toNat : Int), .int .u8 (x4.toNat : Int), .int .u8 (x5.toNat : Int), .int .u8 (x6.toNat : Int), .int .u8 (x7.toNat : Int)] _ HRG.out Try.underlying103 rfl Try.sizeEntryB ?_)
   have HB1 : Hid (Below wr.heap.size wr (wr.alloc (.cells #[.slice sk.a sk.n sk.cap, .slice sv.a sv.n sv.cap, .int .u8 (x0.toNat : Int), .int .u8 (x1.toNat : Int), .int .u8 (x2.toNat : Int), .int .u8 (x3.toNat : Int), .int .u8 (x4.toNat : Int), .int .u8 (x5.toNat : Int), .int .u8 (x6.toNat : Int), .int .u8 (x7.toNat : Int)] 103))) := (Below.refl _ _).alloc (Nat.le_refl _) _
   have HX1 : Hid (RowV (wr.alloc (.cells #[.slice sk.a sk.n sk.cap, .slice sv.a sv.n sv.cap, .int .u8 (x0.toNat : Int), .int .u8 (x1.toNat : Int), .int .u8 (x2.toNat : Int), .int .u8 (x3.toNat : Int), .int .u8 (x4.toNat : Int), .int .u8 (x5.toNat : Int), .int .u8 (x6.toNat : Int), .int .u8 (x7.toNat : Int)] 103)) wr.heap.size 103 [.slice sk.a sk.n sk.cap, .slice sv.a sv.n sv.cap, .int .u8 (x0.toNat : Int), .int .u8 (x1.toNat : Int), .int .u8 (x2.toNat : Int), .int .u8 (x3.toNat : Int), .int .u8 (x4.toNat : Int), .int .u8 (x5.toNat : Int), .int .u8 (x6.toNat : Int), .int .u8 (x7.toNat : Int)]) := RowV.new wr _ _
   have HBW : Hid (Below w.heap.size w (wr.alloc (.cells #[.slice sk.a sk.n sk.cap, .slice sv.a sv.n sv.cap, .int .u8 (x0.toNat : Int), .int .u8 (x1.toNat : Int), .int .u8 (x2.toNat : Int), .int .u8 (x3.toNat : Int), .int .u8 (x4.toNat : Int), .int .u8 (x5.toNat : Int), .int .u8 (x6.toNat : Int), .int .u8 (x7.toNat : Int)] 103))) := HB.out.trans (HB1.out.mono HB.out.size)
   have hbw : w.heap.size ≤ wr.heap.size := HB.out.size
   generalize wr.alloc (.cells #[.slice sk.a sk.n sk.cap, .slice sv.a sv.n sv.cap, .int .u8 (x0.toNat : Int), .int .u8 (x1.toNat : Int), .int .u8 (x2.toNat : Int), .int .u8 (x3.toNat : Int), .int .u8 (x4.toNat : Int), .int .u8 (x5.toNat : Int), .int .u8 (x6.toNat : Int), .int .u8 (x7.toNat : Int)] 103) = W1 at *
   have HKA : Hid (keyAt its k = its[k].key) := keyAt_lt hlt
   generalize its[k].key = key at *
   go_cut [12] (fun rv wx => rv = .bool (k == 0 || Op.bytesLess (keyAt its (k - 1)) tu) ∧ Hid (Below W1.heap.size W1 wx))
   case first =>
    by_cases hk0 : k = 0
    ·subst hk0
     go_wp2_with fail
     go_meet
     case rel => exact ⟨rfl, Below.refl _ _⟩
    ·obtain ⟨j, rfl⟩ : ∃ j, k = j + 1 := ⟨k - 1, by omega⟩
     have hjx : j < xs.length := by rw [HL.out]; omega
     have hji : j < its.length := by omega
     obtain ⟨b', o', hca', hb', hyr, hbs'⟩ := HQ.out W1 HBW.out j hjx hji
     cases hca'
     have hy8 := H8.out _ (List.getElem_mem hjx)
     have HKJ : Hid (keyAt its (j + 1 - 1) = its[j].key) := by unfold Hid; rw [show j + 1 - 1 = j from rfl, keyAt_lt hji]
     generalize xs[j] = y at *
     obtain ⟨tk, tv, ee⟩ := y
     obtain ⟨y0, y1, y2, y3, y4, y5, y6, y7, rfl⟩ := list8 ee hy8
     have hyr : W1.rangeAt b (o + j * 10) [.slice tk.a tk.n tk.cap, .slice tv.a tv.n tv.cap, .int .u8 (y0.toNat : Int), .int .u8 (y1.toNat : Int), .int .u8 (y2.toNat : Int), .int .u8 (y3.toNat : Int), .int .u8 (y4.toNat : Int), .int .u8 (y5.toNat : Int), .int .u8 (y6.toNat : Int), .int .u8 (y7.toNat : Int)] := hyr
     have c0 := hyr 0 _ rfl
     have c1 := hyr 1 _ rfl
     have c2 := hyr 2 _ rfl
     have c3 := hyr 3 _ rfl
     have c4 := hyr 4 _ rfl
     have c5 := hyr 5 _ rfl
     have c6 := hyr 6 _ rfl
     have c7 := hyr 7 _ rfl
     have c8 := hyr 8 _ rfl
     have c9 := hyr 9 _ rfl
     simp only [Nat.add_zero] at c0
     have HEK : Hid (Calls _ _ _ _ _) := entryKeyP_any tk tv y0 y1 y2 y3 y4 y5 y6 y7 W1
     have HBJ : Hid (BS W1 tk its[j].key) := hbs'
     have hj0 : ((j : Int) + 1 == 0) = false := by simp; omega
     have hjI : (j : Int) + 1 - 1 = j := by omega
     have hjJ : (j : Int) < cn := by rw [HN.out]; omega
     have HTW : Hid (BS W1 st tu) := HT.out.below HBW.out
     have HLE := cmp_neg its[j].key tu
     have HBD := cmp_bd its[j].key tu
     generalize its[j].key = kj at *
     clear hyr hbs' hy8 HQ
     go_wp2_with (go_at_call 82; refine HEK.out.mono ?_; rintro e w2 ⟨rfl, hb2⟩)
     have HCM : Hid (Calls _ _ _ _ _) := compare_any tk st kj tu w2 (HBJ.out.below hb2) (HTW.out.below hb2)
     generalize Lib.compareBytes kj tu = c at *
     unfold SlR.val at HCM
     refine HCM.out.mono ?_
     rintro e w3 ⟨rfl, hw3⟩
     obtain rfl : w2 = w3 := hw3.symm
     clear hw3
     go_wp2_with fail
     go_meet
     case rel =>
      refine ⟨?_, hb2⟩
      rw [HKJ.out]
      have e1 : Op.bytesLess kj tu = decide (c < 0) := by rw [Bool.eq_iff_iff]; simp [HLE]
      rw [e1]
      simp
   case rest =>
    obtain ⟨rfl, HB2⟩ := hcut
    have HWB : Hid (withB its k fr tu = (!(Op.bytesLess key fr) && (k == 0 || Op.bytesLess (keyAt its (k - 1)) tu))) := by unfold Hid withB; rw [HKA.out]
    generalize (k == 0 || Op.bytesLess (keyAt its (k - 1)) tu) = rc at *
    have HX2 : Hid (RowV wc wr.heap.size 103 [.slice sk.a sk.n sk.cap, .slice sv.a sv.n sv.cap, .int .u8 (x0.toNat : Int), .int .u8 (x1.toNat : Int), .int .u8 (x2.toNat : Int), .int .u8 (x3.toNat : Int), .int .u8 (x4.toNat : Int), .int .u8 (x5.toNat : Int), .int .u8 (x6.toNat : Int), .int .u8 (x7.toNat : Int)]) := RowV.below HX1.out HX1.out.lt HB2.out
    have HW2 : Hid (Below wr.heap.size wr wc) := HB1.out.trans (HB2.out.mono HB1.out.size)
    have HK2 : Hid (BS wc sk key) := HBS.out.below HW2.out
    have HF2 : Hid (BS wc sf fr) := (HF.out.below HB.out).below HW2.out
    clear HX1 HB1 HB2 HBW HQ HRG
    go_upto_region 6 with fail
    go_cut [42] (fun rv wx => rv = .bool (withB its k fr tu) ∧ Hid (Below wc.heap.size wc wx))
    case first =>
     cases rc with
     | false =>
      go_wp2_with fail
      go_meet
      case rel => exact ⟨by rw [HWB.out]; simp, Below.refl _ _⟩
     | true =>
      have c0 := HX2.out.cell 0 (by simp)
      have c1 := HX2.out.cell 1 (by simp)
      have c2 := HX2.out.cell 2 (by simp)
      have c3 := HX2.out.cell 3 (by simp)
      have c4 := HX2.out.cell 4 (by simp)
      have c5 := HX2.out.cell 5 (by simp)
      have c6 := HX2.out.cell 6 (by simp)
      have c7 := HX2.out.cell 7 (by simp)
      have c8 := HX2.out.cell 8 (by simp)
      have c9 := HX2.out.cell 9 (by simp)
      simp only [List.getElem_cons_zero, List.getElem_cons_succ] at c0 c1 c2 c3 c4 c5 c6 c7 c8 c9
      have HEK : Hid (Calls _ _ _ _ _) := entryKeyP_any sk sv x0 x1 x2 x3 x4 x5 x6 x7 wc
      have HLE := cmp_neg key fr
      have HBD := cmp_bd key fr
      go_wp2_with (go_at_call 82; refine HEK.out.mono ?_; rintro e w2 ⟨rfl, hb2⟩)
      have HCM : Hid (Calls _ _ _ _ _) := compare_any sk sf key fr w2 (HK2.out.below hb2) (HF2.out.below hb2)
      generalize Lib.compareBytes key fr = c at *
      unfold SlR.val at HCM
      refine HCM.out.mono ?_
      rintro e w3 ⟨rfl, hw3⟩
      obtain rfl : w2 = w3 := hw3.symm
      clear hw3
      go_wp2_with fail
      go_meet
      case rel =>
       refine ⟨?_, hb2⟩
       have e1 : Op.bytesLess key fr = decide (c < 0) := by rw [Bool.eq_iff_iff]; simp [HLE]
       rw [HWB.out, e1]
       by_cases hc : 0 ≤ c
       ·have : ¬ c < 0 := by omega
        simp [hc, this]
       ·have : c < 0 := by omega
        simp [hc, this]
    case rest =>
     obtain ⟨rfl, HB3⟩ := hcut
     have HX3 := RowV.below HX2.out HX2.out.lt HB3.out
     have HW3 : Hid (Below wr.heap.size wr wc) := HW2.out.trans (HB3.out.mono HW2.out.size)
     cases hwb : withB its k fr tu with
     | false =>
      have HS : Hid (selX its xs fr tu (k + 1) = selX its xs fr tu k) := selX_no _ _ _ _ _ hwb
      go_wp2
      refine ⟨⟨k + 1, o9, hlt, by go_num, rfl, ?_, HB.out.trans (HW3.out.mono HB.out.size)⟩, by simp [intOf]; omega⟩
      unfold Hid; rw [HS.out]; exact owns_below HO.out HW3.out
     | true =>
      have HS : Hid (selX its xs fr tu (k + 1) = selX its xs fr tu k ++ [⟨sk, sv, [x0, x1, x2, x3, x4, x5, x6, x7]⟩]) := by unfold Hid; rw [selX_yes _ _ _ _ _ hwb, HGD.out]
      have HSL : Hid ((selX its xs fr tu k).length ≤ 200) := by have := selX_len its xs fr tu k; unfold Hid; omega
      have HBA : Hid (Below wr.heap.size wr (wc.alloc (.cells #[.slice sk.a sk.n sk.cap, .slice sv.a sv.n sv.cap, .int .u8 (x0.toNat : Int), .int .u8 (x1.toNat : Int), .int .u8 (x2.toNat : Int), .int .u8 (x3.toNat : Int), .int .u8 (x4.toNat : Int), .int .u8 (x5.toNat : Int), .int .u8 (x6.toNat : Int), .int .u8 (x7.toNat : Int)] 103))) := HW3.out.alloc HW3.out.size _
      have HX3' : Hid (RowV wc wr.heap.size 103 [.slice sk.a sk.n sk.cap, .slice sv.a sv.n sv.cap, .int .u8 (x0.toNat : Int), .int .u8 (x1.toNat : Int), .int .u8 (x2.toNat : Int), .int .u8 (x3.toNat : Int), .int .u8 (x4.toNat : Int), .int .u8 (x5.toNat : Int), .int .u8 (x6.toNat : Int), .int .u8 (x7.toNat : Int)]) := HX3
      go_wp2_with (first
       | (refine wpList_load_mid (by rfl) 103 (.tmp 11) (by rfl) wr.heap.size 0 (by rfl) [.slice sk.a sk.n sk.cap, .slice sv.a sv.n sv.cap, .int .u8 (x0.toNat : Int), .int .u8 (x1.toNat : Int), .int .u8 (x2.toNat : Int), .int .u8 (x3.toNat : Int), .int .u8 (x4.toNat : Int), .int .u8 (x5.toNat : Int), .int .u8 (x6.toNat : Int), .int .u8 (x7.toNat : Int)] _ HX3'.out.range Try.underlying103 rfl Try.sizeEntryB ?_)
       | (at_builtin; refine wp_appendV (by rfl) (.tmp 43) (.tmp 45) 83 (by rfl) w.heap.size 103 _ 10 56 Try.underlying83 Try.infoEntry rfl (by decide) (.slice o9.a o9.n o9.cap) (selX its xs fr tu k).length (ensC (selX its xs fr tu k)) (by rfl) (owns_below HO.out HBA.out) (some ⟨wc.heap.size, 0, none⟩) 1 1 [.slice sk.a sk.n sk.cap, .slice sv.a sv.n sv.cap, .int .u8 (x0.toNat : Int), .int .u8 (x1.toNat : Int), .int .u8 (x2.toNat : Int), .int .u8 (x3.toNat : Int), .int .u8 (x4.toNat : Int), .int .u8 (x5.toNat : Int), .int .u8 (x6.toNat : Int), .int .u8 (x7.toNat : Int)] (by rfl) rfl (SlV.alloc_new wc _ _) (fun h => by cases h) (enC_one ⟨sk, sv, [x0, x1, x2, x3, x4, x5, x6, x7]⟩) (by have := HSL.out; unfold maxLen; omega) (by have := HSL.out; omega) (Nat.le_trans hbw HBA.out.size) ?_; intro v9 w9 ho9 hf9 hat9; obtain ⟨a9, c9, hv9, _⟩ := owns_form ho9; subst hv9))
      have hbz : Below w.heap.size w (wc.alloc (.cells #[.slice sk.a sk.n sk.cap, .slice sv.a sv.n sv.cap, .int .u8 (x0.toNat : Int), .int .u8 (x1.toNat : Int), .int .u8 (x2.toNat : Int), .int .u8 (x3.toNat : Int), .int .u8 (x4.toNat : Int), .int .u8 (x5.toNat : Int), .int .u8 (x6.toNat : Int), .int .u8 (x7.toNat : Int)] 103)) := HB.out.trans (HBA.out.mono HB.out.size)
      refine ⟨⟨k + 1, ⟨a9, (selX its xs fr tu k).length + 1, c9⟩, hlt, by go_num, rfl, ?_, hbz.trans (hf9.below hbz.size (fun q hq => (HO.out.lt q hq).1))⟩, by simp [intOf]; omega⟩
      unfold Hid; rw [HS.out, List.length_append, ensC_append]; exact ho9
  ·have hkI : ¬ (k : Int) < cur.n := by rw [HN.out]; omega
   obtain rfl : k = its.length := by omega
   go_wp2
   go_ret
   exact ⟨o9, rfl, HO.out, HB.out⟩
end Go.Proofs.Ytekegfbjbainhaa


namespace Go.Proofs.Ytekegfbjbainhaa
open Go.RowKit
attribute [local go_sem ↓] Go.wp_at_zero Go.wp_at_succ
theorem sel_zip (its : List ItR) (xs : List EnP) (fr tu : List UInt8) (P : EnP → ItR → Prop) (hl : xs.length = its.length) (h : ∀ i (h1 : i < xs.length) (h2 : i < its.length), P xs[i] its[i]) : ∀ (k : Nat), k ≤ its.length → (selX its xs fr tu k).length = (selE its fr tu k).length ∧ ∀ i (h1 : i < (selX its xs fr tu k).length) (h2 : i < (selE its fr tu k).length), P (selX its xs fr tu k)[i] (selE its fr tu k)[i]
 | 0, _ => ⟨rfl, fun i h1 => by simp [selX] at h1⟩
 | k + 1, hk => by
  have ih := sel_zip its xs fr tu P hl h k (by omega)
  have hx : xs.getD k en0 = xs[k]'(by omega) := by rw [List.getD_eq_getElem?_getD, List.getElem?_eq_getElem (by omega : k < xs.length)]; rfl
  have hi : its.getD k it0 = its[k]'(by omega) := by rw [List.getD_eq_getElem?_getD, List.getElem?_eq_getElem (by omega : k < its.length)]; rfl
  cases hw : withB its k fr tu with
  | false =>
   have e1 := selX_no its xs fr tu k hw
   have e2 := selE_no its fr tu k hw
   rw [e1, e2]; exact ih
  | true =>
   have e1 := selX_yes its xs fr tu k hw
   have e2 := selE_yes its fr tu k hw
   rw [hx] at e1; rw [hi] at e2
   rw [e1, e2]
   refine ⟨by simp [ih.1], fun i h1 h2 => ?_⟩
   by_cases hlt : i < (selX its xs fr tu k).length
   ·rw [List.getElem_append_left hlt, List.getElem_append_left (by rw [← ih.1]; exact hlt)]
    exact ih.2 i hlt _
   ·have e : i = (selX its xs fr tu k).length := by simp at h1; omega
    subst e
    rw [List.getElem_append_right (Nat.le_refl _), List.getElem_append_right (by rw [ih.1]; exact Nat.le_refl _)]
    simp only [ih.1, Nat.sub_self, List.getElem_singleton]
    exact h k _ _
theorem selE_len (its : List ItR) (fr tu : List UInt8) : ∀ (k : Nat), (selE its fr tu k).length ≤ k
 | 0 => by simp [selE]
 | k + 1 => by
  have ih := selE_len its fr tu k
  cases h : withB its k fr tu
  ·rw [selE_no _ _ _ _ h]; omega
  ·rw [selE_yes _ _ _ _ h]; simp; omega
def foF (fr tu : List UInt8) (m : Nat) (se : List ItR) (r : List UInt8) (j : Nat) : Option (List ItR × List UInt8) := (se.take j).foldlM (stepU (readU fr tu m) m) ([], r)
theorem foF_succ {fr tu : List UInt8} {m : Nat} {se : List ItR} {r : List UInt8} {j : Nat} (h : j < se.length) : foF fr tu m se r (j + 1) = (foF fr tu m se r j).bind (fun s => stepU (readU fr tu m) m s se[j]) := by
 unfold foF
 rw [List.take_succ_eq_append_getElem h, List.foldlM_append]
 cases (se.take j).foldlM (stepU (readU fr tu m) m) ([], r) with
 | none => rfl
 | some s => simp
theorem foF_none {fr tu : List UInt8} {m : Nat} {se : List ItR} {r : List UInt8} {j : Nat} (h : foF fr tu m se r j = none) : foF fr tu m se r se.length = none := by
 unfold foF at h ⊢
 have e : se.take se.length = se.take j ++ se.drop j := by rw [List.take_length, List.take_append_drop]
 rw [e, List.foldlM_append, h]; rfl
def ebPost (w : World) (K : Nat → Prop) (rb base : Nat) (R : Option (List ItR × List UInt8)) (e : Ending) (w' : World) : Prop :=
 Frame (fun k => k = rb) w w' ∧ match R with
  | none => e = pkE
  | some (es, r) => ∃ (v : SlR) (ys : List EnP), e = .returned v.val ∧ EnsL 0 w' K base v ys es ∧ RdP w' K rb r
theorem fold_many {fr tu : List UInt8} {lv : Nat} (ih : ∀ (its : List ItR) (r : List UInt8) (es : List ItR) (r' : List UInt8), its.length ≤ 60 → readU fr tu lv its r = some (es, r') → es.length ≤ 60 ^ (lv + 1)) : ∀ (xs acc : List ItR) (r : List UInt8) (es : List ItR) (r' : List UInt8), xs.foldlM (stepU (readU fr tu lv) lv) (acc, r) = some (es, r') → es.length ≤ acc.length + xs.length * 60 ^ (lv + 1)
 | [], acc, r, es, r', h => by
  simp only [List.foldlM_nil, Option.pure_def, Option.some.injEq, Prod.mk.injEq] at h
  rw [h.1]; omega
 | x :: xs, acc, r, es, r', h => by
  rw [List.foldlM_cons] at h
  obtain ⟨⟨a1, r1⟩, hs, hf⟩ := Option.bind_eq_some_iff.1 h
  have h1 := fold_many ih xs a1 r1 es r' hf
  have h2 : a1.length ≤ acc.length + 60 ^ (lv + 1) := by
   unfold stepU at hs
   split at hs
   ·cases hs
   ·rename_i l its q hpg
    split at hs
    ·obtain ⟨⟨e1, e2⟩, hr, he⟩ := Option.map_eq_some_iff.1 hs
     simp only [Prod.mk.injEq] at he
     have := ih its q e1 e2 (pgO_ok hpg).len hr
     rw [← he.1, List.length_append]
     omega
    ·cases hs
  rw [List.length_cons, Nat.succ_mul]
  omega
theorem read_many (fr tu : List UInt8) : ∀ (lv : Nat) (its : List ItR) (r : List UInt8) (es : List ItR) (r' : List UInt8), its.length ≤ 60 → readU fr tu lv its r = some (es, r') → es.length ≤ 60 ^ (lv + 1)
 | 0, its, r, es, r', hl, h => by
  simp only [readU, Option.some.injEq, Prod.mk.injEq] at h
  rw [← h.1]; omega
 | lv + 1, its, r, es, r', hl, h => by
  have h1 := fold_many (read_many fr tu lv) _ _ _ _ _ h
  have h2 : (selE its fr tu its.length).length ≤ 60 := Nat.le_trans (selE_len its fr tu its.length) hl
  have h3 := Nat.mul_le_mul_right (60 ^ (lv + 1)) h2
  rw [Nat.pow_succ 60 (lv + 1)]
  simp only [List.length_nil] at h1
  omega
theorem read_most {fr tu : List UInt8} {lv : Nat} {its : List ItR} {r : List UInt8} {es : List ItR} {r' : List UInt8} (hp : PageOk lv its) (h : readU fr tu lv its r = some (es, r')) : es.length ≤ 2799360000000 := by
 have h1 := read_many fr tu lv its r es r' hp.len h
 have h2 : 60 ^ (lv + 1) ≤ 60 ^ 7 := Nat.pow_le_pow_right (by decide) (by have := hp.le6; omega)
 have h3 : (60 : Nat) ^ 7 = 2799360000000 := by decide
 omega
def EBSpec (fr tu : List UInt8) (lvl : Nat) : Prop := ∀ (K : Nat → Prop) (rb base : Nat) (cur : SlR) (xs : List EnP) (its : List ItR) (l : List UInt8) (sf st : SlR) (w : World), RdP w K rb l → (∀ k, K k → k < w.heap.size) → PageOk lvl its → EnsL lvl w K base cur xs its → base ≤ w.heap.size → BS w sf fr → BS w st tu → (∀ x, sf.a = some x → x.block ≠ rb) → (∀ x, st.a = some x → x.block ≠ rb) →
 Calls Try.prog 62 #[.pointer (some ⟨rb, 0, none⟩), .agg #[.int .i64 (lvl : Int), .slice cur.a cur.n cur.cap], .slice sf.a sf.n sf.cap, .slice st.a st.n st.cap] w (ebPost w K rb base (readU fr tu lvl its l))
set_option maxRecDepth 100000 in
set_option maxHeartbeats 1000000 in
theorem eb_zero (fr tu : List UInt8) : EBSpec fr tu 0 := by
 intro K rb base cur xs its l sf st w hr hK hpo hen hb hF hT hfb htb
 have HB : Hid (Below w.heap.size w (w.alloc (.cells #[.int .i64 0, .slice cur.a cur.n cur.cap] 128))) := (Below.refl _ _).alloc (Nat.le_refl _) _
 have HR : Hid (RdP w K rb l) := hr
 have HE : Hid (EnsL 0 w K base cur xs its) := hen
 clear hr hK hpo hen hb hF hT hfb htb
 show Calls Try.prog 62 #[.pointer (some ⟨rb, 0, none⟩), .agg #[.int .i64 0, .slice cur.a cur.n cur.cap], .slice sf.a sf.n sf.cap, .slice st.a st.n st.cap] w (ebPost w K rb base (some (its, l)))
 go_enter Try.func62, Try.ntmps62
 go_wp2
 go_ret
 exact ⟨Frame.of_below_all HB.out, cur, xs, rfl, HE.out.below HB.out, HR.out.below HB.out⟩
end Go.Proofs.Ytekegfbjbainhaa


namespace Go.Proofs.Ytekegfbjbainhaa
open Go.RowKit
theorem cap_near {need old : Nat} (h : old < need) : 4 * Builtin.nextslicecap need old ≤ 5 * need + 2048 := by
 unfold Builtin.nextslicecap
 split
 ·omega
 ·split
  ·omega
  ·rw [growBy_four]
   repeat' split
   all_goals omega
theorem cap_fits {need old bytes : Nat} (h : old < need) (hb : (5 * need + 2048) * bytes ≤ 1125899906842624) : Builtin.nextslicecap need old * bytes ≤ 281474976710656 := by
 have h1 := Nat.mul_le_mul_right bytes (cap_near h)
 rw [Nat.mul_assoc] at h1
 omega
theorem owns_row {w : World} {base e size n cap : Nat} {cs : List Value} {X : Array Value} (hb : base ≤ w.heap.size) (hl : cs.length = n * size) (hc : n ≤ cap) (hm : cap ≤ maxLen) (hX : X.size = (cap - n) * size) :
  (w.alloc (.cells (cs.toArray ++ X) e)).ownsRow base e size (.slice (some ⟨w.heap.size, 0, none⟩) n cap) n cs := by
 refine ⟨hl, Or.inr ⟨w.heap.size, cap, cs.toArray ++ X, rfl, hb, ?_, hc, hm, ?_, ?_⟩⟩
 ·show (w.heap.push _)[w.heap.size]? = _
  simp
 ·rw [Array.size_append, hX, List.size_toArray, hl, ← Nat.add_mul]
  congr 1; omega
 ·rw [Array.toList_append, ← hl]
  exact List.take_left
theorem run_appendW {P : Program} (w : World) (base : Nat) (t ty e : TypeId) (i : TypeInfo) (z : Value) (size bytes : Nat) (ht : P.underlying t = some (.slice e)) (hi : P.info? e = some i) (hz : i.zero = some z) (hsize : i.size = size) (hby : i.bytes = bytes) (hzs : z.cells.size = size) (hsz : 0 < size)
  (v : Value) (n : Nat) (xs : List Value) (hown : w.ownsRow base e size v n xs) (a : Addr) (m c : Nat) (news : List Value) (hl : news.length = m * size) (hnews : ∀ j u, news[j]? = some u → w.cell? (a.add j) = some u) (h1 : ∀ u ∈ news, u.oneCell' = true)
  (h63 : n + m ≤ maxLen) (hbytes : (5 * (n + m) + 2048) * bytes ≤ 1125899906842624) (hbase : base ≤ w.heap.size) :
  ∃ v' w', (Builtin.append_ #[t, t] ty #[v, .slice (some a) m c]).run P w = .ok v' w' ∧ w'.ownsRow base e size v' (n + m) (xs ++ news) ∧ Frame (fun k => v.ownBlock = some k) w w' ∧ (v'.ownBlock = v.ownBlock ∨ v'.ownBlock = some w.heap.size) := by
 by_cases hsm : (n + m) * bytes ≤ 140737488355328
 ·obtain ⟨v', w', hr, h2, h3, _, h5⟩ := run_append_own_at (P := P) w base t ty e i z size bytes ht hi hz hsize hby hzs hsz v n xs hown a m c news hl hnews h1 h63 hsm hbase
  exact ⟨v', w', hr, h2, Frame.of_grown h3, h5⟩
 subst hsize hby
 have hpos : 0 < n + m := by
  rcases Nat.eq_zero_or_pos (n + m) with e | e
  ·rw [e] at hsm; simp at hsm
  ·exact e
 have h63' : ((n + m : Nat) : Int) ≤ 9223372036854775807 := by unfold maxLen at h63; omega
 have hlen : (xs ++ news).length = (n + m) * i.size := by rw [List.length_append, hown.1, hl, Nat.add_mul]
 have hnew : ∀ old, (w.drew.alloc (.cells ((xs ++ news).toArray ++ Builtin.zeroCells z.cells (grownCap w (n + m) old e - (n + m))) e)).ownsRow base e i.size (.slice (some ⟨w.heap.size, 0, none⟩) (n + m) (grownCap w (n + m) old e)) (n + m) (xs ++ news) := fun old =>
  owns_row (w := w.drew) hbase hlen (grownCap_ge w _ _ _) (grownCap_le_maxLen w _ _ _ h63) (by rw [size_zeroCells, hzs])
 have hfr : ∀ (X : Obj) (S : Nat → Prop), Frame S w (w.drew.alloc X) := fun X S => (Frame.of_below_all (((Below.refl w.heap.size w).drew).alloc (Nat.le_refl _) X))
 rcases hown.2 with ⟨rfl, rfl⟩ | ⟨g, cap, cur, rfl, hbg, hg, hnc, hcm, hcs, htake⟩
 ·have hx : xs = [] := List.eq_nil_of_length_eq_zero (by simpa using hown.1)
  subst hx
  have hr := run_append_nil (P := P) w t ty e i z ht hi hz a m c news hl hnews (by omega) (by omega) (by
   have h2 : m * i.bytes ≤ 281474976710656 := by
    have h3 : 4 * (m * i.bytes) ≤ (5 * (0 + m) + 2048) * i.bytes := by
     rw [← Nat.mul_assoc]
     exact Nat.mul_le_mul_right _ (by omega)
    omega
   exact h2)
  have ho := hnew 0
  simp only [Nat.zero_add, List.nil_append] at ho ⊢
  exact ⟨_, _, hr, ho, hfr _ _, Or.inr rfl⟩
 ·by_cases hroom : n + m ≤ cap
  ·have hfit : n * i.size + news.length ≤ cur.size := by rw [hl, hcs, ← Nat.add_mul]; exact Nat.mul_le_mul_right _ hroom
   have hr := run_append_room (P := P) w t ty e i ht hi g n cap cur hg a m c news hl hnews h1 hroom hfit
   refine ⟨_, _, hr, ⟨hlen, Or.inr ⟨g, cap, _, rfl, hbg, setRow_heap w g cur _ e _ hg, hroom, hcm, ?_, ?_⟩⟩, ⟨rfl, rfl, rfl, by simp, fun k _ hk => setRow_other w g k _ (fun h => hk (by rw [← h]; rfl))⟩, Or.inl rfl⟩
   ·have : (n * i.size + news.length) ≤ cap * i.size := by rw [← hcs]; exact hfit
    simp only [List.size_toArray, List.length_append, List.length_take, List.length_drop, Array.length_toList]
    omega
   ·rw [htake, ← hlen]
    exact List.take_left
  ·have hr := run_append_grow (P := P) w t ty e i z ht hi hz ⟨g, 0, none⟩ n cap xs hown.1 (hown.cells (g := g) rfl) a m c news hl hnews (by omega) (by omega) (cap_fits (by omega) hbytes)
   have ho := hnew cap
   rw [← List.append_toArray] at ho
   exact ⟨_, _, hr, ho, hfr _ _, Or.inr rfl⟩
theorem wp_appendW {P : Program} {w : World} {ops : Array Oper} {rest : List Oper} {o : Oper} {a : Act} {Q : Exit → Act → World → Prop} (hgd : o.guard = none) (s x : Operand) (t : TypeId)
  (ho : o.op = .call { callee := .builtin .append, args := #[s, x], argTypes := #[t, t] })
  (base : Nat) (e : TypeId) (z : Value) (size bytes : Nat) (ht : P.underlying t = some (.slice e)) (hi : (P.info? e).map (fun i => (i.zero, i.size, i.bytes)) = some (some z, size, bytes)) (hzs : z.cells.size = size) (hsz : 0 < size)
  (v : Value) (n : Nat) (xs : List Value) (hs : a.eval s = v) (hown : w.ownsRow base e size v n xs)
  (ax : Option Addr) (m c : Nat) (news : List Value) (hx : a.eval x = .slice ax m c) (hl : news.length = m * size) (hnews : SlV w ax news) (hnil : ax = none → m = 0 ∧ c = 0) (h1 : ∀ u ∈ news, u.oneCell' = true)
  (h63 : n + m ≤ maxLen) (hbytes : (5 * (n + m) + 2048) * bytes ≤ 1125899906842624) (hbase : base ≤ w.heap.size)
  (h : ∀ v' w', w'.ownsRow base e size v' (n + m) (xs ++ news) → Frame (fun k => v.ownBlock = some k) w w' → (v'.ownBlock = v.ownBlock ∨ v'.ownBlock = some w.heap.size) → wpList P ops Q rest (a.put o.dst v') w') :
  wpList P ops Q (o :: rest) a w := by
 obtain ⟨i, hi0, hz, hsize, hby⟩ := info_parts hi
 cases ax with
 | none =>
  obtain ⟨rfl, rfl⟩ := hnil rfl
  have hn : news = [] := List.eq_nil_of_length_eq_zero (by simpa using hl)
  subst hn
  refine wpList_append_own_none hgd s x t ho base e i size ht hi0 v n xs hs hown hx ?_
  refine h v w ?_ (Frame.refl _ _) (Or.inl rfl)
  simpa using hown
 | some ad =>
  refine wpList_plain hgd fun K hK => ?_
  obtain ⟨v', w', hr, h2, h3, h4⟩ := run_appendW (P := P) w base t o.type e i z size bytes ht hi0 hz hsize hby hzs hsz v n xs hown ad m c news hl (fun j u hj => (by
   obtain ⟨hj1, hj2⟩ := List.getElem?_eq_some_iff.1 hj
   obtain ⟨b, k, ha, _, hc⟩ := hnews j hj1
   cases ha
   rw [addr_add, hc, hj2])) h1 h63 hbytes hbase
  unfold Oper.wp execOp
  simp only [ho, resolve, invoke, builtin, Sem.run_bind, Sem.run_pure, Result.andThen_ok, List.map_toArray, List.map_cons, List.map_nil, hs, hx, hr]
  exact hK _ _ (h v' w' h2 h3 h4)
end Go.Proofs.Ytekegfbjbainhaa
