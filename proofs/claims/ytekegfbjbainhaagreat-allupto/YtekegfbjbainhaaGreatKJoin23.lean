import Derived.Test.YtekegfbjbainhaaGreatKJoin21
import Derived.Test.YtekegfbjbainhaaGreatKJoin12
import Derived.WalkLawsBesides
set_option linter.unusedVariables false
set_option linter.unusedSimpArgs false

namespace Go.Proofs.YtekegfbjbainhaaGreat
open Go.RowKit
set_option maxRecDepth 100000 in
set_option maxHeartbeats 400000 in
theorem has_any (sb n : Nat) (tr : SlR) (e : Int) (w : World) (c2 : w.cell? ⟨sb, 2, none⟩ = some (.slice tr.a tr.n tr.cap)) (hn : tr.n = n) (h40 : n ≤ 40) :
  Calls Tryz.prog 88 #[.pointer (some ⟨sb, 0, none⟩), .int .i64 e] w fun r w' => r = .returned (.bool (!epochBad n e)) ∧ w' = w := by
 subst hn
 have hnI : (tr.n : Int) ≤ 40 := by omega
 have HCM : Hid (Calls _ _ _ _ _) := commits_any sb tr w c2 h40
 by_cases h0 : e < 0
 ·have HE : Hid ((!epochBad tr.n e) = false) := by unfold Hid epochBad; simp [h0]
  have h0' : ¬ 0 ≤ e := by omega
  go_enter Tryz.func88, Tryz.ntmps88
  go_wp2
  go_ret
  exact ⟨by rw [HE.out]; rfl, rfl⟩
 ·have h0' : 0 ≤ e := by omega
  by_cases h1 : e < tr.n
  ·have HE : Hid ((!epochBad tr.n e) = true) := by unfold Hid epochBad; simp [h0]; omega
   go_enter Tryz.func88, Tryz.ntmps88
   go_wp2_with (go_at_call 94; refine HCM.out.mono ?_; rintro r w1 ⟨rfl, hw1⟩; obtain rfl : w = w1 := hw1.symm; clear hw1)
   go_ret
   have hd : decide (e < (tr.n : Int)) = true := by simp; omega
   exact ⟨by rw [HE.out, ← hd]; rfl, rfl⟩
  ·have HE : Hid ((!epochBad tr.n e) = false) := by unfold Hid epochBad; simp [h0]; omega
   go_enter Tryz.func88, Tryz.ntmps88
   go_wp2_with (go_at_call 94; refine HCM.out.mono ?_; rintro r w1 ⟨rfl, hw1⟩; obtain rfl : w = w1 := hw1.symm; clear hw1)
   go_ret
   have hd : decide (e < (tr.n : Int)) = false := by simp; omega
   exact ⟨by rw [HE.out, ← hd]; rfl, rfl⟩
set_option maxRecDepth 100000 in
set_option maxHeartbeats 400000 in
theorem isRange_any (sf st : SlR) (fr tu : List UInt8) (w : World) (hF : BS w sf fr) (hT : BS w st tu) (hfm : fr.length ≤ maxLen) (htm : tu.length ≤ maxLen) :
  Calls Tryz.prog 91 #[sf.val, st.val] w fun r w' => r = .returned (.bool (rngOk fr tu)) ∧ w' = w := by
 have HKF : Hid (Calls _ _ _ _ _) := isKey_any sf.a sf.n sf.cap w (by rw [hF.n]; exact hfm)
 have HKT : Hid (Calls _ _ _ _ _) := isKey_any st.a st.n st.cap w (by rw [hT.n]; exact htm)
 have hfb : (decide (1 ≤ sf.n) && decide (sf.n ≤ 12)) = keyOk fr := by rw [hF.n]; rfl
 have htb : (decide (1 ≤ st.n) && decide (st.n ≤ 12)) = keyOk tu := by rw [hT.n]; rfl
 rw [hfb] at HKF
 rw [htb] at HKT
 have HCM : Hid (Calls _ _ _ _ _) := compare_any sf st fr tu w hF hT
 have HLE := cmp_neg fr tu
 have HBD := cmp_bd fr tu
 generalize Lib.compareBytes fr tu = c at *
 have HR : Hid (rngOk fr tu = (keyOk fr && keyOk tu && Op.bytesLess fr tu)) := rfl
 clear hfb htb hF hT hfm htm
 unfold SlR.val at HCM ⊢
 cases hkf : keyOk fr with
 | false =>
  rw [hkf] at HKF HR
  clear HLE
  go_enter Tryz.func91, Tryz.ntmps91
  go_wp2_with fail
  refine HKF.out.mono ?_
  rintro e w1 ⟨rfl, hw1⟩
  obtain rfl : w = w1 := hw1.symm
  clear hw1
  go_wp2
  go_ret
  exact ⟨by rw [HR.out]; rfl, rfl⟩
 | true =>
  rw [hkf] at HKF HR
  cases hkt : keyOk tu with
  | false =>
   rw [hkt] at HKT HR
   clear HLE
   go_enter Tryz.func91, Tryz.ntmps91
   go_wp2_with fail
   refine HKF.out.mono ?_
   rintro e w1 ⟨rfl, hw1⟩
   obtain rfl : w = w1 := hw1.symm
   clear hw1
   go_wp2_with fail
   refine HKT.out.mono ?_
   rintro e w1 ⟨rfl, hw1⟩
   obtain rfl : w = w1 := hw1.symm
   clear hw1
   go_wp2
   go_ret
   exact ⟨by rw [HR.out]; rfl, rfl⟩
  | true =>
   rw [hkt] at HKT HR
   have HV : Hid (rngOk fr tu = decide (c < 0)) := by
    unfold Hid
    rw [HR.out, Bool.eq_iff_iff]
    simp [HLE]
   clear HLE HR hkf hkt
   by_cases hc : c < 0
   ·have HV2 : Hid (rngOk fr tu = true) := by unfold Hid; rw [HV.out]; simp [hc]
    clear HV
    go_enter Tryz.func91, Tryz.ntmps91
    go_wp2_with fail
    refine HKF.out.mono ?_
    rintro e w1 ⟨rfl, hw1⟩
    obtain rfl : w = w1 := hw1.symm
    clear hw1
    go_wp2_with fail
    refine HKT.out.mono ?_
    rintro e w1 ⟨rfl, hw1⟩
    obtain rfl : w = w1 := hw1.symm
    clear hw1
    go_wp2_with fail
    refine HCM.out.mono ?_
    rintro e w1 ⟨rfl, hw1⟩
    obtain rfl : w = w1 := hw1.symm
    clear hw1
    go_wp2
    go_ret
    exact ⟨by rw [HV2.out]; rfl, rfl⟩
   ·have HV2 : Hid (rngOk fr tu = false) := by unfold Hid; rw [HV.out]; simp [hc]
    clear HV
    go_enter Tryz.func91, Tryz.ntmps91
    go_wp2_with fail
    refine HKF.out.mono ?_
    rintro e w1 ⟨rfl, hw1⟩
    obtain rfl : w = w1 := hw1.symm
    clear hw1
    go_wp2_with fail
    refine HKT.out.mono ?_
    rintro e w1 ⟨rfl, hw1⟩
    obtain rfl : w = w1 := hw1.symm
    clear hw1
    go_wp2_with fail
    refine HCM.out.mono ?_
    rintro e w1 ⟨rfl, hw1⟩
    obtain rfl : w = w1 := hw1.symm
    clear hw1
    go_wp2
    go_ret
    exact ⟨by rw [HV2.out, ← show decide (c < 0) = false by simpa using hc]; rfl, rfl⟩
theorem StoT.tree {w : World} {sb : Nat} {mp : Option Nat} {es : List MEn} {T : List (List (List Nd))} {tds : List Nd} {pp : List (List ItR)} (h : StoT w sb mp es T tds pp) (k : Nat) (hk : k < tds.length) :
  ∃ (L : List (List Nd)) (ℓ : Nat), TreeRep (grownN (pastAt pp k)) L ∧ L.length = ℓ + 1 ∧ L[ℓ]? = some [tds[k]] ∧ PastR (pastAt pp k) ∧ (∀ nds ∈ L, ∀ x ∈ nds, NdOk w x) := by
 have h1 : k < T.length := by rw [h.tl]; exact hk
 have h2 : k < pp.length := by rw [h.pl]; exact hk
 have e : pastAt pp k = pp[k] := by
  unfold pastAt
  simp [h2]
 obtain ⟨g1, ⟨ℓ, g2, g3⟩, g4⟩ := h.rep k T[k] pp[k] tds[k] (List.getElem?_eq_getElem h1) (List.getElem?_eq_getElem h2) (List.getElem?_eq_getElem hk)
 rw [e]
 exact ⟨T[k], ℓ, g1, g2, g3, ⟨g4.rise, g4.ok, g4.len⟩, fun nds hn x hx => (h.good T[k] (List.getElem_mem h1) nds hn x hx).1⟩
set_option maxRecDepth 100000 in
set_option maxHeartbeats 1000000 in
theorem sto_prove (sb N : Nat) (en tr : SlR) (mp : Option Nat) (es : List MEn) (xs : List EnP) (its : List ItR) (tds : List Nd) (T : List (List (List Nd))) (pp : List (List ItR)) (e : Int) (sk : SlR) (key : List UInt8) (w : World) (h : StoAt w sb N en tr mp es xs its tds) (ht : StoT w sb mp es T tds pp) (h40 : tds.length ≤ 40) (hK : BS w sk key) (hkm : key.length ≤ maxLen) :
  Calls Tryz.prog 46 #[.pointer (some ⟨sb, 0, none⟩), .int .i64 e, sk.val] w fun r w' => ∃ v' : SlR, r = .returned (.tuple #[v'.val, .int .i64 (prvE pp.length e key : Int)]) ∧ OwnB w' w.heap.size v'.val (prvB pp e key) ∧ Below w.heap.size w w' := by
 obtain ⟨hts, htn⟩ := SlV.ofOwn (s := tr) h.own
 have c2 : w.cell? ⟨sb, 2, none⟩ = some (.slice tr.a tr.n tr.cap) := RowV.cell h.row 2 (by simp)
 have HHS : Hid (Calls _ _ _ _ _) := has_any sb tds.length tr e w c2 htn h40
 have HKF : Hid (Calls _ _ _ _ _) := isKey_any sk.a sk.n sk.cap w (by rw [hK.n]; exact hkm)
 have hkb : (decide (1 ≤ sk.n) && decide (sk.n ≤ 12)) = keyOk key := by rw [hK.n]; rfl
 rw [hkb] at HKF
 have hpl := ht.pl
 rw [← hpl] at HHS
 have htI : (tr.n : Int) ≤ 40 := by omega
 cases he : epochBad pp.length e with
 | true =>
  have HV : Hid (prvE pp.length e key = 4 ∧ prvB pp e key = []) := by
   have : prvE pp.length e key = 4 := by unfold prvE; rw [if_pos he]
   exact ⟨this, by unfold prvB; rw [this]; rfl⟩
  rw [he] at HHS
  clear hts htn hkb h ht hK hpl he
  unfold SlR.val
  go_enter Tryz.func46, Tryz.ntmps46
  go_wp2_with (go_at_call 88; refine HHS.out.mono ?_; rintro r w1 ⟨rfl, hw1⟩; obtain rfl : w = w1 := hw1.symm; clear hw1)
  go_ret2
  exact ⟨⟨none, 0, 0⟩, by rw [HV.out.1]; rfl, by rw [HV.out.2]; exact World.ownsRow_nil _ _ _ _, Below.refl _ _⟩
 | false =>
  rw [he] at HHS
  cases hk : keyOk key with
  | false =>
   have HV : Hid (prvE pp.length e key = 1 ∧ prvB pp e key = []) := by
    have : prvE pp.length e key = 1 := by unfold prvE; rw [if_neg (by rw [he]; decide), if_pos hk]
    exact ⟨this, by unfold prvB; rw [this]; rfl⟩
   rw [hk] at HKF
   clear hts htn hkb h ht hK hpl he hk
   unfold SlR.val
   go_enter Tryz.func46, Tryz.ntmps46
   go_wp2_with (first | (go_at_call 88; refine HHS.out.mono ?_; rintro r w1 ⟨rfl, hw1⟩; obtain rfl : w = w1 := hw1.symm; clear hw1) | (go_at_call 27; refine HKF.out.mono ?_; rintro r w2 ⟨rfl, hw2⟩; obtain rfl : w = w2 := hw2.symm; clear hw2))
   go_ret2
   exact ⟨⟨none, 0, 0⟩, by rw [HV.out.1]; rfl, by rw [HV.out.2]; exact World.ownsRow_nil _ _ _ _, Below.refl _ _⟩
  | true =>
   obtain ⟨k, rfl, hkn⟩ := epoch_in he
   have hkt : k < tds.length := by omega
   obtain ⟨L, ℓ, g1, g2, g3, g4, g5⟩ := ht.tree k hkt
   have HOK : Hid (Calls _ _ _ _ _) := ofKey_any _ g4 L g1 ℓ tds[k] g2 g3 sk key w g5 hK
   have HV : Hid (prvE pp.length (k : Int) key = 0 ∧ prvB pp (k : Int) key = prfB (pastAt pp k) key key) := by
    have : prvE pp.length (k : Int) key = 0 := by unfold prvE; rw [if_neg (by rw [he]; decide), if_neg (by rw [hk]; decide)]
    exact ⟨this, by unfold prvB; rw [this]; rfl⟩
   obtain ⟨b, o, hta, hb, hc⟩ := hts k (by simpa using hkt)
   have c3 : w.cell? ⟨b, o + k, none⟩ = some (.pointer (some ⟨tds[k].b, 0, none⟩)) := by rw [hc]; simp [ptrV]
   have hkI : (k : Int) < tr.n := by omega
   rw [hk] at HKF
   generalize tds[k] = nd at *
   obtain ⟨ta, tn, tc⟩ := tr
   simp only at hta c2 hkI htI
   subst hta
   clear hts htn hkb h ht hK hpl he hk g1 g2 g3 g4 g5 hc
   unfold SlR.val at HOK ⊢
   go_enter Tryz.func46, Tryz.ntmps46
   go_wp2_with (first | (go_at_call 88; refine HHS.out.mono ?_; rintro r w1 ⟨rfl, hw1⟩; obtain rfl : w = w1 := hw1.symm; clear hw1) | (go_at_call 27; refine HKF.out.mono ?_; rintro r w2 ⟨rfl, hw2⟩; obtain rfl : w = w2 := hw2.symm; clear hw2) | (go_at_call 89; refine HOK.out.mono ?_; rintro r w3 ⟨v3, rfl, ho3, hb3⟩))
   go_ret2
   exact ⟨v3, by rw [HV.out.1]; rfl, by rw [HV.out.2]; exact ho3, hb3⟩
set_option maxRecDepth 100000 in
set_option maxHeartbeats 1000000 in
theorem sto_range (sb N : Nat) (en tr : SlR) (mp : Option Nat) (es : List MEn) (xs : List EnP) (its : List ItR) (tds : List Nd) (T : List (List (List Nd))) (pp : List (List ItR)) (e : Int) (sf st : SlR) (fr tu : List UInt8) (w : World) (h : StoAt w sb N en tr mp es xs its tds) (ht : StoT w sb mp es T tds pp) (h40 : tds.length ≤ 40) (hF : BS w sf fr) (hT : BS w st tu) (hfm : fr.length ≤ maxLen) (htm : tu.length ≤ maxLen) :
  Calls Tryz.prog 48 #[.pointer (some ⟨sb, 0, none⟩), .int .i64 e, sf.val, st.val] w fun r w' => ∃ v' : SlR, r = .returned (.tuple #[v'.val, .int .i64 (rngE pp.length e fr tu : Int)]) ∧ OwnB w' w.heap.size v'.val (rngB pp e fr tu) ∧ Below w.heap.size w w' := by
 obtain ⟨hts, htn⟩ := SlV.ofOwn (s := tr) h.own
 have c2 : w.cell? ⟨sb, 2, none⟩ = some (.slice tr.a tr.n tr.cap) := RowV.cell h.row 2 (by simp)
 have HHS : Hid (Calls _ _ _ _ _) := has_any sb tds.length tr e w c2 htn h40
 have HKF : Hid (Calls _ _ _ _ _) := isRange_any sf st fr tu w hF hT hfm htm
 have hpl := ht.pl
 rw [← hpl] at HHS
 have htI : (tr.n : Int) ≤ 40 := by omega
 cases he : epochBad pp.length e with
 | true =>
  have HV : Hid (rngE pp.length e fr tu = 4 ∧ rngB pp e fr tu = []) := by
   have : rngE pp.length e fr tu = 4 := by unfold rngE; rw [if_pos he]
   exact ⟨this, by unfold rngB; rw [this]; rfl⟩
  rw [he] at HHS
  clear hts htn h ht hF hT hpl he
  unfold SlR.val
  go_enter Tryz.func48, Tryz.ntmps48
  go_wp2_with (go_at_call 88; refine HHS.out.mono ?_; rintro r w1 ⟨rfl, hw1⟩; obtain rfl : w = w1 := hw1.symm; clear hw1)
  go_ret2
  exact ⟨⟨none, 0, 0⟩, by rw [HV.out.1]; rfl, by rw [HV.out.2]; exact World.ownsRow_nil _ _ _ _, Below.refl _ _⟩
 | false =>
  rw [he] at HHS
  cases hk : rngOk fr tu with
  | false =>
   have HV : Hid (rngE pp.length e fr tu = 1 ∧ rngB pp e fr tu = []) := by
    have : rngE pp.length e fr tu = 1 := by unfold rngE; rw [if_neg (by rw [he]; decide), if_pos hk]
    exact ⟨this, by unfold rngB; rw [this]; rfl⟩
   rw [hk] at HKF
   clear hts htn h ht hF hT hpl he hk
   unfold SlR.val at HKF ⊢
   go_enter Tryz.func48, Tryz.ntmps48
   go_wp2_with (first | (go_at_call 88; refine HHS.out.mono ?_; rintro r w1 ⟨rfl, hw1⟩; obtain rfl : w = w1 := hw1.symm; clear hw1) | (go_at_call 91; refine HKF.out.mono ?_; rintro r w2 ⟨rfl, hw2⟩; obtain rfl : w = w2 := hw2.symm; clear hw2))
   go_ret2
   exact ⟨⟨none, 0, 0⟩, by rw [HV.out.1]; rfl, by rw [HV.out.2]; exact World.ownsRow_nil _ _ _ _, Below.refl _ _⟩
  | true =>
   obtain ⟨k, rfl, hkn⟩ := epoch_in he
   have hkt : k < tds.length := by omega
   obtain ⟨L, ℓ, g1, g2, g3, g4, g5⟩ := ht.tree k hkt
   have HOK : Hid (Calls _ _ _ _ _) := ofRange_any _ g4 L g1 ℓ tds[k] g2 g3 sf st fr tu w g5 hF hT
   have HV : Hid (rngE pp.length (k : Int) fr tu = 0 ∧ rngB pp (k : Int) fr tu = prfB (pastAt pp k) fr tu) := by
    have : rngE pp.length (k : Int) fr tu = 0 := by unfold rngE; rw [if_neg (by rw [he]; decide), if_neg (by rw [hk]; decide)]
    exact ⟨this, by unfold rngB; rw [this]; rfl⟩
   obtain ⟨b, o, hta, hb, hc⟩ := hts k (by simpa using hkt)
   have c3 : w.cell? ⟨b, o + k, none⟩ = some (.pointer (some ⟨tds[k].b, 0, none⟩)) := by rw [hc]; simp [ptrV]
   have hkI : (k : Int) < tr.n := by omega
   rw [hk] at HKF
   generalize tds[k] = nd at *
   obtain ⟨ta, tn, tc⟩ := tr
   simp only at hta c2 hkI htI
   subst hta
   clear hts htn h ht hF hT hpl he hk g1 g2 g3 g4 g5 hc
   unfold SlR.val at HOK HKF ⊢
   go_enter Tryz.func48, Tryz.ntmps48
   go_wp2_with (first | (go_at_call 88; refine HHS.out.mono ?_; rintro r w1 ⟨rfl, hw1⟩; obtain rfl : w = w1 := hw1.symm; clear hw1) | (go_at_call 91; refine HKF.out.mono ?_; rintro r w2 ⟨rfl, hw2⟩; obtain rfl : w = w2 := hw2.symm; clear hw2) | (go_at_call 92; refine HOK.out.mono ?_; rintro r w3 ⟨v3, rfl, ho3, hb3⟩))
   go_ret2
   exact ⟨v3, by rw [HV.out.1]; rfl, by rw [HV.out.2]; exact ho3, hb3⟩
end Go.Proofs.YtekegfbjbainhaaGreat


namespace Go.Proofs.YtekegfbjbainhaaGreat
open Go.RowKit
attribute [local go_sem ↓] Go.wp_at_zero Go.wp_at_succ
def pkE : Ending := .panicked [{ v := .iface 166 (.agg #[]), recovered := false }]
set_option maxRecDepth 100000 in
theorem must_yes (w : World) : Calls Tryz.prog 132 #[.bool true] w fun e w' => e = .returned (.tuple #[]) ∧ w' = w := by
 go_enter Tryz.func132, Tryz.ntmps132
 go_wp2
 go_returns
 exact ⟨rfl, rfl⟩
set_option maxRecDepth 100000 in
theorem must_no (w : World) : Calls Tryz.prog 132 #[.bool false] w fun e w' => e = pkE ∧ w' = w := by
 go_enter Tryz.func132, Tryz.ntmps132
 go_wp2
 exact ⟨rfl, rfl, rfl⟩
def RdP (w : World) (K : Nat → Prop) (rb : Nat) (l : List UInt8) : Prop := ∃ s : SlR, RowV w rb 168 [s.val] ∧ SubS w K s l ∧ ¬ K rb
theorem RdP.lt {w : World} {K : Nat → Prop} {rb : Nat} {l : List UInt8} (h : RdP w K rb l) : rb < w.heap.size := by obtain ⟨s, h, _⟩ := h; exact RowV.lt h
theorem RdP.frame {w w' : World} {S K : Nat → Prop} {rb : Nat} {l : List UInt8} (h : RdP w K rb l) (hf : Frame S w w') (h1 : ¬ S rb) (h2 : ∀ k, K k → ¬ S k) : RdP w' K rb l := by
 obtain ⟨s, h, hs, ho⟩ := h
 exact ⟨s, RowV.of_block h (hf.block _ (RowV.lt h) h1), hs.frame hf h2, ho⟩
theorem RdP.below {w w' : World} {K : Nat → Prop} {rb : Nat} {l : List UInt8} (h : RdP w K rb l) (hf : Below w.heap.size w w') : RdP w' K rb l := h.frame (Frame.of_below_all (S := fun _ => False) hf) (fun e => e) (fun _ _ e => e)
theorem RdP.rowNe {w : World} {K : Nat → Prop} {rb b : Nat} {o : List UInt8} {t : Nat} {l : List Value} (h : RdP w K rb o) (h' : RowV w b t l) (hne : t ≠ 168) : b ≠ rb := by
 obtain ⟨s, h, _⟩ := h
 exact rowV_ne h' h hne
theorem RdP.ownNe {w : World} {K : Nat → Prop} {rb base e size n : Nat} {v : Value} {xs : List Value} {o : List UInt8} (h : RdP w K rb o) (h' : w.ownsRow base e size v n xs) (hne : e ≠ 168) : v.ownBlock ≠ some rb := by
 obtain ⟨s, h, _⟩ := h
 exact owns_ne h' h hne
set_option maxRecDepth 100000 in
set_option maxHeartbeats 1000000 in
theorem take_yes (K : Nat → Prop) (rb n : Nat) (l : List UInt8) (w : World) (h : RdP w K rb l) (hn : n ≤ l.length) :
  Calls Tryz.prog 133 #[.pointer (some ⟨rb, 0, none⟩), .int .i64 (n : Int)] w fun e w' => ∃ s' : SlR, e = .returned s'.val ∧ Frame (fun k => k = rb) w w' ∧ w'.heap.size = w.heap.size ∧ SubS w' K s' (l.take n) ∧ s'.cap = n ∧ RdP w' K rb (l.drop n) := by
 obtain ⟨s, hrow, hs, hko⟩ := h
 have r0 : w.cell? ⟨rb, 0, none⟩ = some (.slice s.a s.n s.cap) := RowV.cell hrow 0 (by simp)
 have fz0 := hrow.frozen 0
 have hsn := hs.bs.n
 have hnI : (n : Int) ≤ s.n := by omega
 have hnC : n ≤ s.cap := by have := hs.cap; omega
 have HI : Hid ((Tryz.prog.info? 5).map (·.size) = some 1) := by unfold Hid; kernel_rfl
 have HRW : Hid (RowV w rb 168 [s.val]) := hrow
 have HS : Hid (SubS w K s l) := hs
 have HKO : Hid (¬ K rb) := hko
 have HL : Hid (n ≤ l.length) := hn
 have hlo : n ≤ s.n := by omega
 have hsc : s.n ≤ s.cap := hs.cap
 clear hrow hs hko hn hsn
 go_enter Tryz.func133, Tryz.ntmps133
 go_wp2_with (first
  | (go_at_call 132; refine (must_yes _).mono ?_; rintro e w1 ⟨rfl, hw1⟩; obtain rfl : w = w1 := hw1.symm; clear hw1)
  | (refine wp_sliceLo (by rfl) 38 5 (.tmp 25) (.tmp 26) (by rfl) s.a s.n s.cap n 1 (by rfl) (by rfl) Tryz.underlying38 HI.out hlo hsc ?_))
 go_ret
 have hf : Frame (fun k => k = rb) w (w.setCell ⟨rb, 0, none⟩ (.slice (cutS s.a s.cap n 1) (s.n - n) (s.cap - n))) := (Frame.refl (fun k => k = rb) _).setCell (p := ⟨rb, 0, none⟩) rfl _
 have ht := HS.out.take n HL.out
 have ht2 : SubS w K ⟨s.a, n, n⟩ (l.take n) := ⟨⟨ht.bs.sl, ht.bs.n, fun e => by have := ht.bs.nil e; have : s.cap = 0 := this; show n = 0; omega, ht.bs.lt⟩, Nat.le_refl _, ht.k⟩
 refine ⟨⟨s.a, n, n⟩, rfl, hf, by simp, ht2.frame hf (fun k hk e => HKO.out (e ▸ hk)), rfl, ⟨cutS s.a s.cap n 1, s.n - n, s.cap - n⟩, by have h := RowV.set HRW.out 0 (SlR.val ⟨cutS s.a s.cap n 1, s.n - n, s.cap - n⟩); simpa [SlR.val] using h, (HS.out.drop n HL.out).frame hf (fun k hk e => HKO.out (e ▸ hk)), HKO.out⟩
set_option maxRecDepth 100000 in
set_option maxHeartbeats 1000000 in
theorem take_no (K : Nat → Prop) (rb n : Nat) (l : List UInt8) (w : World) (h : RdP w K rb l) (hn : ¬ n ≤ l.length) :
  Calls Tryz.prog 133 #[.pointer (some ⟨rb, 0, none⟩), .int .i64 (n : Int)] w fun e w' => e = pkE ∧ w' = w := by
 obtain ⟨s, hrow, hs, hko⟩ := h
 have r0 : w.cell? ⟨rb, 0, none⟩ = some (.slice s.a s.n s.cap) := RowV.cell hrow 0 (by simp)
 have hsn := hs.bs.n
 have hnI : ¬ (n : Int) ≤ s.n := by omega
 clear hrow hs hko hn hsn
 go_enter Tryz.func133, Tryz.ntmps133
 go_wp2_with (go_at_call 132; refine (must_no _).mono ?_; rintro e w1 ⟨rfl, hw1⟩; obtain rfl : w = w1 := hw1.symm; clear hw1; unfold pkE)
 exact ⟨rfl, rfl, rfl⟩
set_option maxRecDepth 100000 in
set_option maxHeartbeats 1000000 in
theorem number_yes (K : Nat → Prop) (rb : Nat) (x : UInt8) (l : List UInt8) (w : World) (h : RdP w K rb (x :: l)) :
  Calls Tryz.prog 148 #[.pointer (some ⟨rb, 0, none⟩)] w fun e w' => e = .returned (.int .i64 (x.toNat : Int)) ∧ Frame (fun k => k = rb) w w' ∧ w'.heap.size = w.heap.size ∧ RdP w' K rb l := by
 have HT : Hid (Calls _ _ _ _ _) := take_yes K rb 1 (x :: l) w h (by simp)
 clear h
 go_enter Tryz.func148, Tryz.ntmps148
 go_wp2_with fail
 refine HT.out.mono ?_
 rintro e w1 ⟨s', rfl, hf, hz, hs, hc, hr⟩
 obtain ⟨b, o, ha, hb, hcell⟩ := hs.bs.sl 0 (by simp)
 have hn1 : s'.n = 1 := by have := hs.bs.n; simpa using this
 have HR : Hid (RdP w1 K rb l) := hr
 obtain ⟨sa, sn, sc⟩ := s'
 simp only at ha hn1
 subst ha; subst hn1
 have hxl := x.toNat_lt
 have hw := wrap64_toNat8 x
 simp only [Nat.add_zero] at hcell
 have hcell' : w1.cell? ⟨b, o, none⟩ = some (.int .u8 (x.toNat : Int)) := by rw [hcell]; rfl
 clear hcell hs hr
 unfold SlR.val
 go_wp2
 go_ret
 exact ⟨by first | rfl | (simp [hw]), hf, hz, HR.out⟩
set_option maxRecDepth 100000 in
set_option maxHeartbeats 1000000 in
theorem number_no (K : Nat → Prop) (rb : Nat) (w : World) (h : RdP w K rb []) :
  Calls Tryz.prog 148 #[.pointer (some ⟨rb, 0, none⟩)] w fun e w' => e = pkE ∧ w' = w := by
 have HT : Hid (Calls _ _ _ _ _) := take_no K rb 1 [] w h (by simp)
 clear h
 go_enter Tryz.func148, Tryz.ntmps148
 go_wp2_with fail
 refine HT.out.mono ?_
 rintro e w1 ⟨rfl, rfl⟩
 unfold pkE
 go_wp2
 exact ⟨rfl, rfl, rfl⟩
end Go.Proofs.YtekegfbjbainhaaGreat


namespace Go.Proofs.YtekegfbjbainhaaGreat
open Go.RowKit
attribute [local go_sem ↓] Go.wp_at_zero Go.wp_at_succ
def cntPost (w : World) (K : Nat → Prop) (rb : Nat) (b : List UInt8) (o : Option (List UInt8)) (e : Ending) (w' : World) : Prop :=
 Frame (fun k => k = rb) w w' ∧ w'.heap.size = w.heap.size ∧ match o with
  | none => e = pkE
  | some r => ∃ s' : SlR, e = .returned s'.val ∧ SubS w' K s' b ∧ RdP w' K rb r
theorem takeP_any (K : Nat → Prop) (rb n : Nat) (l : List UInt8) (w : World) (h : RdP w K rb l) :
  Calls Tryz.prog 133 #[.pointer (some ⟨rb, 0, none⟩), .int .i64 (n : Int)] w (cntPost w K rb (takeB n (some l)) (takeR n (some l))) := by
 by_cases hn : n ≤ l.length
 ·refine (take_yes K rb n l w h hn).mono ?_
  rintro e w' ⟨s', rfl, hf, hz, hs, hc, hr⟩
  have e1 : takeB n (some l) = l.take n := by show (if n ≤ l.length then l.take n else []) = _; rw [if_pos hn]
  have e2 : takeR n (some l) = some (l.drop n) := by show (if n ≤ l.length then some (l.drop n) else none) = _; rw [if_pos hn]
  rw [e1, e2]
  exact ⟨hf, hz, s', rfl, hs, hr⟩
 ·refine (take_no K rb n l w h hn).mono ?_
  rintro e w' ⟨rfl, rfl⟩
  have e2 : takeR n (some l) = none := by show (if n ≤ l.length then some (l.drop n) else none) = _; rw [if_neg hn]
  rw [e2]
  exact ⟨Frame.refl _ _, rfl, rfl⟩
theorem numberP_any (K : Nat → Prop) (rb : Nat) (l : List UInt8) (w : World) (h : RdP w K rb l) :
  Calls Tryz.prog 148 #[.pointer (some ⟨rb, 0, none⟩)] w fun e w' => Frame (fun k => k = rb) w w' ∧ w'.heap.size = w.heap.size ∧ match takeR 1 (some l) with
   | none => e = pkE
   | some r => e = .returned (.int .i64 (oneV (some l) : Int)) ∧ RdP w' K rb r := by
 cases l with
 | nil =>
  refine (number_no K rb w h).mono ?_
  rintro e w' ⟨rfl, rfl⟩
  exact ⟨Frame.refl _ _, rfl, rfl⟩
 | cons x l =>
  refine (number_yes K rb x l w h).mono ?_
  rintro e w' ⟨rfl, hf, hz, hr⟩
  have e2 : takeR 1 (some (x :: l)) = some l := by show (if 1 ≤ (x :: l).length then some ((x :: l).drop 1) else none) = _; rw [if_pos (by simp)]; rfl
  rw [e2]
  exact ⟨hf, hz, rfl, hr⟩
set_option maxRecDepth 100000 in
set_option maxHeartbeats 1000000 in
theorem countedP_any (K : Nat → Prop) (rb : Nat) (l : List UInt8) (w : World) (h : RdP w K rb l) :
  Calls Tryz.prog 159 #[.pointer (some ⟨rb, 0, none⟩)] w (cntPost w K rb (takeB (oneV (some l)) (takeR 1 (some l))) (takeR (oneV (some l)) (takeR 1 (some l)))) := by
 have HN : Hid (Calls _ _ _ _ _) := numberP_any K rb l w h
 clear h
 go_enter Tryz.func159, Tryz.ntmps159
 go_wp2_with fail
 refine HN.out.mono ?_
 rintro e w1 ⟨hf1, hz1, hm⟩
 cases h1 : takeR 1 (some l) with
 | none =>
  rw [h1] at hm
  obtain rfl : e = pkE := hm
  unfold pkE
  go_wp2
  exact ⟨rfl, hf1, hz1, rfl⟩
 | some r =>
  rw [h1] at hm
  obtain ⟨rfl, hr⟩ := hm
  have HT : Hid (Calls _ _ _ _ _) := takeP_any K rb (oneV (some l)) r w1 hr
  have HF : Hid (Frame (fun k => k = rb) w w1) := hf1
  have HZ : Hid (w1.heap.size = w.heap.size) := hz1
  have H1 : Hid (takeR 1 (some l) = some r) := h1
  clear HN hf1 hz1 hr h1
  generalize oneV (some l) = n at *
  go_wp2_with fail
  refine HT.out.mono ?_
  rintro e w2 ⟨hf2, hz2, hm⟩
  have HF2 : Hid (Frame (fun k => k = rb) w w2) := HF.out.trans hf2
  have HZ2 : Hid (w2.heap.size = w.heap.size) := by unfold Hid; rw [hz2]; exact HZ.out
  cases h2 : takeR n (some r) with
  | none =>
   rw [h2] at hm
   obtain rfl : e = pkE := hm
   unfold pkE
   go_wp2
   refine ⟨rfl, HF2.out, HZ2.out, ?_⟩
   rw [H1.out, h2]; rfl
  | some r2 =>
   rw [h2] at hm
   obtain ⟨s', rfl, hs, hr⟩ := hm
   unfold SlR.val
   go_wp2
   go_ret
   refine ⟨HF2.out, HZ2.out, ?_⟩
   rw [H1.out, h2]
   exact ⟨s', rfl, hs, hr⟩
set_option maxRecDepth 100000 in
set_option maxHeartbeats 1000000 in
theorem endP_any (K : Nat → Prop) (rb : Nat) (l : List UInt8) (w : World) (h : RdP w K rb l) :
  Calls Tryz.prog 105 #[.pointer (some ⟨rb, 0, none⟩)] w fun e w' => w' = w ∧ e = if l = [] then .returned (.tuple #[]) else pkE := by
 obtain ⟨s, hrow, hs, hko⟩ := h
 have r0 : w.cell? ⟨rb, 0, none⟩ = some (.slice s.a s.n s.cap) := RowV.cell hrow 0 (by simp)
 have hsn := hs.bs.n
 clear hrow hs hko
 by_cases hl : l = []
 ·rw [if_pos hl]
  have hz : (s.n : Int) = 0 := by rw [hsn, hl]; rfl
  have hzN : s.n = 0 := by omega
  clear hsn hl
  go_enter Tryz.func105, Tryz.ntmps105
  go_wp2_with (go_at_call 132; refine (must_yes _).mono ?_; rintro e w1 ⟨rfl, hw1⟩; obtain rfl : w = w1 := hw1.symm; clear hw1)
  go_returns
  exact ⟨rfl, rfl⟩
 ·rw [if_neg hl]
  have hz : ((s.n : Int) == 0) = false := by
   have : s.n ≠ 0 := fun e => hl (List.length_eq_zero_iff.1 (by omega))
   simp; omega
  clear hsn hl
  go_enter Tryz.func105, Tryz.ntmps105
  go_wp2_with (go_at_call 132; refine (must_no _).mono ?_; rintro e w1 ⟨rfl, hw1⟩; obtain rfl : w = w1 := hw1.symm; clear hw1; unfold pkE)
  exact ⟨rfl, rfl, rfl⟩
end Go.Proofs.YtekegfbjbainhaaGreat


namespace Go.Proofs.YtekegfbjbainhaaGreat
open Go.RowKit
attribute [local go_sem ↓] Go.wp_at_zero Go.wp_at_succ
def entX (lv : Nat) (l : List UInt8) : Option ((List UInt8 × List UInt8) × List UInt8) :=
 match entR lv (some l) with
 | none => none
 | some r => if 1 ≤ oneV (some l) ∧ oneV (some l) ≤ 12 ∧ (lv = 0 → oneV (entO (some l)) ≤ 12) then some ((entK (some l), entM lv (some l)), r) else none
structure EnRd (lv : Nat) (w : World) (K : Nat → Prop) (x : EnP) (key more : List UInt8) : Prop where
 d8 : x.d.length = 8
 key : SubS w K x.k key
 low : lv = 0 → SubS w K x.v more ∧ x.d = zero8
 high : lv ≠ 0 → x.v = ⟨none, 0, 0⟩ ∧ x.d = more
def enPost (w : World) (K : Nat → Prop) (rb lv : Nat) (o : Option ((List UInt8 × List UInt8) × List UInt8)) (e : Ending) (w' : World) : Prop :=
 Frame (fun k => k = rb) w w' ∧ match o with
  | none => e = pkE
  | some ((key, more), r) => ∃ x : EnP, e = .returned (.agg (enC x).toArray) ∧ EnRd lv w' K x key more ∧ RdP w' K rb r
def zeroEn : List Value := [.slice none 0 0, .slice none 0 0, .int .u8 0, .int .u8 0, .int .u8 0, .int .u8 0, .int .u8 0, .int .u8 0, .int .u8 0, .int .u8 0]
theorem run_arrayAt8 (w : World) (a : Option Addr) (c : Nat) : (Instr.arrayAt 36 (.slice a 8 c)).run Tryz.prog w = .ok (.pointer a) w := by
 simp [Instr.arrayAt, run_underlying Tryz.underlying36]
theorem en_fin {w W : World} {K : Nat → Prop} {rb : Nat} {l : List UInt8} {x : EnP} (hQ : RowV W w.heap.size 74 zeroEn) (hF : Frame (fun k => k = rb) w W) (hr : RdP W K rb l) (hrb : rb < w.heap.size) (hK : ∀ k, K k → k < w.heap.size) (hx : x.d.length = 8) (w' : World) (h' : RowV w' w.heap.size 74 (enC x)) (hf : Frame (fun k => k = w.heap.size) W w') :
  Frame (fun k => k = rb) w w' ∧ RdP w' K rb l := ⟨hF.inside hf (fun x hx e => by omega), hr.frame hf (by omega) (fun k hk => by have := hK k hk; omega)⟩
set_option maxRecDepth 100000 in
set_option maxHeartbeats 2000000 in
theorem entryP_any (K : Nat → Prop) (rb lv : Nat) (l : List UInt8) (w : World) (h : RdP w K rb l) (hK : ∀ k, K k → k < w.heap.size) (hlv : lv ≤ 6) :
  Calls Tryz.prog 149 #[.pointer (some ⟨rb, 0, none⟩), .int .i64 (lv : Int)] w (enPost w K rb lv (entX lv l)) := by
 have hA : Below w.heap.size w (w.alloc (.cells zeroEn.toArray 74)) := (Below.refl _ _).alloc (Nat.le_refl _) _
 have HCO : Hid (Calls _ _ _ _ _) := countedP_any K rb l _ (h.below hA)
 have HF0 : Hid (Frame (fun k => k = rb) w (w.alloc (.cells zeroEn.toArray 74))) := Frame.of_below_all hA
 have HQ0 : Hid (RowV (w.alloc (.cells zeroEn.toArray 74)) w.heap.size 74 zeroEn) := RowV.new w _ _
 have HK : Hid (∀ k, K k → k < w.heap.size) := hK
 have hrb := h.lt
 clear hA h hK
 unfold zeroEn at HCO HF0 HQ0
 go_enter Tryz.func149, Tryz.ntmps149
 go_wp2_with fail
 refine HCO.out.mono ?_
 rintro e w1 ⟨hf1, hz1, hm⟩
 have HF1 : Hid (Frame (fun k => k = rb) w w1) := HF0.out.trans hf1
 have HQ1 : Hid (RowV w1 w.heap.size 74 zeroEn) := RowV.of_block HQ0.out (hf1.block _ HQ0.out.lt (by omega))
 have HEO : Hid (entO (some l) = takeR (oneV (some l)) (takeR 1 (some l))) := rfl
 have HEK : Hid (entK (some l) = takeB (oneV (some l)) (takeR 1 (some l))) := rfl
 cases h1 : takeR (oneV (some l)) (takeR 1 (some l)) with
 | none =>
  rw [h1] at hm
  obtain rfl : e = pkE := hm
  have HX : Hid (entX lv l = none) := by
   unfold Hid entX
   have : entR lv (some l) = none := by unfold entR; rw [HEO.out, h1]; split <;> rfl
   rw [this]
  unfold pkE
  go_wp2
  refine ⟨rfl, HF1.out, ?_⟩
  rw [HX.out]; rfl
 | some l2 =>
  rw [h1] at hm
  obtain ⟨s1, rfl, hs1, hr1⟩ := hm
  have hk1 := takeB_some h1
  have HN1 : Hid (s1.n = oneV (some l)) := by unfold Hid; rw [hs1.bs.n, hk1]
  have HO2 : Hid (entO (some l) = some l2) := by unfold Hid; rw [HEO.out, h1]
  have hone := oneV_lt (some l)
  have HS1 : Hid (SubS w1 K s1 (entK (some l))) := by unfold Hid; rw [HEK.out]; exact hs1
  have HR1 : Hid (RdP w1 K rb l2) := hr1
  have HIK : Hid (∀ W, Calls Tryz.prog 27 #[.slice s1.a s1.n s1.cap] W fun e w' => e = .returned (.bool (decide (1 ≤ s1.n) && decide (s1.n ≤ 12))) ∧ w' = W) := fun W => isKey_any s1.a s1.n s1.cap W (by have := HN1.out; unfold maxLen; omega)
  clear hs1 hr1 hk1 h1 HEO HEK HCO hf1 hz1 HF0 HQ0
  unfold SlR.val
  go_upto_region 2 with fail
  have hbe : Below w1.heap.size w1 (w1.alloc (.cells #[.slice s1.a s1.n s1.cap, .slice none 0 0, .int .u8 0, .int .u8 0, .int .u8 0, .int .u8 0, .int .u8 0, .int .u8 0, .int .u8 0, .int .u8 0] 74)) := (Below.refl _ _).alloc (Nat.le_refl _) _
  have HF2 : Hid (Frame (fun k => k = rb) w (w1.alloc (.cells #[.slice s1.a s1.n s1.cap, .slice none 0 0, .int .u8 0, .int .u8 0, .int .u8 0, .int .u8 0, .int .u8 0, .int .u8 0, .int .u8 0, .int .u8 0] 74))) := HF1.out.trans (Frame.of_below_all hbe)
  have HQ2 : Hid (RowV (w1.alloc (.cells #[.slice s1.a s1.n s1.cap, .slice none 0 0, .int .u8 0, .int .u8 0, .int .u8 0, .int .u8 0, .int .u8 0, .int .u8 0, .int .u8 0, .int .u8 0] 74)) w.heap.size 74 zeroEn) := RowV.below HQ1.out HQ1.out.lt hbe
  have HS2 : Hid (SubS (w1.alloc (.cells #[.slice s1.a s1.n s1.cap, .slice none 0 0, .int .u8 0, .int .u8 0, .int .u8 0, .int .u8 0, .int .u8 0, .int .u8 0, .int .u8 0, .int .u8 0] 74)) K s1 (entK (some l))) := HS1.out.below hbe
  have HR2 : Hid (RdP (w1.alloc (.cells #[.slice s1.a s1.n s1.cap, .slice none 0 0, .int .u8 0, .int .u8 0, .int .u8 0, .int .u8 0, .int .u8 0, .int .u8 0, .int .u8 0, .int .u8 0] 74)) K rb l2) := HR1.out.below hbe
  have HE2 : Hid (RowV (w1.alloc (.cells #[.slice s1.a s1.n s1.cap, .slice none 0 0, .int .u8 0, .int .u8 0, .int .u8 0, .int .u8 0, .int .u8 0, .int .u8 0, .int .u8 0, .int .u8 0] 74)) w1.heap.size 74 [.slice s1.a s1.n s1.cap, .slice none 0 0, .int .u8 0, .int .u8 0, .int .u8 0, .int .u8 0, .int .u8 0, .int .u8 0, .int .u8 0, .int .u8 0]) := RowV.new w1 _ _
  have hnw : w.heap.size < w1.heap.size := HQ1.out.lt
  clear hbe HF1 HQ1 HS1 HR1
  generalize w1.alloc (.cells #[.slice s1.a s1.n s1.cap, .slice none 0 0, .int .u8 0, .int .u8 0, .int .u8 0, .int .u8 0, .int .u8 0, .int .u8 0, .int .u8 0, .int .u8 0] 74) = W at *
  generalize w1.heap.size = eb at *
  have e0 := HE2.out.cell 0 (by simp)
  simp only [List.getElem_cons_zero] at e0
  cases hkk : (decide (1 ≤ s1.n) && decide (s1.n ≤ 12)) with
  | false =>
   have HX : Hid (entX lv l = none) := by
    unfold Hid entX
    have hno : ¬ (1 ≤ oneV (some l) ∧ oneV (some l) ≤ 12 ∧ (lv = 0 → oneV (entO (some l)) ≤ 12)) := fun ⟨g1, g2, _⟩ => by
     rw [← HN1.out] at g1 g2
     have : (decide (1 ≤ s1.n) && decide (s1.n ≤ 12)) = true := by simp [g1, g2]
     rw [this] at hkk; cases hkk
    cases entR lv (some l) with
    | none => rfl
    | some r => simp only [if_neg hno]
   rw [hkk] at HIK
   go_wp2_with (first
    | (go_at_call 27; refine (HIK.out _).mono ?_; rintro e w2 ⟨rfl, hw2⟩; obtain rfl : W = w2 := hw2.symm; clear hw2)
    | (go_at_call 132; refine (must_no _).mono ?_; rintro e w2 ⟨rfl, hw2⟩; obtain rfl : W = w2 := hw2.symm; clear hw2; unfold pkE))
   refine ⟨rfl, HF2.out, ?_⟩
   rw [HX.out]; rfl
  | true =>
   rw [hkk] at HIK
   have HKL : Hid (1 ≤ oneV (some l) ∧ oneV (some l) ≤ 12) := by
    unfold Hid; rw [← HN1.out]
    simp only [Bool.and_eq_true, decide_eq_true_eq] at hkk
    exact hkk
   clear hkk
   by_cases hl0 : lv = 0
   ·subst hl0
    have HCV : Hid (Calls _ _ _ _ _) := countedP_any K rb l2 W HR2.out
    go_wp2_with (first
     | (go_at_call 27; refine (HIK.out _).mono ?_; rintro e w2 ⟨rfl, hw2⟩; obtain rfl : W = w2 := hw2.symm; clear hw2)
     | (go_at_call 132; refine (must_yes _).mono ?_; rintro e w2 ⟨rfl, hw2⟩; obtain rfl : W = w2 := hw2.symm; clear hw2))
    refine HCV.out.mono ?_
    rintro e w3 ⟨hf3, hz3, hm⟩
    have HF3 : Hid (Frame (fun k => k = rb) w w3) := HF2.out.trans hf3
    have HQ3 : Hid (RowV w3 w.heap.size 74 zeroEn) := RowV.of_block HQ2.out (hf3.block _ HQ2.out.lt (by omega))
    have HE3 : Hid (RowV w3 eb 74 [.slice s1.a s1.n s1.cap, .slice none 0 0, .int .u8 0, .int .u8 0, .int .u8 0, .int .u8 0, .int .u8 0, .int .u8 0, .int .u8 0, .int .u8 0]) := RowV.of_block HE2.out (hf3.block _ HE2.out.lt (by omega))
    have HS3 : Hid (SubS w3 K s1 (entK (some l))) := HS2.out.frame hf3 (fun k hk e => by subst e; obtain ⟨_, _, _, ho⟩ := HR2.out; exact ho hk)
    have HER : Hid (entR 0 (some l) = takeR (oneV (some l2)) (takeR 1 (some l2))) := by unfold Hid entR; rw [if_pos rfl, HO2.out]
    have HEM : Hid (entM 0 (some l) = takeB (oneV (some l2)) (takeR 1 (some l2))) := by unfold Hid entM; rw [if_pos rfl, HO2.out]
    have hov := oneV_lt (some l2)
    cases h3 : takeR (oneV (some l2)) (takeR 1 (some l2)) with
    | none =>
     rw [h3] at hm
     obtain rfl : e = pkE := hm
     have HX : Hid (entX 0 l = none) := by unfold Hid entX; rw [HER.out, h3]
     unfold pkE
     go_wp2
     refine ⟨rfl, HF3.out, ?_⟩
     rw [HX.out]; rfl
    | some r =>
     rw [h3] at hm
     obtain ⟨s3, rfl, hs3, hr3⟩ := hm
     have HN3 : Hid (s3.n = oneV (some l2)) := by unfold Hid; rw [hs3.bs.n, takeB_some h3]
     have HV3 : Hid (SubS w3 K s3 (entM 0 (some l))) := by unfold Hid; rw [HEM.out]; exact hs3
     have HR3 : Hid (RdP w3 K rb r) := hr3
     have HXR : Hid (entR 0 (some l) = some r) := by unfold Hid; rw [HER.out, h3]
     have hft := (Frame.refl (fun k => k = eb) w3).setCell (p := ⟨eb, 1, none⟩) rfl (.slice s3.a s3.n s3.cap)
     have HE4 : Hid (RowV (w3.setCell ⟨eb, 1, none⟩ (.slice s3.a s3.n s3.cap)) eb 74 [.slice s1.a s1.n s1.cap, .slice s3.a s3.n s3.cap, .int .u8 0, .int .u8 0, .int .u8 0, .int .u8 0, .int .u8 0, .int .u8 0, .int .u8 0, .int .u8 0]) := by unfold Hid; simpa using RowV.set HE3.out 1 (.slice s3.a s3.n s3.cap)
     have HF4 : Hid (Frame (fun k => k = rb) w (w3.setCell ⟨eb, 1, none⟩ (.slice s3.a s3.n s3.cap))) := HF3.out.inside hft (fun x hx e => by omega)
     have HQ4 : Hid (RowV (w3.setCell ⟨eb, 1, none⟩ (.slice s3.a s3.n s3.cap)) w.heap.size 74 zeroEn) := RowV.of_block HQ3.out (hft.block _ HQ3.out.lt (by omega))
     have hkeb : ∀ k, K k → ¬ k = eb := fun k hk e => by have := HK.out k hk; omega
     have HS4 : Hid (SubS (w3.setCell ⟨eb, 1, none⟩ (.slice s3.a s3.n s3.cap)) K s1 (entK (some l))) := HS3.out.frame hft hkeb
     have HV4 : Hid (SubS (w3.setCell ⟨eb, 1, none⟩ (.slice s3.a s3.n s3.cap)) K s3 (entM 0 (some l))) := HV3.out.frame hft hkeb
     have HR4 : Hid (RdP (w3.setCell ⟨eb, 1, none⟩ (.slice s3.a s3.n s3.cap)) K rb r) := HR3.out.frame hft (by omega) hkeb
     have HIV : Hid (∀ W, Calls Tryz.prog 78 #[.slice s3.a s3.n s3.cap] W fun e w' => e = .returned (.bool (decide (s3.n ≤ 12))) ∧ w' = W) := fun W => isValue_any s3.a s3.n s3.cap W (by have := HN3.out; unfold maxLen; omega)
     have e1 := HE3.out.cell 1 (by simp)
     have fe1 := HE3.out.frozen 1
     simp only [List.getElem_cons_zero, List.getElem_cons_succ] at e1
     clear hft hs3 hr3 h3 HS3 HV3 HR3 HF3 HQ3 HE2 HF2 HQ2 HS2 HR2 hf3 hz3 e0 HCV hkeb
     unfold SlR.val
     go_upto_region 5 with fail
     generalize w3.setCell ⟨eb, 1, none⟩ (.slice s3.a s3.n s3.cap) = W4 at *
     have e1 := HE4.out.cell 1 (by simp)
     simp only [List.getElem_cons_zero, List.getElem_cons_succ] at e1
     by_cases hv12 : s3.n ≤ 12
     ·have HX : Hid (entX 0 l = some ((entK (some l), entM 0 (some l)), r)) := by
       unfold Hid entX; rw [HXR.out]
       simp only
       rw [if_pos ⟨HKL.out.1, HKL.out.2, fun _ => by rw [HO2.out, ← HN3.out]; exact hv12⟩]
      have hvd : decide (s3.n ≤ 12) = true := by simp [hv12]
      rw [hvd] at HIV
      go_wp2_with (first
       | (go_at_call 78; refine (HIV.out _).mono ?_; rintro e w5 ⟨rfl, hw5⟩; obtain rfl : W4 = w5 := hw5.symm; clear hw5)
       | (go_at_call 132; refine (must_yes _).mono ?_; rintro e w5 ⟨rfl, hw5⟩; obtain rfl : W4 = w5 := hw5.symm; clear hw5)
       | (refine wpList_load_mid (by rfl) 74 (.tmp 5) (by rfl) eb 0 (by rfl) [.slice s1.a s1.n s1.cap, .slice s3.a s3.n s3.cap, .int .u8 0, .int .u8 0, .int .u8 0, .int .u8 0, .int .u8 0, .int .u8 0, .int .u8 0, .int .u8 0] _ HE4.out.range Tryz.underlying74 rfl Tryz.sizeEntryB ?_)
       | (refine wp_storeR (by rfl) 74 (.tmp 4) (.tmp 27) (by rfl) w.heap.size (by rfl) [.slice s1.a s1.n s1.cap, .slice s3.a s3.n s3.cap, .int .u8 0, .int .u8 0, .int .u8 0, .int .u8 0, .int .u8 0, .int .u8 0, .int .u8 0, .int .u8 0] (by rfl) HQ4.out rfl Tryz.sizeEntryB (enC_one ⟨s1, s3, zero8⟩) ?_; intro w6 hr6 hf6 hz6))
      obtain ⟨q1, q2⟩ := en_fin (x := ⟨s1, s3, zero8⟩) HQ4.out HF4.out HR4.out hrb HK.out rfl w6 hr6 hf6
      refine ret_agg (k := 4) (cs := [.slice s1.a s1.n s1.cap, .slice s3.a s3.n s3.cap, .int .u8 0, .int .u8 0, .int .u8 0, .int .u8 0, .int .u8 0, .int .u8 0, .int .u8 0, .int .u8 0]) rfl rfl hr6 Tryz.underlying74 rfl Tryz.sizeEntryB rfl ⟨q1, ?_⟩
      rw [HX.out]
      have hk6 : ∀ k, K k → ¬ k = w.heap.size := fun k hk e => by have := HK.out k hk; omega
      exact ⟨⟨s1, s3, zero8⟩, rfl, ⟨rfl, HS4.out.frame hf6 hk6, fun _ => ⟨HV4.out.frame hf6 hk6, rfl⟩, fun e => absurd rfl e⟩, q2⟩
     ·have HX : Hid (entX 0 l = none) := by
       unfold Hid entX; rw [HXR.out]
       simp only
       rw [if_neg (fun ⟨_, _, g⟩ => hv12 (by have := g trivial; rw [HO2.out, ← HN3.out] at this; exact this))]
      have hvd : decide (s3.n ≤ 12) = false := by simp; omega
      rw [hvd] at HIV
      go_wp2_with (first
       | (go_at_call 78; refine (HIV.out _).mono ?_; rintro e w5 ⟨rfl, hw5⟩; obtain rfl : W4 = w5 := hw5.symm; clear hw5)
       | (go_at_call 132; refine (must_no _).mono ?_; rintro e w5 ⟨rfl, hw5⟩; obtain rfl : W4 = w5 := hw5.symm; clear hw5; unfold pkE))
      refine ⟨rfl, HF4.out, ?_⟩
      rw [HX.out]; rfl
   ·have hl0e : ((lv : Int) == 0) = false := by simp; omega
    have HTK : Hid (Calls _ _ _ _ _) := takeP_any K rb 8 l2 W HR2.out
    go_wp2_with (first
     | (go_at_call 27; refine (HIK.out _).mono ?_; rintro e w2 ⟨rfl, hw2⟩; obtain rfl : W = w2 := hw2.symm; clear hw2)
     | (go_at_call 132; refine (must_yes _).mono ?_; rintro e w2 ⟨rfl, hw2⟩; obtain rfl : W = w2 := hw2.symm; clear hw2))
    refine HTK.out.mono ?_
    rintro e w3 ⟨hf3, hz3, hm⟩
    have HF3 : Hid (Frame (fun k => k = rb) w w3) := HF2.out.trans hf3
    have HQ3 : Hid (RowV w3 w.heap.size 74 zeroEn) := RowV.of_block HQ2.out (hf3.block _ HQ2.out.lt (by omega))
    have HE3 : Hid (RowV w3 eb 74 [.slice s1.a s1.n s1.cap, .slice none 0 0, .int .u8 0, .int .u8 0, .int .u8 0, .int .u8 0, .int .u8 0, .int .u8 0, .int .u8 0, .int .u8 0]) := RowV.of_block HE2.out (hf3.block _ HE2.out.lt (by omega))
    have HS3 : Hid (SubS w3 K s1 (entK (some l))) := HS2.out.frame hf3 (fun k hk e => by subst e; obtain ⟨_, _, _, ho⟩ := HR2.out; exact ho hk)
    have HER : Hid (entR lv (some l) = takeR 8 (some l2)) := by unfold Hid entR; rw [if_neg hl0, HO2.out]
    have HEM : Hid (entM lv (some l) = takeB 8 (some l2)) := by unfold Hid entM; rw [if_neg hl0, HO2.out]
    cases h3 : takeR 8 (some l2) with
    | none =>
     rw [h3] at hm
     obtain rfl : e = pkE := hm
     have HX : Hid (entX lv l = none) := by unfold Hid entX; rw [HER.out, h3]
     unfold pkE
     go_wp2
     refine ⟨rfl, HF3.out, ?_⟩
     rw [HX.out]; rfl
    | some r =>
     rw [h3] at hm
     obtain ⟨s3, rfl, hs3, hr3⟩ := hm
     have HX : Hid (entX lv l = some ((entK (some l), entM lv (some l)), r)) := by
      unfold Hid entX; rw [HER.out, h3]
      simp only
      rw [if_pos ⟨HKL.out.1, HKL.out.2, fun e => absurd e hl0⟩]
     obtain ⟨x0, x1, x2, x3, x4, x5, x6, x7, hx8⟩ := list8 (takeB 8 (some l2)) (takeB_some h3)
     rw [hx8] at hs3
     have hsn : s3.n = 8 := by rw [hs3.bs.n]; rfl
     obtain ⟨bb, oo, hca, hbb, g0⟩ := hs3.bs.sl 0 (by simp)
     have gg : ∀ i (hi : i < 8), w3.cell? ⟨bb, oo + i, none⟩ = some (u8c ([x0, x1, x2, x3, x4, x5, x6, x7][i]'(by simpa using hi))) := fun i hi => by
      obtain ⟨b', o', ha', _, g⟩ := hs3.bs.sl i (by simpa using hi)
      rw [hca] at ha'; cases ha'
      exact g
     have g0 : w3.cell? ⟨bb, oo, none⟩ = some (.int .u8 (x0.toNat : Int)) := gg 0 (by omega)
     have g1 : w3.cell? ⟨bb, oo + 1, none⟩ = some (.int .u8 (x1.toNat : Int)) := gg 1 (by omega)
     have g2 : w3.cell? ⟨bb, oo + 2, none⟩ = some (.int .u8 (x2.toNat : Int)) := gg 2 (by omega)
     have g3 : w3.cell? ⟨bb, oo + 3, none⟩ = some (.int .u8 (x3.toNat : Int)) := gg 3 (by omega)
     have g4 : w3.cell? ⟨bb, oo + 4, none⟩ = some (.int .u8 (x4.toNat : Int)) := gg 4 (by omega)
     have g5 : w3.cell? ⟨bb, oo + 5, none⟩ = some (.int .u8 (x5.toNat : Int)) := gg 5 (by omega)
     have g6 : w3.cell? ⟨bb, oo + 6, none⟩ = some (.int .u8 (x6.toNat : Int)) := gg 6 (by omega)
     have g7 : w3.cell? ⟨bb, oo + 7, none⟩ = some (.int .u8 (x7.toNat : Int)) := gg 7 (by omega)
     obtain ⟨sa, sn, sc⟩ := s3
     simp only at hca hsn
     subst hca; subst hsn
     have hra := fun W => run_arrayAt8 W (some ⟨bb, oo, none⟩) sc
     have e2 := HE3.out.cell 2 (by simp)
     have fe2 := HE3.out.frozen 2
     have e3 := HE3.out.cell 3 (by simp)
     have fe3 := HE3.out.frozen 3
     have e4 := HE3.out.cell 4 (by simp)
     have fe4 := HE3.out.frozen 4
     have e5 := HE3.out.cell 5 (by simp)
     have fe5 := HE3.out.frozen 5
     have e6 := HE3.out.cell 6 (by simp)
     have fe6 := HE3.out.frozen 6
     have e7 := HE3.out.cell 7 (by simp)
     have fe7 := HE3.out.frozen 7
     have e8 := HE3.out.cell 8 (by simp)
     have fe8 := HE3.out.frozen 8
     have e9 := HE3.out.cell 9 (by simp)
     have fe9 := HE3.out.frozen 9
     simp only [List.getElem_cons_zero, List.getElem_cons_succ] at e2 e3 e4 e5 e6 e7 e8 e9
     have hft := (((((((((Frame.refl (fun k => k = eb) w3).setCell (p := ⟨eb, 2, none⟩) rfl (.int .u8 (x0.toNat : Int))).setCell (p := ⟨eb, 3, none⟩) rfl (.int .u8 (x1.toNat : Int))).setCell (p := ⟨eb, 4, none⟩) rfl (.int .u8 (x2.toNat : Int))).setCell (p := ⟨eb, 5, none⟩) rfl (.int .u8 (x3.toNat : Int))).setCell (p := ⟨eb, 6, none⟩) rfl (.int .u8 (x4.toNat : Int))).setCell (p := ⟨eb, 7, none⟩) rfl (.int .u8 (x5.toNat : Int))).setCell (p := ⟨eb, 8, none⟩) rfl (.int .u8 (x6.toNat : Int))).setCell (p := ⟨eb, 9, none⟩) rfl (.int .u8 (x7.toNat : Int)))
     have HE4 : Hid (RowV ((((((((w3.setCell ⟨eb, 2, none⟩ (.int .u8 (x0.toNat : Int))).setCell ⟨eb, 3, none⟩ (.int .u8 (x1.toNat : Int))).setCell ⟨eb, 4, none⟩ (.int .u8 (x2.toNat : Int))).setCell ⟨eb, 5, none⟩ (.int .u8 (x3.toNat : Int))).setCell ⟨eb, 6, none⟩ (.int .u8 (x4.toNat : Int))).setCell ⟨eb, 7, none⟩ (.int .u8 (x5.toNat : Int))).setCell ⟨eb, 8, none⟩ (.int .u8 (x6.toNat : Int))).setCell ⟨eb, 9, none⟩ (.int .u8 (x7.toNat : Int))) eb 74 [.slice s1.a s1.n s1.cap, .slice none 0 0, .int .u8 (x0.toNat : Int), .int .u8 (x1.toNat : Int), .int .u8 (x2.toNat : Int), .int .u8 (x3.toNat : Int), .int .u8 (x4.toNat : Int), .int .u8 (x5.toNat : Int), .int .u8 (x6.toNat : Int), .int .u8 (x7.toNat : Int)]) := by unfold Hid; simpa using (RowV.set (RowV.set (RowV.set (RowV.set (RowV.set (RowV.set (RowV.set (RowV.set HE3.out 2 (.int .u8 (x0.toNat : Int))) 3 (.int .u8 (x1.toNat : Int))) 4 (.int .u8 (x2.toNat : Int))) 5 (.int .u8 (x3.toNat : Int))) 6 (.int .u8 (x4.toNat : Int))) 7 (.int .u8 (x5.toNat : Int))) 8 (.int .u8 (x6.toNat : Int))) 9 (.int .u8 (x7.toNat : Int)))
     have HF4 : Hid (Frame (fun k => k = rb) w ((((((((w3.setCell ⟨eb, 2, none⟩ (.int .u8 (x0.toNat : Int))).setCell ⟨eb, 3, none⟩ (.int .u8 (x1.toNat : Int))).setCell ⟨eb, 4, none⟩ (.int .u8 (x2.toNat : Int))).setCell ⟨eb, 5, none⟩ (.int .u8 (x3.toNat : Int))).setCell ⟨eb, 6, none⟩ (.int .u8 (x4.toNat : Int))).setCell ⟨eb, 7, none⟩ (.int .u8 (x5.toNat : Int))).setCell ⟨eb, 8, none⟩ (.int .u8 (x6.toNat : Int))).setCell ⟨eb, 9, none⟩ (.int .u8 (x7.toNat : Int)))) := HF3.out.inside hft (fun x hx e => by omega)
     have HQ4 : Hid (RowV ((((((((w3.setCell ⟨eb, 2, none⟩ (.int .u8 (x0.toNat : Int))).setCell ⟨eb, 3, none⟩ (.int .u8 (x1.toNat : Int))).setCell ⟨eb, 4, none⟩ (.int .u8 (x2.toNat : Int))).setCell ⟨eb, 5, none⟩ (.int .u8 (x3.toNat : Int))).setCell ⟨eb, 6, none⟩ (.int .u8 (x4.toNat : Int))).setCell ⟨eb, 7, none⟩ (.int .u8 (x5.toNat : Int))).setCell ⟨eb, 8, none⟩ (.int .u8 (x6.toNat : Int))).setCell ⟨eb, 9, none⟩ (.int .u8 (x7.toNat : Int))) w.heap.size 74 zeroEn) := RowV.of_block HQ3.out (hft.block _ HQ3.out.lt (by omega))
     have hkeb : ∀ k, K k → ¬ k = eb := fun k hk e => by have := HK.out k hk; omega
     have HS4 : Hid (SubS ((((((((w3.setCell ⟨eb, 2, none⟩ (.int .u8 (x0.toNat : Int))).setCell ⟨eb, 3, none⟩ (.int .u8 (x1.toNat : Int))).setCell ⟨eb, 4, none⟩ (.int .u8 (x2.toNat : Int))).setCell ⟨eb, 5, none⟩ (.int .u8 (x3.toNat : Int))).setCell ⟨eb, 6, none⟩ (.int .u8 (x4.toNat : Int))).setCell ⟨eb, 7, none⟩ (.int .u8 (x5.toNat : Int))).setCell ⟨eb, 8, none⟩ (.int .u8 (x6.toNat : Int))).setCell ⟨eb, 9, none⟩ (.int .u8 (x7.toNat : Int))) K s1 (entK (some l))) := HS3.out.frame hft hkeb
     have HR4 : Hid (RdP ((((((((w3.setCell ⟨eb, 2, none⟩ (.int .u8 (x0.toNat : Int))).setCell ⟨eb, 3, none⟩ (.int .u8 (x1.toNat : Int))).setCell ⟨eb, 4, none⟩ (.int .u8 (x2.toNat : Int))).setCell ⟨eb, 5, none⟩ (.int .u8 (x3.toNat : Int))).setCell ⟨eb, 6, none⟩ (.int .u8 (x4.toNat : Int))).setCell ⟨eb, 7, none⟩ (.int .u8 (x5.toNat : Int))).setCell ⟨eb, 8, none⟩ (.int .u8 (x6.toNat : Int))).setCell ⟨eb, 9, none⟩ (.int .u8 (x7.toNat : Int))) K rb r) := hr3.frame hft (by omega) hkeb
     have HMX : Hid (entM lv (some l) = [x0, x1, x2, x3, x4, x5, x6, x7]) := by unfold Hid; rw [HEM.out, hx8]
     clear hft hs3 hr3 h3 HS3 HF3 HQ3 HE2 HF2 HQ2 HS2 HR2 hf3 hz3 e0 HTK hkeb gg hx8 HIK
     unfold SlR.val
     go_upto_region 7 with fail
     generalize ((((((((w3.setCell ⟨eb, 2, none⟩ (.int .u8 (x0.toNat : Int))).setCell ⟨eb, 3, none⟩ (.int .u8 (x1.toNat : Int))).setCell ⟨eb, 4, none⟩ (.int .u8 (x2.toNat : Int))).setCell ⟨eb, 5, none⟩ (.int .u8 (x3.toNat : Int))).setCell ⟨eb, 6, none⟩ (.int .u8 (x4.toNat : Int))).setCell ⟨eb, 7, none⟩ (.int .u8 (x5.toNat : Int))).setCell ⟨eb, 8, none⟩ (.int .u8 (x6.toNat : Int))).setCell ⟨eb, 9, none⟩ (.int .u8 (x7.toNat : Int))) = W4 at *
     clear e2 e3 e4 e5 e6 e7 e8 e9 fe2 fe3 fe4 fe5 fe6 fe7 fe8 fe9 g0 g1 g2 g3 g4 g5 g6 g7
     go_wp2_with (first
      | (refine wpList_load_mid (by rfl) 74 (.tmp 5) (by rfl) eb 0 (by rfl) [.slice s1.a s1.n s1.cap, .slice none 0 0, .int .u8 (x0.toNat : Int), .int .u8 (x1.toNat : Int), .int .u8 (x2.toNat : Int), .int .u8 (x3.toNat : Int), .int .u8 (x4.toNat : Int), .int .u8 (x5.toNat : Int), .int .u8 (x6.toNat : Int), .int .u8 (x7.toNat : Int)] _ HE4.out.range Tryz.underlying74 rfl Tryz.sizeEntryB ?_)
      | (refine wp_storeR (by rfl) 74 (.tmp 4) (.tmp 27) (by rfl) w.heap.size (by rfl) [.slice s1.a s1.n s1.cap, .slice none 0 0, .int .u8 (x0.toNat : Int), .int .u8 (x1.toNat : Int), .int .u8 (x2.toNat : Int), .int .u8 (x3.toNat : Int), .int .u8 (x4.toNat : Int), .int .u8 (x5.toNat : Int), .int .u8 (x6.toNat : Int), .int .u8 (x7.toNat : Int)] (by rfl) HQ4.out rfl Tryz.sizeEntryB (enC_one ⟨s1, ⟨none, 0, 0⟩, [x0, x1, x2, x3, x4, x5, x6, x7]⟩) ?_; intro w6 hr6 hf6 hz6))
     obtain ⟨q1, q2⟩ := en_fin (x := ⟨s1, ⟨none, 0, 0⟩, [x0, x1, x2, x3, x4, x5, x6, x7]⟩) HQ4.out HF4.out HR4.out hrb HK.out rfl w6 hr6 hf6
     refine ret_agg (k := 4) (cs := [.slice s1.a s1.n s1.cap, .slice none 0 0, .int .u8 (x0.toNat : Int), .int .u8 (x1.toNat : Int), .int .u8 (x2.toNat : Int), .int .u8 (x3.toNat : Int), .int .u8 (x4.toNat : Int), .int .u8 (x5.toNat : Int), .int .u8 (x6.toNat : Int), .int .u8 (x7.toNat : Int)]) rfl rfl hr6 Tryz.underlying74 rfl Tryz.sizeEntryB rfl ⟨q1, ?_⟩
     rw [HX.out]
     have hk6 : ∀ k, K k → ¬ k = w.heap.size := fun k hk e => by have := HK.out k hk; omega
     exact ⟨⟨s1, ⟨none, 0, 0⟩, [x0, x1, x2, x3, x4, x5, x6, x7]⟩, rfl, ⟨rfl, HS4.out.frame hf6 hk6, fun e => absurd e hl0, fun _ => ⟨rfl, HMX.out.symm⟩⟩, q2⟩
end Go.Proofs.YtekegfbjbainhaaGreat
