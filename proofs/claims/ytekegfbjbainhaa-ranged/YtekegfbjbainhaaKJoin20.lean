import Derived.Test.YtekegfbjbainhaaKJoin15
import Derived.Test.YtekegfbjbainhaaKJoin13
import Derived.WalkLawsBesides
set_option linter.unusedVariables false
set_option linter.unusedSimpArgs false

namespace Go.Proofs.Ytekegfbjbainhaa
open Go.RowKit
set_option maxRecDepth 100000 in
set_option maxHeartbeats 400000 in
theorem has_any (sb n : Nat) (tr : SlR) (e : Int) (w : World) (c2 : w.cell? ⟨sb, 2, none⟩ = some (.slice tr.a tr.n tr.cap)) (hn : tr.n = n) (h40 : n ≤ 40) :
  Calls Try.prog 35 #[.pointer (some ⟨sb, 0, none⟩), .int .i64 e] w fun r w' => r = .returned (.bool (!epochBad n e)) ∧ w' = w := by
 subst hn
 have hnI : (tr.n : Int) ≤ 40 := by omega
 have HCM : Hid (Calls _ _ _ _ _) := commits_any sb tr w c2 h40
 by_cases h0 : e < 0
 ·have HE : Hid ((!epochBad tr.n e) = false) := by unfold Hid epochBad; simp [h0]
  have h0' : ¬ 0 ≤ e := by omega
  go_enter Try.func35, Try.ntmps35
  go_wp2
  go_ret
  exact ⟨by rw [HE.out]; rfl, rfl⟩
 ·have h0' : 0 ≤ e := by omega
  by_cases h1 : e < tr.n
  ·have HE : Hid ((!epochBad tr.n e) = true) := by unfold Hid epochBad; simp [h0]; omega
   go_enter Try.func35, Try.ntmps35
   go_wp2_with (go_at_call 45; refine HCM.out.mono ?_; rintro r w1 ⟨rfl, hw1⟩; obtain rfl : w = w1 := hw1.symm; clear hw1)
   go_ret
   have hd : decide (e < (tr.n : Int)) = true := by simp; omega
   exact ⟨by rw [HE.out, ← hd]; rfl, rfl⟩
  ·have HE : Hid ((!epochBad tr.n e) = false) := by unfold Hid epochBad; simp [h0]; omega
   go_enter Try.func35, Try.ntmps35
   go_wp2_with (go_at_call 45; refine HCM.out.mono ?_; rintro r w1 ⟨rfl, hw1⟩; obtain rfl : w = w1 := hw1.symm; clear hw1)
   go_ret
   have hd : decide (e < (tr.n : Int)) = false := by simp; omega
   exact ⟨by rw [HE.out, ← hd]; rfl, rfl⟩
set_option maxRecDepth 100000 in
set_option maxHeartbeats 400000 in
theorem isRange_any (sf st : SlR) (fr tu : List UInt8) (w : World) (hF : BS w sf fr) (hT : BS w st tu) (hfm : fr.length ≤ maxLen) (htm : tu.length ≤ maxLen) :
  Calls Try.prog 41 #[sf.val, st.val] w fun r w' => r = .returned (.bool (rngOk fr tu)) ∧ w' = w := by
 have HKF : Hid (Calls _ _ _ _ _) := isKey_any sf.a sf.n sf.cap w (by rw [hF.n]; exact hfm)
 have HKT : Hid (Calls _ _ _ _ _) := isKey_any st.a st.n st.cap w (by rw [hT.n]; exact htm)
 have hfb : (decide (1 ≤ sf.n) && decide (sf.n ≤ 12)) = keyOk fr := by rw [hF.n]; rfl
 have htb : (decide (1 ≤ st.n) && decide (st.n ≤ 12)) = keyOk tu := by rw [hT.n]; rfl
 rw [hfb] at HKF
 rw [htb] at HKT
 have HCM : Hid (Calls _ _ _ _ _) := compare_any sf st fr tu w hF hT
 have HLE := cmp_neg fr tu
 have HBD := cmp_bd fr tu
 generalize Lib.compareBytes fr tu = c at *
 have HR : Hid (rngOk fr tu = (keyOk fr && keyOk tu && Op.bytesLess fr tu)) := rfl
 clear hfb htb hF hT hfm htm
 unfold SlR.val at HCM ⊢
 cases hkf : keyOk fr with
 | false =>
  rw [hkf] at HKF HR
  clear HLE
  go_enter Try.func41, Try.ntmps41
  go_wp2_with fail
  refine HKF.out.mono ?_
  rintro e w1 ⟨rfl, hw1⟩
  obtain rfl : w = w1 := hw1.symm
  clear hw1
  go_wp2
  go_ret
  exact ⟨by rw [HR.out]; rfl, rfl⟩
 | true =>
  rw [hkf] at HKF HR
  cases hkt : keyOk tu with
  | false =>
   rw [hkt] at HKT HR
   clear HLE
   go_enter Try.func41, Try.ntmps41
   go_wp2_with fail
   refine HKF.out.mono ?_
   rintro e w1 ⟨rfl, hw1⟩
   obtain rfl : w = w1 := hw1.symm
   clear hw1
   go_wp2_with fail
   refine HKT.out.mono ?_
   rintro e w1 ⟨rfl, hw1⟩
   obtain rfl : w = w1 := hw1.symm
   clear hw1
   go_wp2
   go_ret
   exact ⟨by rw [HR.out]; rfl, rfl⟩
  | true =>
   rw [hkt] at HKT HR
   have HV : Hid (rngOk fr tu = decide (c < 0)) := by
    unfold Hid
    rw [HR.out, Bool.eq_iff_iff]
    simp [HLE]
   clear HLE HR hkf hkt
   by_cases hc : c < 0
   ·have HV2 : Hid (rngOk fr tu = true) := by unfold Hid; rw [HV.out]; simp [hc]
    clear HV
    go_enter Try.func41, Try.ntmps41
    go_wp2_with fail
    refine HKF.out.mono ?_
    rintro e w1 ⟨rfl, hw1⟩
    obtain rfl : w = w1 := hw1.symm
    clear hw1
    go_wp2_with fail
    refine HKT.out.mono ?_
    rintro e w1 ⟨rfl, hw1⟩
    obtain rfl : w = w1 := hw1.symm
    clear hw1
    go_wp2_with fail
    refine HCM.out.mono ?_
    rintro e w1 ⟨rfl, hw1⟩
    obtain rfl : w = w1 := hw1.symm
    clear hw1
    go_wp2
    go_ret
    exact ⟨by rw [HV2.out]; rfl, rfl⟩
   ·have HV2 : Hid (rngOk fr tu = false) := by unfold Hid; rw [HV.out]; simp [hc]
    clear HV
    go_enter Try.func41, Try.ntmps41
    go_wp2_with fail
    refine HKF.out.mono ?_
    rintro e w1 ⟨rfl, hw1⟩
    obtain rfl : w = w1 := hw1.symm
    clear hw1
    go_wp2_with fail
    refine HKT.out.mono ?_
    rintro e w1 ⟨rfl, hw1⟩
    obtain rfl : w = w1 := hw1.symm
    clear hw1
    go_wp2_with fail
    refine HCM.out.mono ?_
    rintro e w1 ⟨rfl, hw1⟩
    obtain rfl : w = w1 := hw1.symm
    clear hw1
    go_wp2
    go_ret
    exact ⟨by rw [HV2.out, ← show decide (c < 0) = false by simpa using hc]; rfl, rfl⟩
theorem StoT.tree {w : World} {sb : Nat} {mp : Option Nat} {es : List MEn} {T : List (List (List Nd))} {tds : List Nd} {pp : List (List ItR)} (h : StoT w sb mp es T tds pp) (k : Nat) (hk : k < tds.length) :
  ∃ (L : List (List Nd)) (ℓ : Nat), TreeRep (grownN (pastAt pp k)) L ∧ L.length = ℓ + 1 ∧ L[ℓ]? = some [tds[k]] ∧ PastR (pastAt pp k) ∧ (∀ nds ∈ L, ∀ x ∈ nds, NdOk w x) := by
 have h1 : k < T.length := by rw [h.tl]; exact hk
 have h2 : k < pp.length := by rw [h.pl]; exact hk
 have e : pastAt pp k = pp[k] := by
  unfold pastAt
  simp [h2]
 obtain ⟨g1, ⟨ℓ, g2, g3⟩, g4⟩ := h.rep k T[k] pp[k] tds[k] (List.getElem?_eq_getElem h1) (List.getElem?_eq_getElem h2) (List.getElem?_eq_getElem hk)
 rw [e]
 exact ⟨T[k], ℓ, g1, g2, g3, ⟨g4.rise, g4.ok, g4.len⟩, fun nds hn x hx => (h.good T[k] (List.getElem_mem h1) nds hn x hx).1⟩
set_option maxRecDepth 100000 in
set_option maxHeartbeats 1000000 in
theorem sto_prove (sb N : Nat) (en tr : SlR) (mp : Option Nat) (es : List MEn) (xs : List EnP) (its : List ItR) (tds : List Nd) (T : List (List (List Nd))) (pp : List (List ItR)) (e : Int) (sk : SlR) (key : List UInt8) (w : World) (h : StoAt w sb N en tr mp es xs its tds) (ht : StoT w sb mp es T tds pp) (h40 : tds.length ≤ 40) (hK : BS w sk key) (hkm : key.length ≤ maxLen) :
  Calls Try.prog 15 #[.pointer (some ⟨sb, 0, none⟩), .int .i64 e, sk.val] w fun r w' => ∃ v' : SlR, r = .returned (.tuple #[v'.val, .int .i64 (prvE pp.length e key : Int)]) ∧ OwnB w' w.heap.size v'.val (prvB pp e key) ∧ Below w.heap.size w w' := by
 obtain ⟨hts, htn⟩ := SlV.ofOwn (s := tr) h.own
 have c2 : w.cell? ⟨sb, 2, none⟩ = some (.slice tr.a tr.n tr.cap) := RowV.cell h.row 2 (by simp)
 have HHS : Hid (Calls _ _ _ _ _) := has_any sb tds.length tr e w c2 htn h40
 have HKF : Hid (Calls _ _ _ _ _) := isKey_any sk.a sk.n sk.cap w (by rw [hK.n]; exact hkm)
 have hkb : (decide (1 ≤ sk.n) && decide (sk.n ≤ 12)) = keyOk key := by rw [hK.n]; rfl
 rw [hkb] at HKF
 have hpl := ht.pl
 rw [← hpl] at HHS
 have htI : (tr.n : Int) ≤ 40 := by omega
 cases he : epochBad pp.length e with
 | true =>
  have HV : Hid (prvE pp.length e key = 4 ∧ prvB pp e key = []) := by
   have : prvE pp.length e key = 4 := by unfold prvE; rw [if_pos he]
   exact ⟨this, by unfold prvB; rw [this]; rfl⟩
  rw [he] at HHS
  clear hts htn hkb h ht hK hpl he
  unfold SlR.val
  go_enter Try.func15, Try.ntmps15
  go_wp2_with (go_at_call 35; refine HHS.out.mono ?_; rintro r w1 ⟨rfl, hw1⟩; obtain rfl : w = w1 := hw1.symm; clear hw1)
  go_ret2
  exact ⟨⟨none, 0, 0⟩, by rw [HV.out.1]; rfl, by rw [HV.out.2]; exact World.ownsRow_nil _ _ _ _, Below.refl _ _⟩
 | false =>
  rw [he] at HHS
  cases hk : keyOk key with
  | false =>
   have HV : Hid (prvE pp.length e key = 1 ∧ prvB pp e key = []) := by
    have : prvE pp.length e key = 1 := by unfold prvE; rw [if_neg (by rw [he]; decide), if_pos hk]
    exact ⟨this, by unfold prvB; rw [this]; rfl⟩
   rw [hk] at HKF
   clear hts htn hkb h ht hK hpl he hk
   unfold SlR.val
   go_enter Try.func15, Try.ntmps15
   go_wp2_with (first | (go_at_call 35; refine HHS.out.mono ?_; rintro r w1 ⟨rfl, hw1⟩; obtain rfl : w = w1 := hw1.symm; clear hw1) | (go_at_call 36; refine HKF.out.mono ?_; rintro r w2 ⟨rfl, hw2⟩; obtain rfl : w = w2 := hw2.symm; clear hw2))
   go_ret2
   exact ⟨⟨none, 0, 0⟩, by rw [HV.out.1]; rfl, by rw [HV.out.2]; exact World.ownsRow_nil _ _ _ _, Below.refl _ _⟩
  | true =>
   obtain ⟨k, rfl, hkn⟩ := epoch_in he
   have hkt : k < tds.length := by omega
   obtain ⟨L, ℓ, g1, g2, g3, g4, g5⟩ := ht.tree k hkt
   have HOK : Hid (Calls _ _ _ _ _) := ofKey_any _ g4 L g1 ℓ tds[k] g2 g3 sk key w g5 hK
   have HV : Hid (prvE pp.length (k : Int) key = 0 ∧ prvB pp (k : Int) key = prfB (pastAt pp k) key key) := by
    have : prvE pp.length (k : Int) key = 0 := by unfold prvE; rw [if_neg (by rw [he]; decide), if_neg (by rw [hk]; decide)]
    exact ⟨this, by unfold prvB; rw [this]; rfl⟩
   obtain ⟨b, o, hta, hb, hc⟩ := hts k (by simpa using hkt)
   have c3 : w.cell? ⟨b, o + k, none⟩ = some (.pointer (some ⟨tds[k].b, 0, none⟩)) := by rw [hc]; simp [ptrV]
   have hkI : (k : Int) < tr.n := by omega
   rw [hk] at HKF
   generalize tds[k] = nd at *
   obtain ⟨ta, tn, tc⟩ := tr
   simp only at hta c2 hkI htI
   subst hta
   clear hts htn hkb h ht hK hpl he hk g1 g2 g3 g4 g5 hc
   unfold SlR.val at HOK ⊢
   go_enter Try.func15, Try.ntmps15
   go_wp2_with (first | (go_at_call 35; refine HHS.out.mono ?_; rintro r w1 ⟨rfl, hw1⟩; obtain rfl : w = w1 := hw1.symm; clear hw1) | (go_at_call 36; refine HKF.out.mono ?_; rintro r w2 ⟨rfl, hw2⟩; obtain rfl : w = w2 := hw2.symm; clear hw2) | (go_at_call 37; refine HOK.out.mono ?_; rintro r w3 ⟨v3, rfl, ho3, hb3⟩))
   go_ret2
   exact ⟨v3, by rw [HV.out.1]; rfl, by rw [HV.out.2]; exact ho3, hb3⟩
set_option maxRecDepth 100000 in
set_option maxHeartbeats 1000000 in
theorem sto_range (sb N : Nat) (en tr : SlR) (mp : Option Nat) (es : List MEn) (xs : List EnP) (its : List ItR) (tds : List Nd) (T : List (List (List Nd))) (pp : List (List ItR)) (e : Int) (sf st : SlR) (fr tu : List UInt8) (w : World) (h : StoAt w sb N en tr mp es xs its tds) (ht : StoT w sb mp es T tds pp) (h40 : tds.length ≤ 40) (hF : BS w sf fr) (hT : BS w st tu) (hfm : fr.length ≤ maxLen) (htm : tu.length ≤ maxLen) :
  Calls Try.prog 19 #[.pointer (some ⟨sb, 0, none⟩), .int .i64 e, sf.val, st.val] w fun r w' => ∃ v' : SlR, r = .returned (.tuple #[v'.val, .int .i64 (rngE pp.length e fr tu : Int)]) ∧ OwnB w' w.heap.size v'.val (rngB pp e fr tu) ∧ Below w.heap.size w w' := by
 obtain ⟨hts, htn⟩ := SlV.ofOwn (s := tr) h.own
 have c2 : w.cell? ⟨sb, 2, none⟩ = some (.slice tr.a tr.n tr.cap) := RowV.cell h.row 2 (by simp)
 have HHS : Hid (Calls _ _ _ _ _) := has_any sb tds.length tr e w c2 htn h40
 have HKF : Hid (Calls _ _ _ _ _) := isRange_any sf st fr tu w hF hT hfm htm
 have hpl := ht.pl
 rw [← hpl] at HHS
 have htI : (tr.n : Int) ≤ 40 := by omega
 cases he : epochBad pp.length e with
 | true =>
  have HV : Hid (rngE pp.length e fr tu = 4 ∧ rngB pp e fr tu = []) := by
   have : rngE pp.length e fr tu = 4 := by unfold rngE; rw [if_pos he]
   exact ⟨this, by unfold rngB; rw [this]; rfl⟩
  rw [he] at HHS
  clear hts htn h ht hF hT hpl he
  unfold SlR.val
  go_enter Try.func19, Try.ntmps19
  go_wp2_with (go_at_call 35; refine HHS.out.mono ?_; rintro r w1 ⟨rfl, hw1⟩; obtain rfl : w = w1 := hw1.symm; clear hw1)
  go_ret2
  exact ⟨⟨none, 0, 0⟩, by rw [HV.out.1]; rfl, by rw [HV.out.2]; exact World.ownsRow_nil _ _ _ _, Below.refl _ _⟩
 | false =>
  rw [he] at HHS
  cases hk : rngOk fr tu with
  | false =>
   have HV : Hid (rngE pp.length e fr tu = 1 ∧ rngB pp e fr tu = []) := by
    have : rngE pp.length e fr tu = 1 := by unfold rngE; rw [if_neg (by rw [he]; decide), if_pos hk]
    exact ⟨this, by unfold rngB; rw [this]; rfl⟩
   rw [hk] at HKF
   clear hts htn h ht hF hT hpl he hk
   unfold SlR.val at HKF ⊢
   go_enter Try.func19, Try.ntmps19
   go_wp2_with (first | (go_at_call 35; refine HHS.out.mono ?_; rintro r w1 ⟨rfl, hw1⟩; obtain rfl : w = w1 := hw1.symm; clear hw1) | (go_at_call 41; refine HKF.out.mono ?_; rintro r w2 ⟨rfl, hw2⟩; obtain rfl : w = w2 := hw2.symm; clear hw2))
   go_ret2
   exact ⟨⟨none, 0, 0⟩, by rw [HV.out.1]; rfl, by rw [HV.out.2]; exact World.ownsRow_nil _ _ _ _, Below.refl _ _⟩
  | true =>
   obtain ⟨k, rfl, hkn⟩ := epoch_in he
   have hkt : k < tds.length := by omega
   obtain ⟨L, ℓ, g1, g2, g3, g4, g5⟩ := ht.tree k hkt
   have HOK : Hid (Calls _ _ _ _ _) := ofRange_any _ g4 L g1 ℓ tds[k] g2 g3 sf st fr tu w g5 hF hT
   have HV : Hid (rngE pp.length (k : Int) fr tu = 0 ∧ rngB pp (k : Int) fr tu = prfB (pastAt pp k) fr tu) := by
    have : rngE pp.length (k : Int) fr tu = 0 := by unfold rngE; rw [if_neg (by rw [he]; decide), if_neg (by rw [hk]; decide)]
    exact ⟨this, by unfold rngB; rw [this]; rfl⟩
   obtain ⟨b, o, hta, hb, hc⟩ := hts k (by simpa using hkt)
   have c3 : w.cell? ⟨b, o + k, none⟩ = some (.pointer (some ⟨tds[k].b, 0, none⟩)) := by rw [hc]; simp [ptrV]
   have hkI : (k : Int) < tr.n := by omega
   rw [hk] at HKF
   generalize tds[k] = nd at *
   obtain ⟨ta, tn, tc⟩ := tr
   simp only at hta c2 hkI htI
   subst hta
   clear hts htn h ht hF hT hpl he hk g1 g2 g3 g4 g5 hc
   unfold SlR.val at HOK HKF ⊢
   go_enter Try.func19, Try.ntmps19
   go_wp2_with (first | (go_at_call 35; refine HHS.out.mono ?_; rintro r w1 ⟨rfl, hw1⟩; obtain rfl : w = w1 := hw1.symm; clear hw1) | (go_at_call 41; refine HKF.out.mono ?_; rintro r w2 ⟨rfl, hw2⟩; obtain rfl : w = w2 := hw2.symm; clear hw2) | (go_at_call 42; refine HOK.out.mono ?_; rintro r w3 ⟨v3, rfl, ho3, hb3⟩))
   go_ret2
   exact ⟨v3, by rw [HV.out.1]; rfl, by rw [HV.out.2]; exact ho3, hb3⟩
end Go.Proofs.Ytekegfbjbainhaa


namespace Go.Proofs.Ytekegfbjbainhaa
open Go.RowKit
attribute [local go_sem ↓] Go.wp_at_zero Go.wp_at_succ
def pkE : Ending := .panicked [{ v := .iface 123 (.agg #[]), recovered := false }]
set_option maxRecDepth 100000 in
theorem must_yes (w : World) : Calls Try.prog 83 #[.bool true] w fun e w' => e = .returned (.tuple #[]) ∧ w' = w := by
 go_enter Try.func83, Try.ntmps83
 go_wp2
 go_returns
 exact ⟨rfl, rfl⟩
set_option maxRecDepth 100000 in
theorem must_no (w : World) : Calls Try.prog 83 #[.bool false] w fun e w' => e = pkE ∧ w' = w := by
 go_enter Try.func83, Try.ntmps83
 go_wp2
 exact ⟨rfl, rfl, rfl⟩
def RdP (w : World) (K : Nat → Prop) (rb : Nat) (l : List UInt8) : Prop := ∃ s : SlR, RowV w rb 125 [s.val] ∧ SubS w K s l ∧ ¬ K rb
theorem RdP.lt {w : World} {K : Nat → Prop} {rb : Nat} {l : List UInt8} (h : RdP w K rb l) : rb < w.heap.size := by obtain ⟨s, h, _⟩ := h; exact RowV.lt h
theorem RdP.frame {w w' : World} {S K : Nat → Prop} {rb : Nat} {l : List UInt8} (h : RdP w K rb l) (hf : Frame S w w') (h1 : ¬ S rb) (h2 : ∀ k, K k → ¬ S k) : RdP w' K rb l := by
 obtain ⟨s, h, hs, ho⟩ := h
 exact ⟨s, RowV.of_block h (hf.block _ (RowV.lt h) h1), hs.frame hf h2, ho⟩
theorem RdP.below {w w' : World} {K : Nat → Prop} {rb : Nat} {l : List UInt8} (h : RdP w K rb l) (hf : Below w.heap.size w w') : RdP w' K rb l := h.frame (Frame.of_below_all (S := fun _ => False) hf) (fun e => e) (fun _ _ e => e)
theorem RdP.rowNe {w : World} {K : Nat → Prop} {rb b : Nat} {o : List UInt8} {t : Nat} {l : List Value} (h : RdP w K rb o) (h' : RowV w b t l) (hne : t ≠ 125) : b ≠ rb := by
 obtain ⟨s, h, _⟩ := h
 exact rowV_ne h' h hne
theorem RdP.ownNe {w : World} {K : Nat → Prop} {rb base e size n : Nat} {v : Value} {xs : List Value} {o : List UInt8} (h : RdP w K rb o) (h' : w.ownsRow base e size v n xs) (hne : e ≠ 125) : v.ownBlock ≠ some rb := by
 obtain ⟨s, h, _⟩ := h
 exact owns_ne h' h hne
set_option maxRecDepth 100000 in
set_option maxHeartbeats 1000000 in
theorem take_yes (K : Nat → Prop) (rb n : Nat) (l : List UInt8) (w : World) (h : RdP w K rb l) (hn : n ≤ l.length) :
  Calls Try.prog 84 #[.pointer (some ⟨rb, 0, none⟩), .int .i64 (n : Int)] w fun e w' => ∃ s' : SlR, e = .returned s'.val ∧ Frame (fun k => k = rb) w w' ∧ w'.heap.size = w.heap.size ∧ SubS w' K s' (l.take n) ∧ s'.cap = n ∧ RdP w' K rb (l.drop n) := by
 obtain ⟨s, hrow, hs, hko⟩ := h
 have r0 : w.cell? ⟨rb, 0, none⟩ = some (.slice s.a s.n s.cap) := RowV.cell hrow 0 (by simp)
 have fz0 := hrow.frozen 0
 have hsn := hs.bs.n
 have hnI : (n : Int) ≤ s.n := by omega
 have hnC : n ≤ s.cap := by have := hs.cap; omega
 have HI : Hid ((Try.prog.info? 5).map (·.size) = some 1) := by unfold Hid; kernel_rfl
 have HRW : Hid (RowV w rb 125 [s.val]) := hrow
 have HS : Hid (SubS w K s l) := hs
 have HKO : Hid (¬ K rb) := hko
 have HL : Hid (n ≤ l.length) := hn
 have hlo : n ≤ s.n := by omega
 have hsc : s.n ≤ s.cap := hs.cap
 clear hrow hs hko hn hsn
 go_enter Try.func84, Try.ntmps84
 go_wp2_with (first
  | (go_at_call 83; refine (must_yes _).mono ?_; rintro e w1 ⟨rfl, hw1⟩; obtain rfl : w = w1 := hw1.symm; clear hw1)
  | (refine wp_sliceLo (by rfl) 35 5 (.tmp 25) (.tmp 26) (by rfl) s.a s.n s.cap n 1 (by rfl) (by rfl) Try.underlying35 HI.out hlo hsc ?_))
 go_ret
 have hf : Frame (fun k => k = rb) w (w.setCell ⟨rb, 0, none⟩ (.slice (cutS s.a s.cap n 1) (s.n - n) (s.cap - n))) := (Frame.refl (fun k => k = rb) _).setCell (p := ⟨rb, 0, none⟩) rfl _
 have ht := HS.out.take n HL.out
 have ht2 : SubS w K ⟨s.a, n, n⟩ (l.take n) := ⟨⟨ht.bs.sl, ht.bs.n, fun e => by have := ht.bs.nil e; have : s.cap = 0 := this; show n = 0; omega, ht.bs.lt⟩, Nat.le_refl _, ht.k⟩
 refine ⟨⟨s.a, n, n⟩, rfl, hf, by simp, ht2.frame hf (fun k hk e => HKO.out (e ▸ hk)), rfl, ⟨cutS s.a s.cap n 1, s.n - n, s.cap - n⟩, by have h := RowV.set HRW.out 0 (SlR.val ⟨cutS s.a s.cap n 1, s.n - n, s.cap - n⟩); simpa [SlR.val] using h, (HS.out.drop n HL.out).frame hf (fun k hk e => HKO.out (e ▸ hk)), HKO.out⟩
set_option maxRecDepth 100000 in
set_option maxHeartbeats 1000000 in
theorem take_no (K : Nat → Prop) (rb n : Nat) (l : List UInt8) (w : World) (h : RdP w K rb l) (hn : ¬ n ≤ l.length) :
  Calls Try.prog 84 #[.pointer (some ⟨rb, 0, none⟩), .int .i64 (n : Int)] w fun e w' => e = pkE ∧ w' = w := by
 obtain ⟨s, hrow, hs, hko⟩ := h
 have r0 : w.cell? ⟨rb, 0, none⟩ = some (.slice s.a s.n s.cap) := RowV.cell hrow 0 (by simp)
 have hsn := hs.bs.n
 have hnI : ¬ (n : Int) ≤ s.n := by omega
 clear hrow hs hko hn hsn
 go_enter Try.func84, Try.ntmps84
 go_wp2_with (go_at_call 83; refine (must_no _).mono ?_; rintro e w1 ⟨rfl, hw1⟩; obtain rfl : w = w1 := hw1.symm; clear hw1; unfold pkE)
 exact ⟨rfl, rfl, rfl⟩
set_option maxRecDepth 100000 in
set_option maxHeartbeats 1000000 in
theorem number_yes (K : Nat → Prop) (rb : Nat) (x : UInt8) (l : List UInt8) (w : World) (h : RdP w K rb (x :: l)) :
  Calls Try.prog 94 #[.pointer (some ⟨rb, 0, none⟩)] w fun e w' => e = .returned (.int .i64 (x.toNat : Int)) ∧ Frame (fun k => k = rb) w w' ∧ w'.heap.size = w.heap.size ∧ RdP w' K rb l := by
 have HT : Hid (Calls _ _ _ _ _) := take_yes K rb 1 (x :: l) w h (by simp)
 clear h
 go_enter Try.func94, Try.ntmps94
 go_wp2_with fail
 refine HT.out.mono ?_
 rintro e w1 ⟨s', rfl, hf, hz, hs, hc, hr⟩
 obtain ⟨b, o, ha, hb, hcell⟩ := hs.bs.sl 0 (by simp)
 have hn1 : s'.n = 1 := by have := hs.bs.n; simpa using this
 have HR : Hid (RdP w1 K rb l) := hr
 obtain ⟨sa, sn, sc⟩ := s'
 simp only at ha hn1
 subst ha; subst hn1
 have hxl := x.toNat_lt
 have hw := wrap64_toNat8 x
 simp only [Nat.add_zero] at hcell
 have hcell' : w1.cell? ⟨b, o, none⟩ = some (.int .u8 (x.toNat : Int)) := by rw [hcell]; rfl
 clear hcell hs hr
 unfold SlR.val
 go_wp2
 go_ret
 exact ⟨by first | rfl | (simp [hw]), hf, hz, HR.out⟩
set_option maxRecDepth 100000 in
set_option maxHeartbeats 1000000 in
theorem number_no (K : Nat → Prop) (rb : Nat) (w : World) (h : RdP w K rb []) :
  Calls Try.prog 94 #[.pointer (some ⟨rb, 0, none⟩)] w fun e w' => e = pkE ∧ w' = w := by
 have HT : Hid (Calls _ _ _ _ _) := take_no K rb 1 [] w h (by simp)
 clear h
 go_enter Try.func94, Try.ntmps94
 go_wp2_with fail
 refine HT.out.mono ?_
 rintro e w1 ⟨rfl, rfl⟩
 unfold pkE
 go_wp2
 exact ⟨rfl, rfl, rfl⟩
end Go.Proofs.Ytekegfbjbainhaa


namespace Go.Proofs.Ytekegfbjbainhaa
open Go.RowKit
attribute [local go_sem ↓] Go.wp_at_zero Go.wp_at_succ
def cntPost (w : World) (K : Nat → Prop) (rb : Nat) (b : List UInt8) (o : Option (List UInt8)) (e : Ending) (w' : World) : Prop :=
 Frame (fun k => k = rb) w w' ∧ w'.heap.size = w.heap.size ∧ match o with
  | none => e = pkE
  | some r => ∃ s' : SlR, e = .returned s'.val ∧ SubS w' K s' b ∧ RdP w' K rb r
theorem takeP_any (K : Nat → Prop) (rb n : Nat) (l : List UInt8) (w : World) (h : RdP w K rb l) :
  Calls Try.prog 84 #[.pointer (some ⟨rb, 0, none⟩), .int .i64 (n : Int)] w (cntPost w K rb (takeB n (some l)) (takeR n (some l))) := by
 by_cases hn : n ≤ l.length
 ·refine (take_yes K rb n l w h hn).mono ?_
  rintro e w' ⟨s', rfl, hf, hz, hs, hc, hr⟩
  have e1 : takeB n (some l) = l.take n := by show (if n ≤ l.length then l.take n else []) = _; rw [if_pos hn]
  have e2 : takeR n (some l) = some (l.drop n) := by show (if n ≤ l.length then some (l.drop n) else none) = _; rw [if_pos hn]
  rw [e1, e2]
  exact ⟨hf, hz, s', rfl, hs, hr⟩
 ·refine (take_no K rb n l w h hn).mono ?_
  rintro e w' ⟨rfl, rfl⟩
  have e2 : takeR n (some l) = none := by show (if n ≤ l.length then some (l.drop n) else none) = _; rw [if_neg hn]
  rw [e2]
  exact ⟨Frame.refl _ _, rfl, rfl⟩
theorem numberP_any (K : Nat → Prop) (rb : Nat) (l : List UInt8) (w : World) (h : RdP w K rb l) :
  Calls Try.prog 94 #[.pointer (some ⟨rb, 0, none⟩)] w fun e w' => Frame (fun k => k = rb) w w' ∧ w'.heap.size = w.heap.size ∧ match takeR 1 (some l) with
   | none => e = pkE
   | some r => e = .returned (.int .i64 (oneV (some l) : Int)) ∧ RdP w' K rb r := by
 cases l with
 | nil =>
  refine (number_no K rb w h).mono ?_
  rintro e w' ⟨rfl, rfl⟩
  exact ⟨Frame.refl _ _, rfl, rfl⟩
 | cons x l =>
  refine (number_yes K rb x l w h).mono ?_
  rintro e w' ⟨rfl, hf, hz, hr⟩
  have e2 : takeR 1 (some (x :: l)) = some l := by show (if 1 ≤ (x :: l).length then some ((x :: l).drop 1) else none) = _; rw [if_pos (by simp)]; rfl
  rw [e2]
  exact ⟨hf, hz, rfl, hr⟩
set_option maxRecDepth 100000 in
set_option maxHeartbeats 1000000 in
theorem countedP_any (K : Nat → Prop) (rb : Nat) (l : List UInt8) (w : World) (h : RdP w K rb l) :
  Calls Try.prog 105 #[.pointer (some ⟨rb, 0, none⟩)] w (cntPost w K rb (takeB (oneV (some l)) (takeR 1 (some l))) (takeR (oneV (some l)) (takeR 1 (some l)))) := by
 have HN : Hid (Calls _ _ _ _ _) := numberP_any K rb l w h
 clear h
 go_enter Try.func105, Try.ntmps105
 go_wp2_with fail
 refine HN.out.mono ?_
 rintro e w1 ⟨hf1, hz1, hm⟩
 cases h1 : takeR 1 (some l) with
 | none =>
  rw [h1] at hm
  obtain rfl : e = pkE := hm
  unfold pkE
  go_wp2
  exact ⟨rfl, hf1, hz1, rfl⟩
 | some r =>
  rw [h1] at hm
  obtain ⟨rfl, hr⟩ := hm
  have HT : Hid (Calls _ _ _ _ _) := takeP_any K rb (oneV (some l)) r w1 hr
  have HF : Hid (Frame (fun k => k = rb) w w1) := hf1
  have HZ : Hid (w1.heap.size = w.heap.size) := hz1
  have H1 : Hid (takeR 1 (some l) = some r) := h1
  clear HN hf1 hz1 hr h1
  generalize oneV (some l) = n at *
  go_wp2_with fail
  refine HT.out.mono ?_
  rintro e w2 ⟨hf2, hz2, hm⟩
  have HF2 : Hid (Frame (fun k => k = rb) w w2) := HF.out.trans hf2
  have HZ2 : Hid (w2.heap.size = w.heap.size) := by unfold Hid; rw [hz2]; exact HZ.out
  cases h2 : takeR n (some r) with
  | none =>
   rw [h2] at hm
   obtain rfl : e = pkE := hm
   unfold pkE
   go_wp2
   refine ⟨rfl, HF2.out, HZ2.out, ?_⟩
   rw [H1.out, h2]; rfl
  | some r2 =>
   rw [h2] at hm
   obtain ⟨s', rfl, hs, hr⟩ := hm
   unfold SlR.val
   go_wp2
   go_ret
   refine ⟨HF2.out, HZ2.out, ?_⟩
   rw [H1.out, h2]
   exact ⟨s', rfl, hs, hr⟩
set_option maxRecDepth 100000 in
set_option maxHeartbeats 1000000 in
theorem endP_any (K : Nat → Prop) (rb : Nat) (l : List UInt8) (w : World) (h : RdP w K rb l) :
  Calls Try.prog 64 #[.pointer (some ⟨rb, 0, none⟩)] w fun e w' => w' = w ∧ e = if l = [] then .returned (.tuple #[]) else pkE := by
 obtain ⟨s, hrow, hs, hko⟩ := h
 have r0 : w.cell? ⟨rb, 0, none⟩ = some (.slice s.a s.n s.cap) := RowV.cell hrow 0 (by simp)
 have hsn := hs.bs.n
 clear hrow hs hko
 by_cases hl : l = []
 ·rw [if_pos hl]
  have hz : (s.n : Int) = 0 := by rw [hsn, hl]; rfl
  have hzN : s.n = 0 := by omega
  clear hsn hl
  go_enter Try.func64, Try.ntmps64
  go_wp2_with (go_at_call 83; refine (must_yes _).mono ?_; rintro e w1 ⟨rfl, hw1⟩; obtain rfl : w = w1 := hw1.symm; clear hw1)
  go_returns
  exact ⟨rfl, rfl⟩
 ·rw [if_neg hl]
  have hz : ((s.n : Int) == 0) = false := by
   have : s.n ≠ 0 := fun e => hl (List.length_eq_zero_iff.1 (by omega))
   simp; omega
  clear hsn hl
  go_enter Try.func64, Try.ntmps64
  go_wp2_with (go_at_call 83; refine (must_no _).mono ?_; rintro e w1 ⟨rfl, hw1⟩; obtain rfl : w = w1 := hw1.symm; clear hw1; unfold pkE)
  exact ⟨rfl, rfl, rfl⟩
end Go.Proofs.Ytekegfbjbainhaa
