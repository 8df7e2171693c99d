import Derived.Test.YtekegfbjbainhaaGreatKPrP3
import Derived.Test.YtekegfbjbainhaaGreatKJoin22
import Derived.Test.YtekegfbjbainhaaGreatKJoin15
/- The program's proofs of ranges and keys, walked. -/
namespace Go.Proofs.YtekegfbjbainhaaGreat
set_option linter.unusedVariables false
set_option linter.unusedSimpArgs false
open Go.RowKit

theorem appendPages_any (lvls : List (List (List ItR))) (L : List (List Nd)) (hT : TreeRep lvls L) (hL : LvlsOk lvls) (sf st : SlR) (fr tu : List UInt8) : ∀ (n j : Nat) (nds : List Nd) (x : Nd) (v : SlR) (l : List UInt8) (base : Nat) (w : World), L[n]? = some nds → nds[j]? = some x → TrAt w base L → BLow w base sf fr → BLow w base st tu → base ≤ w.heap.size → OwnB w base v.val l → l.length + (rangeF lvls fr tu n (pageAt lvls n j)).length ≤ 140737488355328 →
    Calls Tryz.prog 126 #[v.val, .pointer (some ⟨x.b, 0, none⟩), sf.val, st.val] w fun e w' => ∃ v' : SlR, e = .returned v'.val ∧ OwnB w' base v'.val (l ++ rangeF lvls fr tu n (pageAt lvls n j)) ∧ Frame (fun k => v.val.ownBlock = some k) w w' ∧ (∀ k, v'.val.ownBlock = some k → k < w.heap.size → v.val.ownBlock = some k)
  | 0, j, nds, x, v, l, base, w, h1, h2, hA, hF, hS, hb, ho, hlen => by
    obtain ⟨e1, e2, _⟩ := hT.node h1 h2
    obtain ⟨h60, hok, _⟩ := pageAt_ok hL 0 j
    have hbl := hT.low' h1 h2
    have h6 : (codeB 0 (pageAt lvls 0 j)).length ≤ 6000 := by
      have := frameB_length 0 _ hok h60
      simp only [frameB, List.length_cons] at this
      omega
    have hfl : (rangeF lvls fr tu 0 (pageAt lvls 0 j)).length = 2 + (codeB 0 (pageAt lvls 0 j)).length := by
      simp only [rangeF, frameB, List.length_cons]; omega
    have h := pages_step L sf st fr tu x v l (codeB 0 (pageAt lvls 0 j)) [] [] base w hA ⟨nds, List.mem_of_getElem? h1, List.mem_of_getElem? h2⟩ hF hS hb ho (by rw [e1, e2, code_norm]) h6 (by rw [hbl]; rfl) (by simp) (fun W _ i _ h => absurd h (Nat.not_lt_zero _)) rfl (by simp; omega) (fun t _ ht => absurd ht (Nat.not_lt_zero _))
    rw [List.flatten_nil, List.append_nil] at h
    exact h
  | n + 1, j, nds, x, v, l, base, w, h1, h2, hA, hF, hS, hb, ho, hlen => by
    obtain ⟨e1, e2, _⟩ := hT.node h1 h2
    obtain ⟨h60, hok, _⟩ := pageAt_ok hL (n + 1) j
    obtain ⟨hbl, hdn⟩ := hT.down hL h1 h2
    have h6 : (codeB (n + 1) (pageAt lvls (n + 1) j)).length ≤ 6000 := by
      have := frameB_length (n + 1) _ hok h60
      simp only [frameB, List.length_cons] at this
      omega
    have hbeh : behindF lvls fr tu n (pageAt lvls (n + 1) j) (pageAt lvls (n + 1) j).length = ((selI (pageAt lvls (n + 1) j) fr tu (pageAt lvls (n + 1) j).length).map (fun i => rangeF lvls fr tu n (pageAt lvls n (belowAt (pageAt lvls (n + 1) j) i)))).flatten := by
      rw [behind_places]; rfl
    have hfl : (rangeF lvls fr tu (n + 1) (pageAt lvls (n + 1) j)).length = 2 + (codeB (n + 1) (pageAt lvls (n + 1) j)).length + (behindF lvls fr tu n (pageAt lvls (n + 1) j) (pageAt lvls (n + 1) j).length).length := by
      rw [rangeF_succ]
      simp only [frameB, List.length_append, List.length_cons]; omega
    have h := pages_step L sf st fr tu x v l (codeB (n + 1) (pageAt lvls (n + 1) j)) (pageAt lvls (n + 1) j) ((selI (pageAt lvls (n + 1) j) fr tu (pageAt lvls (n + 1) j).length).map (fun i => rangeF lvls fr tu n (pageAt lvls n (belowAt (pageAt lvls (n + 1) j) i)))) base w hA ⟨nds, List.mem_of_getElem? h1, List.mem_of_getElem? h2⟩ hF hS hb ho (by rw [e1, e2, code_norm]) h6 hbl.symm (by omega)
      (fun W hW i hi1 hi2 => by
        obtain ⟨nds', y, g1, g2, g3, g4⟩ := hdn i hi2
        have hy := hW.ok nds' (List.mem_of_getElem? g1) y (List.mem_of_getElem? g2)
        rw [List.getElem?_eq_getElem hi1] at g3
        have g3' := Option.some.inj g3
        rw [g3']
        refine ⟨y.la, hy.row.cellP 0 _ (by simp [ndC]), hy.row.lt, ?_⟩
        have := hy.la
        rw [g4] at this
        exact this)
      (by rw [sel_places]; simp) (by rw [← hbeh]; omega)
      (fun t ht ht2 v2 l2 W hA2 hF2 hS2 hb2 ho2 hl2 => by
        have hti : t < (selI (pageAt lvls (n + 1) j) fr tu (pageAt lvls (n + 1) j).length).length := by simpa using ht2
        have hit := selI_lt (List.getElem_mem hti)
        obtain ⟨nds', y, g1, g2, g3, g4⟩ := hdn _ hit
        have es : (selF (pageAt lvls (n + 1) j) fr tu x.bl (pageAt lvls (n + 1) j).length)[t] = y.b := by
          have e : (selF (pageAt lvls (n + 1) j) fr tu x.bl (pageAt lvls (n + 1) j).length)[t]? = some y.b := by
            rw [sel_places, List.getElem?_map, List.getElem?_eq_getElem hti]
            simp only [Option.map_some, List.getD_eq_getElem?_getD]
            rw [g3]; rfl
          exact (List.getElem?_eq_some_iff.1 e).2
        rw [es]
        simp only [List.getElem_map] at hl2 ⊢
        exact appendPages_any lvls L hT hL sf st fr tu n _ nds' y v2 l2 base W g1 g2 hA2 hF2 hS2 hb2 ho2 hl2)
    rw [← hbeh] at h
    rw [rangeF_succ, ← List.append_assoc]
    exact h

/-- The root of a tree of nodes. -/
theorem TreeRep.root {p : List ItR} {L : List (List Nd)} (h : TreeRep (grownN p) L) {ℓ : Nat} (hl : L.length = ℓ + 1) (fr tu : List UInt8) : prfB p fr tu = rangeF (grownN p) fr tu ℓ (pageAt (grownN p) ℓ 0) := by
  have e : (grownN p).length = ℓ + 1 := by
    have := congrArg List.length h.its
    simp only [List.length_map] at this
    omega
  have e2 : rootPage p = pageAt (grownN p) ℓ 0 := by
    unfold rootPage pageAt
    rw [e, show ℓ + 1 - 1 = ℓ by omega]
    cases ((grownN p)[ℓ]?.getD []) <;> rfl
  unfold prfB
  rw [e2, show rootLevel p = ℓ by unfold rootLevel; omega]

set_option maxRecDepth 100000 in
set_option maxHeartbeats 400000 in
theorem ofRange_any (p : List ItR) (hP : PastR p) (L : List (List Nd)) (hT : TreeRep (grownN p) L) (ℓ : Nat) (nd : Nd) (hl : L.length = ℓ + 1) (hr : L[ℓ]? = some [nd]) (sf st : SlR) (fr tu : List UInt8) (w : World) (hA : ∀ nds ∈ L, ∀ x ∈ nds, NdOk w x) (hF : BS w sf fr) (hS : BS w st tu) :
    Calls Tryz.prog 92 #[.pointer (some ⟨nd.b, 0, none⟩), sf.val, st.val] w fun e w' => ∃ v' : SlR, e = .returned v'.val ∧ OwnB w' w.heap.size v'.val (prfB p fr tu) ∧ Below w.heap.size w w' := by
  have hL := grown_lv p hP.1 hP.2.1 hP.2.2
  have hℓ : ℓ ≤ 6 := by
    have := congrArg List.length hT.its
    simp only [List.length_map] at this
    have := hL.len
    omega
  have HC : Hid (Calls _ _ _ _ _) := appendPages_any (grownN p) L hT hL sf st fr tu ℓ 0 [nd] nd ⟨none, 0, 0⟩ [] w.heap.size w hr rfl ⟨hA, fun nds hn x hx => (hA nds hn x hx).lt⟩ ⟨hF, hF.lt⟩ ⟨hS, hS.lt⟩ (Nat.le_refl _) (World.ownsRow_nil _ _ _ _) (by
    have := range_small hL fr tu ℓ hℓ _ (pageAt_ok hL ℓ 0).1 (pageAt_ok hL ℓ 0).2.1
    simp; omega)
  rw [List.nil_append, ← hT.root hl] at HC
  unfold SlR.val at HC ⊢
  clear hA hF hS hL
  go_enter Tryz.func92, Tryz.ntmps92
  go_wp2_with (go_at_call 126; refine HC.out.mono ?_; rintro e w1 ⟨v1, rfl, ho1, hf1, hv1⟩)
  go_ret
  exact ⟨v1, rfl, ho1, hf1.below (Nat.le_refl _) (fun k hk => by cases hk)⟩

set_option maxRecDepth 100000 in
set_option maxHeartbeats 400000 in
theorem ofKey_any (p : List ItR) (hP : PastR p) (L : List (List Nd)) (hT : TreeRep (grownN p) L) (ℓ : Nat) (nd : Nd) (hl : L.length = ℓ + 1) (hr : L[ℓ]? = some [nd]) (sk : SlR) (key : List UInt8) (w : World) (hA : ∀ nds ∈ L, ∀ x ∈ nds, NdOk w x) (hK : BS w sk key) :
    Calls Tryz.prog 89 #[.pointer (some ⟨nd.b, 0, none⟩), sk.val] w fun e w' => ∃ v' : SlR, e = .returned v'.val ∧ OwnB w' w.heap.size v'.val (prfB p key key) ∧ Below w.heap.size w w' := by
  have HC : Hid (Calls _ _ _ _ _) := ofRange_any p hP L hT ℓ nd hl hr sk sk key key w hA hK hK
  unfold SlR.val at HC ⊢
  clear hA hK
  go_enter Tryz.func89, Tryz.ntmps89
  go_wp2_with (go_at_call 92; refine HC.out.mono ?_; rintro e w1 ⟨v1, rfl, ho1, hb1⟩)
  go_ret
  exact ⟨v1, rfl, ho1, hb1⟩
end Go.Proofs.YtekegfbjbainhaaGreat

/- The program's Prove and ProveRange, walked. -/
namespace Go.Proofs.YtekegfbjbainhaaGreat
set_option linter.unusedVariables false
set_option linter.unusedSimpArgs false
open Go.RowKit

set_option maxRecDepth 100000 in
set_option maxHeartbeats 400000 in
theorem has_any (sb n : Nat) (tr : SlR) (e : Int) (w : World) (c2 : w.cell? ⟨sb, 2, none⟩ = some (.slice tr.a tr.n tr.cap)) (hn : tr.n = n) (h40 : n ≤ 40) :
    Calls Tryz.prog 88 #[.pointer (some ⟨sb, 0, none⟩), .int .i64 e] w fun r w' => r = .returned (.bool (!epochBad n e)) ∧ w' = w := by
  subst hn
  have hnI : (tr.n : Int) ≤ 40 := by omega
  have HCM : Hid (Calls _ _ _ _ _) := commits_any sb tr w c2 h40
  by_cases h0 : e < 0
  · have HE : Hid ((!epochBad tr.n e) = false) := by unfold Hid epochBad; simp [h0]
    have h0' : ¬ 0 ≤ e := by omega
    go_enter Tryz.func88, Tryz.ntmps88
    go_wp2
    go_ret
    exact ⟨by rw [HE.out]; rfl, rfl⟩
  · have h0' : 0 ≤ e := by omega
    by_cases h1 : e < tr.n
    · have HE : Hid ((!epochBad tr.n e) = true) := by unfold Hid epochBad; simp [h0]; omega
      go_enter Tryz.func88, Tryz.ntmps88
      go_wp2_with (go_at_call 94; refine HCM.out.mono ?_; rintro r w1 ⟨rfl, hw1⟩; obtain rfl : w = w1 := hw1.symm; clear hw1)
      go_ret
      have hd : decide (e < (tr.n : Int)) = true := by simp; omega
      exact ⟨by rw [HE.out, ← hd]; rfl, rfl⟩
    · have HE : Hid ((!epochBad tr.n e) = false) := by unfold Hid epochBad; simp [h0]; omega
      go_enter Tryz.func88, Tryz.ntmps88
      go_wp2_with (go_at_call 94; refine HCM.out.mono ?_; rintro r w1 ⟨rfl, hw1⟩; obtain rfl : w = w1 := hw1.symm; clear hw1)
      go_ret
      have hd : decide (e < (tr.n : Int)) = false := by simp; omega
      exact ⟨by rw [HE.out, ← hd]; rfl, rfl⟩

set_option maxRecDepth 100000 in
set_option maxHeartbeats 400000 in
theorem isRange_any (sf st : SlR) (fr tu : List UInt8) (w : World) (hF : BS w sf fr) (hT : BS w st tu) (hfm : fr.length ≤ maxLen) (htm : tu.length ≤ maxLen) :
    Calls Tryz.prog 91 #[sf.val, st.val] w fun r w' => r = .returned (.bool (rngOk fr tu)) ∧ w' = w := by
  have HKF : Hid (Calls _ _ _ _ _) := isKey_any sf.a sf.n sf.cap w (by rw [hF.n]; exact hfm)
  have HKT : Hid (Calls _ _ _ _ _) := isKey_any st.a st.n st.cap w (by rw [hT.n]; exact htm)
  have hfb : (decide (1 ≤ sf.n) && decide (sf.n ≤ 12)) = keyOk fr := by rw [hF.n]; rfl
  have htb : (decide (1 ≤ st.n) && decide (st.n ≤ 12)) = keyOk tu := by rw [hT.n]; rfl
  rw [hfb] at HKF
  rw [htb] at HKT
  have HCM : Hid (Calls _ _ _ _ _) := compare_any sf st fr tu w hF hT
  have HLE := cmp_neg fr tu
  have HBD := cmp_bd fr tu
  generalize Lib.compareBytes fr tu = c at *
  have HR : Hid (rngOk fr tu = (keyOk fr && keyOk tu && Op.bytesLess fr tu)) := rfl
  clear hfb htb hF hT hfm htm
  unfold SlR.val at HCM ⊢
  cases hkf : keyOk fr with
  | false =>
    rw [hkf] at HKF HR
    clear HLE
    go_enter Tryz.func91, Tryz.ntmps91
    go_wp2_with fail
    refine HKF.out.mono ?_
    rintro e w1 ⟨rfl, hw1⟩
    obtain rfl : w = w1 := hw1.symm
    clear hw1
    go_wp2
    go_ret
    exact ⟨by rw [HR.out]; rfl, rfl⟩
  | true =>
    rw [hkf] at HKF HR
    cases hkt : keyOk tu with
    | false =>
      rw [hkt] at HKT HR
      clear HLE
      go_enter Tryz.func91, Tryz.ntmps91
      go_wp2_with fail
      refine HKF.out.mono ?_
      rintro e w1 ⟨rfl, hw1⟩
      obtain rfl : w = w1 := hw1.symm
      clear hw1
      go_wp2_with fail
      refine HKT.out.mono ?_
      rintro e w1 ⟨rfl, hw1⟩
      obtain rfl : w = w1 := hw1.symm
      clear hw1
      go_wp2
      go_ret
      exact ⟨by rw [HR.out]; rfl, rfl⟩
    | true =>
      rw [hkt] at HKT HR
      have HV : Hid (rngOk fr tu = decide (c < 0)) := by
        unfold Hid
        rw [HR.out, Bool.eq_iff_iff]
        simp [HLE]
      clear HLE HR hkf hkt
      by_cases hc : c < 0
      · have HV2 : Hid (rngOk fr tu = true) := by unfold Hid; rw [HV.out]; simp [hc]
        clear HV
        go_enter Tryz.func91, Tryz.ntmps91
        go_wp2_with fail
        refine HKF.out.mono ?_
        rintro e w1 ⟨rfl, hw1⟩
        obtain rfl : w = w1 := hw1.symm
        clear hw1
        go_wp2_with fail
        refine HKT.out.mono ?_
        rintro e w1 ⟨rfl, hw1⟩
        obtain rfl : w = w1 := hw1.symm
        clear hw1
        go_wp2_with fail
        refine HCM.out.mono ?_
        rintro e w1 ⟨rfl, hw1⟩
        obtain rfl : w = w1 := hw1.symm
        clear hw1
        go_wp2
        go_ret
        exact ⟨by rw [HV2.out]; rfl, rfl⟩
      · have HV2 : Hid (rngOk fr tu = false) := by unfold Hid; rw [HV.out]; simp [hc]
        clear HV
        go_enter Tryz.func91, Tryz.ntmps91
        go_wp2_with fail
        refine HKF.out.mono ?_
        rintro e w1 ⟨rfl, hw1⟩
        obtain rfl : w = w1 := hw1.symm
        clear hw1
        go_wp2_with fail
        refine HKT.out.mono ?_
        rintro e w1 ⟨rfl, hw1⟩
        obtain rfl : w = w1 := hw1.symm
        clear hw1
        go_wp2_with fail
        refine HCM.out.mono ?_
        rintro e w1 ⟨rfl, hw1⟩
        obtain rfl : w = w1 := hw1.symm
        clear hw1
        go_wp2
        go_ret
        exact ⟨by rw [HV2.out, ← show decide (c < 0) = false by simpa using hc]; rfl, rfl⟩

/-- The tree of a commit. -/
theorem StoT.tree {w : World} {sb : Nat} {mp : Option Nat} {es : List MEn} {T : List (List (List Nd))} {tds : List Nd} {pp : List (List ItR)} (h : StoT w sb mp es T tds pp) (k : Nat) (hk : k < tds.length) :
    ∃ (L : List (List Nd)) (ℓ : Nat), TreeRep (grownN (pastAt pp k)) L ∧ L.length = ℓ + 1 ∧ L[ℓ]? = some [tds[k]] ∧ PastR (pastAt pp k) ∧ (∀ nds ∈ L, ∀ x ∈ nds, NdOk w x) := by
  have h1 : k < T.length := by rw [h.tl]; exact hk
  have h2 : k < pp.length := by rw [h.pl]; exact hk
  have e : pastAt pp k = pp[k] := by
    unfold pastAt
    simp [h2]
  obtain ⟨g1, ⟨ℓ, g2, g3⟩, g4⟩ := h.rep k T[k] pp[k] tds[k] (List.getElem?_eq_getElem h1) (List.getElem?_eq_getElem h2) (List.getElem?_eq_getElem hk)
  rw [e]
  exact ⟨T[k], ℓ, g1, g2, g3, ⟨g4.rise, g4.ok, g4.len⟩, fun nds hn x hx => (h.good T[k] (List.getElem_mem h1) nds hn x hx).1⟩

set_option maxRecDepth 100000 in
set_option maxHeartbeats 1000000 in
theorem sto_prove (sb N : Nat) (en tr : SlR) (mp : Option Nat) (es : List MEn) (xs : List EnP) (its : List ItR) (tds : List Nd) (T : List (List (List Nd))) (pp : List (List ItR)) (e : Int) (sk : SlR) (key : List UInt8) (w : World) (h : StoAt w sb N en tr mp es xs its tds) (ht : StoT w sb mp es T tds pp) (h40 : tds.length ≤ 40) (hK : BS w sk key) (hkm : key.length ≤ maxLen) :
    Calls Tryz.prog 46 #[.pointer (some ⟨sb, 0, none⟩), .int .i64 e, sk.val] w fun r w' => ∃ v' : SlR, r = .returned (.tuple #[v'.val, .int .i64 (prvE pp.length e key : Int)]) ∧ OwnB w' w.heap.size v'.val (prvB pp e key) ∧ Below w.heap.size w w' := by
  obtain ⟨hts, htn⟩ := SlV.ofOwn (s := tr) h.own
  have c2 : w.cell? ⟨sb, 2, none⟩ = some (.slice tr.a tr.n tr.cap) := RowV.cell h.row 2 (by simp)
  have HHS : Hid (Calls _ _ _ _ _) := has_any sb tds.length tr e w c2 htn h40
  have HKF : Hid (Calls _ _ _ _ _) := isKey_any sk.a sk.n sk.cap w (by rw [hK.n]; exact hkm)
  have hkb : (decide (1 ≤ sk.n) && decide (sk.n ≤ 12)) = keyOk key := by rw [hK.n]; rfl
  rw [hkb] at HKF
  have hpl := ht.pl
  rw [← hpl] at HHS
  have htI : (tr.n : Int) ≤ 40 := by omega
  cases he : epochBad pp.length e with
  | true =>
    have HV : Hid (prvE pp.length e key = 4 ∧ prvB pp e key = []) := by
      have : prvE pp.length e key = 4 := by unfold prvE; rw [if_pos he]
      exact ⟨this, by unfold prvB; rw [this]; rfl⟩
    rw [he] at HHS
    clear hts htn hkb h ht hK hpl he
    unfold SlR.val
    go_enter Tryz.func46, Tryz.ntmps46
    go_wp2_with (go_at_call 88; refine HHS.out.mono ?_; rintro r w1 ⟨rfl, hw1⟩; obtain rfl : w = w1 := hw1.symm; clear hw1)
    go_ret2
    exact ⟨⟨none, 0, 0⟩, by rw [HV.out.1]; rfl, by rw [HV.out.2]; exact World.ownsRow_nil _ _ _ _, Below.refl _ _⟩
  | false =>
    rw [he] at HHS
    cases hk : keyOk key with
    | false =>
      have HV : Hid (prvE pp.length e key = 1 ∧ prvB pp e key = []) := by
        have : prvE pp.length e key = 1 := by unfold prvE; rw [if_neg (by rw [he]; decide), if_pos hk]
        exact ⟨this, by unfold prvB; rw [this]; rfl⟩
      rw [hk] at HKF
      clear hts htn hkb h ht hK hpl he hk
      unfold SlR.val
      go_enter Tryz.func46, Tryz.ntmps46
      go_wp2_with (first | (go_at_call 88; refine HHS.out.mono ?_; rintro r w1 ⟨rfl, hw1⟩; obtain rfl : w = w1 := hw1.symm; clear hw1) | (go_at_call 27; refine HKF.out.mono ?_; rintro r w2 ⟨rfl, hw2⟩; obtain rfl : w = w2 := hw2.symm; clear hw2))
      go_ret2
      exact ⟨⟨none, 0, 0⟩, by rw [HV.out.1]; rfl, by rw [HV.out.2]; exact World.ownsRow_nil _ _ _ _, Below.refl _ _⟩
    | true =>
      obtain ⟨k, rfl, hkn⟩ := epoch_in he
      have hkt : k < tds.length := by omega
      obtain ⟨L, ℓ, g1, g2, g3, g4, g5⟩ := ht.tree k hkt
      have HOK : Hid (Calls _ _ _ _ _) := ofKey_any _ g4 L g1 ℓ tds[k] g2 g3 sk key w g5 hK
      have HV : Hid (prvE pp.length (k : Int) key = 0 ∧ prvB pp (k : Int) key = prfB (pastAt pp k) key key) := by
        have : prvE pp.length (k : Int) key = 0 := by unfold prvE; rw [if_neg (by rw [he]; decide), if_neg (by rw [hk]; decide)]
        exact ⟨this, by unfold prvB; rw [this]; rfl⟩
      obtain ⟨b, o, hta, hb, hc⟩ := hts k (by simpa using hkt)
      have c3 : w.cell? ⟨b, o + k, none⟩ = some (.pointer (some ⟨tds[k].b, 0, none⟩)) := by rw [hc]; simp [ptrV]
      have hkI : (k : Int) < tr.n := by omega
      rw [hk] at HKF
      generalize tds[k] = nd at *
      obtain ⟨ta, tn, tc⟩ := tr
      simp only at hta c2 hkI htI
      subst hta
      clear hts htn hkb h ht hK hpl he hk g1 g2 g3 g4 g5 hc
      unfold SlR.val at HOK ⊢
      go_enter Tryz.func46, Tryz.ntmps46
      go_wp2_with (first | (go_at_call 88; refine HHS.out.mono ?_; rintro r w1 ⟨rfl, hw1⟩; obtain rfl : w = w1 := hw1.symm; clear hw1) | (go_at_call 27; refine HKF.out.mono ?_; rintro r w2 ⟨rfl, hw2⟩; obtain rfl : w = w2 := hw2.symm; clear hw2) | (go_at_call 89; refine HOK.out.mono ?_; rintro r w3 ⟨v3, rfl, ho3, hb3⟩))
      go_ret2
      exact ⟨v3, by rw [HV.out.1]; rfl, by rw [HV.out.2]; exact ho3, hb3⟩

set_option maxRecDepth 100000 in
set_option maxHeartbeats 1000000 in
theorem sto_range (sb N : Nat) (en tr : SlR) (mp : Option Nat) (es : List MEn) (xs : List EnP) (its : List ItR) (tds : List Nd) (T : List (List (List Nd))) (pp : List (List ItR)) (e : Int) (sf st : SlR) (fr tu : List UInt8) (w : World) (h : StoAt w sb N en tr mp es xs its tds) (ht : StoT w sb mp es T tds pp) (h40 : tds.length ≤ 40) (hF : BS w sf fr) (hT : BS w st tu) (hfm : fr.length ≤ maxLen) (htm : tu.length ≤ maxLen) :
    Calls Tryz.prog 48 #[.pointer (some ⟨sb, 0, none⟩), .int .i64 e, sf.val, st.val] w fun r w' => ∃ v' : SlR, r = .returned (.tuple #[v'.val, .int .i64 (rngE pp.length e fr tu : Int)]) ∧ OwnB w' w.heap.size v'.val (rngB pp e fr tu) ∧ Below w.heap.size w w' := by
  obtain ⟨hts, htn⟩ := SlV.ofOwn (s := tr) h.own
  have c2 : w.cell? ⟨sb, 2, none⟩ = some (.slice tr.a tr.n tr.cap) := RowV.cell h.row 2 (by simp)
  have HHS : Hid (Calls _ _ _ _ _) := has_any sb tds.length tr e w c2 htn h40
  have HKF : Hid (Calls _ _ _ _ _) := isRange_any sf st fr tu w hF hT hfm htm
  have hpl := ht.pl
  rw [← hpl] at HHS
  have htI : (tr.n : Int) ≤ 40 := by omega
  cases he : epochBad pp.length e with
  | true =>
    have HV : Hid (rngE pp.length e fr tu = 4 ∧ rngB pp e fr tu = []) := by
      have : rngE pp.length e fr tu = 4 := by unfold rngE; rw [if_pos he]
      exact ⟨this, by unfold rngB; rw [this]; rfl⟩
    rw [he] at HHS
    clear hts htn h ht hF hT hpl he
    unfold SlR.val
    go_enter Tryz.func48, Tryz.ntmps48
    go_wp2_with (go_at_call 88; refine HHS.out.mono ?_; rintro r w1 ⟨rfl, hw1⟩; obtain rfl : w = w1 := hw1.symm; clear hw1)
    go_ret2
    exact ⟨⟨none, 0, 0⟩, by rw [HV.out.1]; rfl, by rw [HV.out.2]; exact World.ownsRow_nil _ _ _ _, Below.refl _ _⟩
  | false =>
    rw [he] at HHS
    cases hk : rngOk fr tu with
    | false =>
      have HV : Hid (rngE pp.length e fr tu = 1 ∧ rngB pp e fr tu = []) := by
        have : rngE pp.length e fr tu = 1 := by unfold rngE; rw [if_neg (by rw [he]; decide), if_pos hk]
        exact ⟨this, by unfold rngB; rw [this]; rfl⟩
      rw [hk] at HKF
      clear hts htn h ht hF hT hpl he hk
      unfold SlR.val at HKF ⊢
      go_enter Tryz.func48, Tryz.ntmps48
      go_wp2_with (first | (go_at_call 88; refine HHS.out.mono ?_; rintro r w1 ⟨rfl, hw1⟩; obtain rfl : w = w1 := hw1.symm; clear hw1) | (go_at_call 91; refine HKF.out.mono ?_; rintro r w2 ⟨rfl, hw2⟩; obtain rfl : w = w2 := hw2.symm; clear hw2))
      go_ret2
      exact ⟨⟨none, 0, 0⟩, by rw [HV.out.1]; rfl, by rw [HV.out.2]; exact World.ownsRow_nil _ _ _ _, Below.refl _ _⟩
    | true =>
      obtain ⟨k, rfl, hkn⟩ := epoch_in he
      have hkt : k < tds.length := by omega
      obtain ⟨L, ℓ, g1, g2, g3, g4, g5⟩ := ht.tree k hkt
      have HOK : Hid (Calls _ _ _ _ _) := ofRange_any _ g4 L g1 ℓ tds[k] g2 g3 sf st fr tu w g5 hF hT
      have HV : Hid (rngE pp.length (k : Int) fr tu = 0 ∧ rngB pp (k : Int) fr tu = prfB (pastAt pp k) fr tu) := by
        have : rngE pp.length (k : Int) fr tu = 0 := by unfold rngE; rw [if_neg (by rw [he]; decide), if_neg (by rw [hk]; decide)]
        exact ⟨this, by unfold rngB; rw [this]; rfl⟩
      obtain ⟨b, o, hta, hb, hc⟩ := hts k (by simpa using hkt)
      have c3 : w.cell? ⟨b, o + k, none⟩ = some (.pointer (some ⟨tds[k].b, 0, none⟩)) := by rw [hc]; simp [ptrV]
      have hkI : (k : Int) < tr.n := by omega
      rw [hk] at HKF
      generalize tds[k] = nd at *
      obtain ⟨ta, tn, tc⟩ := tr
      simp only at hta c2 hkI htI
      subst hta
      clear hts htn h ht hF hT hpl he hk g1 g2 g3 g4 g5 hc
      unfold SlR.val at HOK HKF ⊢
      go_enter Tryz.func48, Tryz.ntmps48
      go_wp2_with (first | (go_at_call 88; refine HHS.out.mono ?_; rintro r w1 ⟨rfl, hw1⟩; obtain rfl : w = w1 := hw1.symm; clear hw1) | (go_at_call 91; refine HKF.out.mono ?_; rintro r w2 ⟨rfl, hw2⟩; obtain rfl : w = w2 := hw2.symm; clear hw2) | (go_at_call 92; refine HOK.out.mono ?_; rintro r w3 ⟨v3, rfl, ho3, hb3⟩))
      go_ret2
      exact ⟨v3, by rw [HV.out.1]; rfl, by rw [HV.out.2]; exact ho3, hb3⟩
end Go.Proofs.YtekegfbjbainhaaGreat
