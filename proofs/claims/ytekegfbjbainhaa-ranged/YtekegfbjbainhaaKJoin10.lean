import Derived.Test.YtekegfbjbainhaaKPr23
set_option linter.unusedVariables false
set_option linter.unusedSimpArgs false

namespace Go.Proofs.Ytekegfbjbainhaa
open Go.RowKit
structure TreeRep (lvls : List (List (List ItR))) (L : List (List Nd)) : Prop where
 its : L.map (fun nds => nds.map (·.its)) = lvls.map (fun ps => ps.map normL)
 lev : ∀ (ℓ : Nat) (nds : List Nd), L[ℓ]? = some nds → ∀ x ∈ nds, x.level = ℓ
 low : ∀ (nds : List Nd), L[0]? = some nds → ∀ x ∈ nds, x.bl = []
 bel : ∀ (ℓ : Nat) (nds up : List Nd) (ps : List (List ItR)), L[ℓ]? = some nds → L[ℓ + 1]? = some up → lvls[ℓ + 1]? = some ps → up.map (·.bl) = ps.map (fun p => p.map (fun it => ((nds[it.below]?).map (·.b)).getD 0))
theorem cutAt_norm (level : Nat) (l : List ItR) : ∀ k, cutAt level (normL l) k = cutAt level l k
 | 0 => rfl
 | k + 1 => by
  have e1 : ((normL l)[k]?.map (·.key)).getD [] = (l[k]?.map (·.key)).getD [] := by
   unfold normL
   rw [List.getElem?_map]
   cases l[k]? <;> rfl
  have e2 : (normL l).length = l.length := by simp [normL]
  unfold cutAt
  rw [e1, e2, cutAt_norm level l k]
theorem cutsN_norm (level : Nat) (l : List ItR) : cutsN level (normL l) = cutsN level l := by
 unfold cutsN
 rw [cutAt_norm]
 simp [normL]
theorem next_length (level : Nat) : ∀ (i : Nat) (ps : List (List ItR)), (nextF level i ps).length = ps.length
 | _, [] => rfl
 | i, p :: r => by simp [nextF, next_length level (i + 1) r]
theorem next_below {α : Type} (level : Nat) (f : Nat → α) : ∀ (ps : List (List ItR)) (i : Nat), (nextF level i ps).map (fun it => f it.below) = (List.range' i ps.length).map f
 | [], _ => rfl
 | p :: r, i => by
  have := next_below level f r (i + 1)
  simp only [nextF, List.map_cons, List.length_cons, List.range'_succ]
  rw [this]
theorem next_blocks (level : Nat) (ps : List (List ItR)) (nds : List Nd) (h : nds.length = ps.length) : (nextF level 0 ps).map (fun it => ((nds[it.below]?).map (·.b)).getD 0) = nds.map (·.b) := by
 rw [next_below level (fun i => ((nds[i]?).map (·.b)).getD 0) ps 0, ← h]
 apply List.ext_getElem
 ·simp
 ·intro i h1 h2
  have hi : i < nds.length := by simpa using h2
  simp [hi]
theorem up_blocks (level : Nat) (lr : List ItR) (nds : List Nd) (f : ItR → Nat) (hf : lr.map f = nds.map (·.b)) (hne : lr ≠ []) :
  (partedN level lr).map (fun p => p.map f) = (cutsN level lr).map (fun c => ((nds.drop c.1).take c.2).map (·.b)) := by
 rw [← cuts_parted level lr hne, List.map_map]
 apply List.map_congr_left
 intro c _
 show ((lr.drop c.1).take c.2).map f = _
 rw [List.map_take, List.map_drop, hf, List.map_take, List.map_drop]
structure LvInv (its : List ItR) (ℓ : Nat) (nds : List Nd) (L : List (List Nd)) (lr : List ItR) (pre : List (List (List ItR))) : Prop where
 gr : grownN its = pre ++ grownF (7 - ℓ) ℓ lr
 pl : pre.length = ℓ
 rep : TreeRep (pre ++ [partedN ℓ lr]) L
 ll : L.length = ℓ + 1
 top : L[ℓ]? = some nds
theorem LvInv.start {its : List ItR} {nds : List Nd} (h : nds.map (·.its) = partedN 0 its) (hnm : ∀ x ∈ its, x.below = 0) (hl : ∀ nd ∈ nds, nd.level = 0 ∧ nd.bl = []) : LvInv its 0 nds [nds] its [] := by
 have e : (partedN 0 its).map normL = partedN 0 its := by rw [← parted_norm, normL_id hnm]
 refine ⟨rfl, rfl, ⟨?_, ?_, ?_, ?_⟩, rfl, rfl⟩
 ·simp [h, e]
 ·intro ℓ nds' h' x hx
  cases ℓ with
  | zero => simp at h'; subst h'; exact (hl x hx).1
  | succ n => simp at h'
 ·intro nds' h' x hx
  simp at h'; subst h'; exact (hl x hx).2
 ·intro ℓ nds' up ps h1 h2 h3
  simp at h2
theorem LvInv.its' {its : List ItR} {ℓ : Nat} {nds : List Nd} {L : List (List Nd)} {lr : List ItR} {pre : List (List (List ItR))} (h : LvInv its ℓ nds L lr pre) : nds.map (·.its) = (partedN ℓ lr).map normL := by
 have e := congrArg (fun l => l[ℓ]?) h.rep.its
 simp only [List.getElem?_map, h.top] at e
 rw [List.getElem?_append_right (by rw [h.pl]; exact Nat.le_refl _), h.pl, Nat.sub_self] at e
 simpa using e
theorem LvInv.up {its : List ItR} {ℓ : Nat} {nds : List Nd} {L : List (List Nd)} {lr : List ItR} {pre : List (List (List ItR))} (h : LvInv its ℓ nds L lr pre) : nds.map upI = normL (nextF ℓ 0 (partedN ℓ lr)) := by
 rw [next_norm]
 have e1 : nds.map upI = (nds.map (·.its)).map (upOf ℓ) := by
  rw [List.map_map]
  apply List.map_congr_left
  intro x hx
  show upOf x.level x.its = upOf ℓ x.its
  rw [h.rep.lev ℓ nds h.top x hx]
 rw [e1, h.its', List.map_map]
 apply List.map_congr_left
 intro p _
 exact up_norm ℓ p
theorem LvInv.next {its : List ItR} {ℓ : Nat} {nds nds' : List Nd} {L : List (List Nd)} {lr : List ItR} {pre : List (List (List ItR))} (h : LvInv its ℓ nds L lr pre) (h1 : nds.length ≠ 1) (hℓ : ℓ < 6) (g2 : nds'.map (·.its) = partedN (ℓ + 1) (nds.map upI)) (g3 : ∀ nd ∈ nds', nd.level = ℓ + 1)
  (g4 : nds'.map (·.bl) = (cutsN (ℓ + 1) (nds.map upI)).map (fun c => ((nds.drop c.1).take c.2).map (·.b))) : LvInv its (ℓ + 1) nds' (L ++ [nds']) (nextF ℓ 0 (partedN ℓ lr)) (pre ++ [partedN ℓ lr]) := by
 have hlen : nds.length = (partedN ℓ lr).length := by simpa using congrArg List.length h.its'
 have hpos := partedN_pos ℓ lr
 have hnn : nextF ℓ 0 (partedN ℓ lr) ≠ [] := fun e => by have := congrArg List.length e; rw [next_length] at this; simp at this; rw [this] at hpos; simp at hpos
 rw [h.up] at g2 g4
 rw [parted_norm] at g2
 rw [cutsN_norm] at g4
 refine ⟨?_, by simp [h.pl], ⟨?_, ?_, ?_, ?_⟩, by simp [h.ll], ?_⟩
 ·rw [h.gr]
  obtain ⟨f, hf⟩ : ∃ f, 7 - ℓ = f + 1 := ⟨6 - ℓ, by omega⟩
  rw [hf, grownF, if_neg (by rw [← hlen]; exact h1), show 7 - (ℓ + 1) = f by omega]
  simp
 ·rw [List.map_append, List.map_append, h.rep.its]
  simp [g2]
 ·intro k nds2 hk x hx
  by_cases hlt : k < L.length
  ·rw [List.getElem?_append_left hlt] at hk
   exact h.rep.lev k nds2 hk x hx
  ·rw [List.getElem?_append_right (by omega)] at hk
   obtain ⟨z1, z2⟩ := List.getElem?_eq_some_iff.1 hk
   simp at z1 z2
   subst z2
   rw [g3 x hx]
   have := h.ll; omega
 ·intro nds2 h0 x hx
  rw [List.getElem?_append_left (by have := h.ll; omega)] at h0
  exact h.rep.low nds2 h0 x hx
 ·intro k n2 up ps e1 e2 e3
  by_cases hlt : k + 1 < L.length
  ·rw [List.getElem?_append_left (by omega)] at e1
   rw [List.getElem?_append_left hlt] at e2
   rw [List.getElem?_append_left (by have := h.ll; simp [h.pl]; omega)] at e3
   exact h.rep.bel k n2 up ps e1 e2 e3
  ·have hk1 : k + 1 ≤ L.length := by
    have := (List.getElem?_eq_some_iff.1 e2).1
    simp at this; omega
   have hk : k = ℓ := by have := h.ll; omega
   subst hk
   rw [List.getElem?_append_left (by have := h.ll; omega), h.top] at e1
   cases e1
   rw [List.getElem?_append_right (by have := h.ll; omega), h.ll, Nat.sub_self] at e2
   simp at e2; subst e2
   rw [List.getElem?_append_right (by simp [h.pl])] at e3
   simp [h.pl] at e3
   subst e3
   rw [g4]
   exact (up_blocks (k + 1) _ nds _ (next_blocks k _ nds hlen) hnn).symm
 ·rw [List.getElem?_append_right (by have := h.ll; omega), h.ll]; simp
theorem LvInv.fin {its : List ItR} {ℓ : Nat} {nd : Nd} {L : List (List Nd)} {lr : List ItR} {pre : List (List (List ItR))} (h : LvInv its ℓ [nd] L lr pre) (hℓ : ℓ ≤ 6) : TreeRep (grownN its) L ∧ L.length = ℓ + 1 ∧ L[ℓ]? = some [nd] := by
 have hlen : 1 = (partedN ℓ lr).length := by simpa using congrArg List.length h.its'
 have e := h.gr
 obtain ⟨f, hf⟩ : ∃ f, 7 - ℓ = f + 1 := ⟨6 - ℓ, by omega⟩
 rw [hf, grownF, if_pos hlen.symm] at e
 rw [e]
 exact ⟨h.rep, h.ll, h.top⟩
structure LvSt (es0 : List MEn) (InF : Nat → Prop) (n0 : Nat) (M : Nat → Prop) (w : World) (L : List (List Nd)) : Prop where
 good : ∀ nds ∈ L, ∀ x ∈ nds, NdOk w x ∧ ∀ k, ndF x k → ¬ M k
 foot : ∀ nds ∈ L, ∀ x ∈ nds, ∀ k, ndF x k → k < n0 → KFoot es0 k ∨ InF k
theorem LvSt.next {es0 : List MEn} {InF : Nat → Prop} {n0 : Nat} {M M' S : Nat → Prop} {w w' : World} {L : List (List Nd)} (h : LvSt es0 InF n0 M w L) (hf : Frame S w w') (hS : ∀ k, S k → M k) (hM : ∀ k, M' k → k < w.heap.size → M k) : LvSt es0 InF n0 M' w' L :=
 ⟨fun nds hn x hx => ⟨(h.good nds hn x hx).1.frame hf (fun k hk e => (h.good nds hn x hx).2 k hk (hS k e)), fun k hk e => (h.good nds hn x hx).2 k hk (hM k e ((h.good nds hn x hx).1.lt k hk))⟩, h.foot⟩
theorem LvSt.frame {es0 : List MEn} {InF : Nat → Prop} {n0 : Nat} {M S : Nat → Prop} {w w' : World} {L : List (List Nd)} (h : LvSt es0 InF n0 M w L) (hf : Frame S w w') (hS : ∀ nds ∈ L, ∀ x ∈ nds, ∀ k, ndF x k → ¬ S k) : LvSt es0 InF n0 M w' L :=
 ⟨fun nds hn x hx => ⟨(h.good nds hn x hx).1.frame hf (hS nds hn x hx), (h.good nds hn x hx).2⟩, h.foot⟩
theorem LvSt.below {es0 : List MEn} {InF : Nat → Prop} {n0 : Nat} {M : Nat → Prop} {w w' : World} {L : List (List Nd)} (h : LvSt es0 InF n0 M w L) (hb : Below w.heap.size w w') : LvSt es0 InF n0 M w' L := h.frame (Frame.of_below_all (S := fun _ => False) hb) (fun _ _ _ _ _ _ e => e)
theorem LvSt.less {es0 : List MEn} {InF : Nat → Prop} {n0 n1 : Nat} {M : Nat → Prop} {w : World} {L : List (List Nd)} (h : LvSt es0 InF n0 M w L) (hn : n1 ≤ n0) : LvSt es0 InF n1 M w L := ⟨h.good, fun nds hn' x hx k hk hlt => h.foot nds hn' x hx k hk (by omega)⟩
theorem LvSt.snoc {es0 : List MEn} {InF : Nat → Prop} {n0 : Nat} {M : Nat → Prop} {w : World} {L : List (List Nd)} {nds : List Nd} (h : LvSt es0 InF n0 M w L) (h1 : ∀ x ∈ nds, NdOk w x ∧ ∀ k, ndF x k → ¬ M k) (h2 : ∀ x ∈ nds, ∀ k, ndF x k → k < n0 → KFoot es0 k ∨ InF k) : LvSt es0 InF n0 M w (L ++ [nds]) := by
 refine ⟨fun n hn x hx => ?_, fun n hn x hx => ?_⟩
 all_goals
  rcases List.mem_append.1 hn with hn | hn
 ·exact h.good n hn x hx
 ·simp only [List.mem_singleton] at hn; subst hn; exact h1 x hx
 ·exact h.foot n hn x hx
 ·simp only [List.mem_singleton] at hn; subst hn; exact h2 x hx
end Go.Proofs.Ytekegfbjbainhaa


namespace Go.Proofs.Ytekegfbjbainhaa
open Go.RowKit
set_option maxRecDepth 100000 in
set_option maxHeartbeats 4000000 in
theorem tree_any (sb N : Nat) (en tr : SlR) (mp : Option Nat) (es : List MEn) (xs : List EnP) (its : List ItR) (w : World) (hR : StoRow w sb en mp tr) (K : KnownAt w sb mp es N) (hN : N ≤ 800000) (hE : EntAt w en xs its) (h60 : its.length ≤ 60) (hok : ∀ x ∈ its, ItOk x) (hnm : ∀ x ∈ its, x.below = 0) (hf : ∀ k, entF en xs k → ¬ KMut sb mp es k) :
  Calls Try.prog 55 #[.pointer (some ⟨sb, 1, none⟩), en.val] w fun e w' => ∃ (o : SlR) (nd : Nd) (M : Nat) (mp' : Option Nat) (es' : List MEn), e = .returned (.pointer (some ⟨nd.b, 0, none⟩)) ∧ TrSt w sb en tr mp es (keyF xs) w' M mp' es' o [nd] ∧ M ≤ N + 500 ∧ (nd.level, nd.its) = growP 7 0 its ∧ ∃ (L : List (List Nd)) (ℓ : Nat), TreeRep (grownN its) L ∧ L.length = ℓ + 1 ∧ L[ℓ]? = some [nd] ∧ LvSt es (keyF xs) w.heap.size (KMut sb mp' es') w' L := by
 have HLOW : Hid (Calls _ _ _ _ _) := lowest_any sb N en tr mp es xs its w hR K (by omega) hE h60 hok hnm hf
 have HP0 : Hid ((partedN 0 its).length ≤ 60) := by
  unfold Hid
  by_cases he : its = []
  ·subst he; simp [partedN, partF]
  ·have := partF_bound 0 its [] he; unfold partedN; omega
 have HNM : Hid (∀ x ∈ its, x.below = 0) := hnm
 clear hE hf hnm hok h60
 unfold SlR.val at HLOW ⊢
 go_enter Try.func55, Try.ntmps55
 go_wp2_with (go_at_call 76; refine HLOW.out.mono ?_; rintro e w1 ⟨o, nds, M, mp1, es1, rfl, hst, hM, hits, hlev⟩)
 have H0 : Hid (TrSt w sb en tr mp es (keyF xs) w1 M mp1 es1 o nds ∧ nds.map (·.its) = partedN 0 its ∧ (∀ nd ∈ nds, nd.level = 0) ∧ nds.length ≤ 60 ∧ LvInv its 0 nds [nds] its [] ∧ LvSt es (keyF xs) w.heap.size (KMut sb mp1 es1) w1 [nds]) := ⟨hst, hits, fun nd h => (hlev nd h).1, by have e1 := congrArg List.length hits; have e2 := HP0.out; rw [List.length_map] at e1; omega, LvInv.start hits HNM.out hlev, LvSt.snoc (L := []) ⟨fun n hn => (by cases hn), fun n hn => (by cases hn)⟩ hst.nodes hst.nfoot⟩
 clear hst hits hlev
 go_loopw [5, 6] (fun nv lv wr => ∃ (ℓ M : Nat) (mp1 : Option Nat) (es1 : List MEn) (o : SlR) (nds : List Nd), ℓ ≤ 6 ∧ lv = .int .i64 ((ℓ : Int) + 1) ∧ nv = o.val ∧ M ≤ N + 61 * (ℓ + 1) ∧ Hid (∃ l, TrSt w sb en tr mp es (keyF xs) wr M mp1 es1 o nds ∧ nds.map (·.its) = partedN ℓ l ∧ (∀ nd ∈ nds, nd.level = ℓ) ∧ nds.length ≤ 60 ∧ growP (7 - ℓ) ℓ l = growP 7 0 its ∧ ∃ L lr pre, LvInv its ℓ nds L lr pre ∧ LvSt es (keyF xs) w.heap.size (KMut sb mp1 es1) wr L)) (fun _ lv _ => 8 - (intOf lv).toNat)
 case atStart => exact ⟨0, M, mp1, es1, o, nds, by omega, by simp, rfl, by omega, its, H0.out.1, H0.out.2.1, H0.out.2.2.1, H0.out.2.2.2.1, rfl, [nds], its, [], H0.out.2.2.2.2.1, H0.out.2.2.2.2.2⟩
 case round =>
  clear H0
  obtain ⟨ℓ, M2, mp2, es2, o2, nds2, hℓ, rfl, rfl, hM2, HX⟩ := hrel
  obtain ⟨l, hT, hI, hL, hlen, hG, L, lr, pre, hLI, hLS⟩ := HX.out
  have hon := (owns_cap (a := o2.a) (n' := o2.n) (cap := o2.cap) hT.own).1
  have hpl : nds2.length = (partedN ℓ l).length := by have := congrArg List.length hI; simpa using this
  have hpos := partedN_pos ℓ l
  by_cases h1 : nds2.length = 1
  ·obtain ⟨nd, rfl⟩ : ∃ nd, nds2 = [nd] := by
    match nds2, h1 with
    | [nd], _ => exact ⟨nd, rfl⟩
   obtain ⟨b, q, hoa, hb, hc⟩ := (SlV.ofOwn (s := o2) hT.own).1 0 (by simp)
   obtain ⟨oa, on, oc⟩ := o2
   simp only at hoa hon
   subst hoa hon
   have hc0 : wr.cell? ⟨b, q, none⟩ = some (.pointer (some ⟨nd.b, 0, none⟩)) := by simpa [ptrV] using hc
   have HG : Hid ((nd.level, nd.its) = growP 7 0 its) := by
    unfold Hid
    rw [← hG]
    obtain ⟨f, hf⟩ : ∃ f, 7 - ℓ = f + 1 := ⟨6 - ℓ, by omega⟩
    rw [hf, growP, if_pos (by rw [← hpl]; rfl), ← hI, hL nd (by simp)]
    rfl
   have HT : Hid (TrSt w sb en tr mp es (keyF xs) wr M2 mp2 es2 ⟨some ⟨b, q, none⟩, 1, oc⟩ [nd]) := hT
   have HLF : Hid (∃ (L : List (List Nd)) (ℓ : Nat), TreeRep (grownN its) L ∧ L.length = ℓ + 1 ∧ L[ℓ]? = some [nd] ∧ LvSt es (keyF xs) w.heap.size (KMut sb mp2 es2) wr L) := ⟨L, ℓ, (hLI.fin hℓ).1, (hLI.fin hℓ).2.1, (hLI.fin hℓ).2.2, hLS⟩
   clear hT hI hL hlen hG hpl hpos HX hc h1 hb hLI hLS
   unfold SlR.val
   go_wp2
   go_ret
   exact ⟨_, nd, M2, mp2, es2, rfl, HT.out, by omega, HG.out, HLF.out⟩
  ·have hgt : 1 < nds2.length := by omega
   have hℓ6 : ℓ < 6 := by
    by_cases h : ℓ < 6
    ·exact h
    ·exfalso
     have := partF_six ℓ h l []
     unfold partedN at hpl
     rw [this] at hpl
     simp at hpl; omega
   have hgI : (1 : Int) < (o2.n : Int) := by omega
   have HUP : Hid (nds2.map upI = (partedN ℓ l).map (upOf ℓ)) := by
    unfold Hid
    rw [← hI, List.map_map]
    apply List.map_congr_left
    intro nd hn
    show upOf nd.level nd.its = upOf ℓ nd.its
    rw [hL nd hn]
   have HC : Hid (Calls _ _ _ _ _) := above_any sb M2 (ℓ + 1) en tr mp2 es2 o2 nds2 wr hT.row hT.known (by omega) (by omega) (by omega) (by intro e; rw [e] at hgt; simp at hgt) hlen (owns_base hT.own (fun k _ => Nat.zero_le _)) (fun k hk => (hT.onew k hk).1) hT.nodes
   have HNEXT : Hid (∀ (w' : World) (o' : SlR) (nds' : List Nd) (M' : Nat) (mp' : Option Nat) (es' : List MEn), TrSt wr sb en tr mp2 es2 (fun k => ∃ nd ∈ nds2, ndF nd k) w' M' mp' es' o' nds' → nds'.map (·.its) = partedN (ℓ + 1) (nds2.map upI) → (∀ nd ∈ nds', nd.level = ℓ + 1) → nds'.map (·.bl) = (cutsN (ℓ + 1) (nds2.map upI)).map (fun c => ((nds2.drop c.1).take c.2).map (·.b)) → ∃ l, TrSt w sb en tr mp es (keyF xs) w' M' mp' es' o' nds' ∧ nds'.map (·.its) = partedN (ℓ + 1) l ∧ (∀ nd ∈ nds', nd.level = ℓ + 1) ∧ nds'.length ≤ 60 ∧ growP (7 - (ℓ + 1)) (ℓ + 1) l = growP 7 0 its ∧ ∃ L lr pre, LvInv its (ℓ + 1) nds' L lr pre ∧ LvSt es (keyF xs) w.heap.size (KMut sb mp' es') w' L) := fun w' o' nds' M' mp' es' g1 g2 g3 g4 => by
    refine ⟨nds2.map upI, hT.compose g1, g2, g3, ?_, ?_, L ++ [nds'], _, _, hLI.next h1 hℓ6 g2 g3 g4, (hLS.next g1.frame (fun k hk => hk) g1.muts).snoc (hT.compose g1).nodes (hT.compose g1).nfoot⟩
    ·have e1 := congrArg List.length g2
     have e2 := partF_bound (ℓ + 1) (nds2.map upI) [] (by intro e; have := congrArg List.length e; simp at this; subst this; simp at hgt)
     unfold partedN at e1
     simp at e1 e2
     omega
    ·rw [HUP.out, ← hG]
     obtain ⟨f, hf⟩ : ∃ f, 7 - ℓ = f + 1 := ⟨6 - ℓ, by omega⟩
     rw [hf, growP, if_neg (by rw [← hpl]; exact h1), show 7 - (ℓ + 1) = f by omega]
   clear hT hI hL hlen hG hpl hpos HX hon hLI hLS
   have hℓI : (ℓ : Int) ≤ 6 := by omega
   have HE1 : Hid (((ℓ + 1 : Nat) : Int) = (ℓ : Int) + 1) := by unfold Hid; omega
   rw [HE1.out] at HC
   unfold SlR.val at HC ⊢
   go_wp2_with (go_at_call 77; refine HC.out.mono ?_; rintro e w' ⟨o', nds', M', mp', es', rfl, g1, gM, g2, g3, g4⟩)
   refine ⟨⟨ℓ + 1, M', mp', es', o', nds', by omega, by go_num, rfl, by omega, HNEXT.out w' o' nds' M' mp' es' g1 g2 g3 g4⟩, by simp [intOf]; omega⟩
end Go.Proofs.Ytekegfbjbainhaa
