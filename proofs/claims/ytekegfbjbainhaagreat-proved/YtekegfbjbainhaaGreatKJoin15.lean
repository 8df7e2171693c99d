import Derived.Test.YtekegfbjbainhaaGreatKJoin14
import Derived.Test.YtekegfbjbainhaaGreatKJoin6
import Derived.Test.YtekegfbjbainhaaGreatKPr28
/- The reference's store: its blocks; Put, Delete and Commit, all ways together. -/
namespace Go.Proofs.YtekegfbjbainhaaGreat
set_option linter.unusedVariables false
set_option linter.unusedSimpArgs false
open Go.RowKit

/-- Its blocks. -/
def refF (rb : Nat) (now past roots : SlR) (pastL : List (SlR × List ItR)) (k : Nat) : Prop := k = rb ∨ now.val.ownBlock = some k ∨ past.val.ownBlock = some k ∨ roots.val.ownBlock = some k ∨ ∃ q ∈ pastL, q.1.val.ownBlock = some k
theorem RefAt.lt {w : World} {rb base : Nat} {now past roots : SlR} {nowL : List ItR} {pastL : List (SlR × List ItR)} {rootsL : List (List UInt8)} (h : RefAt w rb base now past roots nowL pastL rootsL) : ∀ k, refF rb now past roots pastL k → k < w.heap.size := fun k hk => by
  rcases hk with rfl | hk | hk | hk | ⟨q, hq, hk⟩
  · exact RowV.lt h.row
  · exact (World.ownsRow.lt h.hnow k hk).2
  · exact (h.hpast.lt k hk).2
  · exact (h.hroots.lt k hk).2
  · exact (World.ownsRow.lt (h.hpok q hq) k hk).2
theorem RefAt.frame {w W : World} {S : Nat → Prop} {rb base : Nat} {now past roots : SlR} {nowL : List ItR} {pastL : List (SlR × List ItR)} {rootsL : List (List UInt8)} (h : RefAt w rb base now past roots nowL pastL rootsL) (hf : Frame S w W) (hS : ∀ k, refF rb now past roots pastL k → ¬ S k) : RefAt W rb base now past roots nowL pastL rootsL :=
  ⟨RowV.of_block h.row (hf.block _ (RowV.lt h.row) (hS _ (Or.inl rfl))), owns_frame h.hnow hf (fun k hk => hS k (Or.inr (Or.inl hk))), owns_frame h.hpast hf (fun k hk => hS k (Or.inr (Or.inr (Or.inl hk)))), fun q hq => owns_frame (h.hpok q hq) hf (fun k hk => hS k (Or.inr (Or.inr (Or.inr (Or.inr ⟨q, hq, hk⟩))))), owns_frame h.hroots hf (fun k hk => hS k (Or.inr (Or.inr (Or.inr (Or.inl hk))))), h.h8⟩

/-- A new list of what is there, in the store's row. -/
theorem RefAt.renow {w w' : World} {rb : Nat} {now past roots : SlR} {nowL l' : List ItR} {pastL : List (SlR × List ItR)} {rootsL : List (List UInt8)} (h : RefAt w rb 0 now past roots nowL pastL rootsL) {v : Value} (hr : RefRow w' rb v past.val roots.val) (ho : OwnI w' w.heap.size v l') (hf : Frame (fun k => k = rb) w w') :
    ∃ now', RefAt w' rb 0 now' past roots l' pastL rootsL ∧ (∀ k, refF rb now' past roots pastL k → k < w.heap.size → refF rb now past roots pastL k) := by
  obtain ⟨a, cap, rfl, _⟩ := owns_form ho
  refine ⟨⟨a, l'.length, cap⟩, ⟨hr, owns_base ho (fun k _ => Nat.zero_le k), owns_frame h.hpast hf (fun k hk e => owns_ne h.hpast h.row (by decide) (by rw [hk, e])), fun q hq => owns_frame (h.hpok q hq) hf (fun k hk e => owns_ne (h.hpok q hq) h.row (by decide) (by rw [hk, e])), owns_frame h.hroots hf (fun k hk e => owns_ne h.hroots h.row (by decide) (by rw [hk, e])), h.h8⟩, ?_⟩
  intro k hk hlt
  rcases hk with hk | hk | hk
  · exact Or.inl hk
  · have := (World.ownsRow.lt ho k hk).1; omega
  · exact Or.inr (Or.inr hk)

theorem ref_put (rb : Nat) (now past roots : SlR) (nowL : List ItR) (pastL : List (SlR × List ItR)) (rootsL : List (List UInt8)) (sk sv : SlR) (key value : List UInt8) (w : World) (h : RefAt w rb 0 now past roots nowL pastL rootsL) (hl : nowL.length ≤ 60) (hK : BS w sk key) (hV : BS w sv value) (hkm : key.length ≤ maxLen) (hvm : value.length ≤ maxLen) (hkn : sk.a = none → sk.cap = 0) (hvn : sv.a = none → sv.cap = 0) :
    Calls Tryz.prog 41 #[.pointer (some ⟨rb, 0, none⟩), sk.val, sv.val] w fun e w' => e = .returned (.int .i64 (putE nowL key value : Int)) ∧ ∃ now', RefAt w' rb 0 now' past roots (putL nowL key value) pastL rootsL ∧ Frame (fun k => k = rb) w w' ∧ (∀ k, refF rb now' past roots pastL k → k < w.heap.size → refF rb now past roots pastL k) := by
  by_cases ha : (keyOk key && decide (value.length ≤ 12)) = false
  · have he : putE nowL key value = 1 := by unfold putE; rw [if_pos ha]
    have hl : putL nowL key value = nowL := by unfold putL; rw [he]; rfl
    rw [he, hl]
    refine (refPut_arg (.pointer (some ⟨rb, 0, none⟩)) sk.a sv.a sk.n sk.cap sv.n sv.cap w (by rw [hK.n]; exact hkm) (by rw [hV.n]; exact hvm) (by rw [hK.n, hV.n]; exact ha)).mono ?_
    rintro e w' ⟨rfl, rfl⟩
    exact ⟨rfl, now, h, Frame.refl _ _, fun k hk _ => hk⟩
  · have ha' : keyOk key = true ∧ value.length ≤ 12 := by
      have := (Bool.not_eq_false _).mp ha
      simpa using this
    have hk : 1 ≤ key.length ∧ key.length ≤ 12 := by have := ha'.1; unfold keyOk at this; simpa using this
    obtain ⟨ka, kn, kc⟩ := sk
    obtain ⟨va, vn, vc⟩ := sv
    have ekn : kn = key.length := hK.n
    have evn : vn = value.length := hV.n
    subst ekn evn
    by_cases hf : thereB nowL key = false ∧ nowL.length = 60
    · have he : putE nowL key value = 2 := by unfold putE; rw [if_neg ha, if_pos hf]
      have hl : putL nowL key value = nowL := by unfold putL; rw [he]; rfl
      rw [he, hl]
      refine (refPut_full rb now.val past.val roots.val ka va kc _ vc 0 nowL key w hk.1 hk.2 ha'.2 hf.2 h.row h.hnow hK.sl hkn hf.1).mono ?_
      rintro e w' ⟨rfl, n, rfl⟩
      have hb : Below w.heap.size w (w.drewN n) := have hb0 := Below.refl w.heap.size w; ⟨hb0.os, hb0.tape, hb0.output, hb0.size, hb0.block⟩
      exact ⟨rfl, now, h.below hb, Frame.of_below_all hb, fun k hk _ => hk⟩
    · have he : putE nowL key value = 0 := by unfold putE; rw [if_neg ha, if_neg hf]
      have hle : putL nowL key value = putN nowL key value := by unfold putL; rw [he]; rfl
      rw [he, hle]
      have hfl : thereB nowL key = false → nowL.length < 60 := fun ht => by
        by_cases h6 : nowL.length = 60
        · exact absurd ⟨ht, h6⟩ hf
        · omega
      obtain ⟨na, nn, nc⟩ := now
      obtain ⟨hnn, hnc, _, had⟩ := owns_cap (a := na) (n' := nn) (cap := nc) h.hnow
      rcases had with ⟨rfl, hz, hcz⟩ | ⟨g, rfl, _, _⟩
      · have hnil : nowL = [] := List.length_eq_zero_iff.1 hz
        subst hnil
        subst hcz
        rw [hz] at hnn; subst hnn
        refine (refPut_nil rb past.val roots.val ka va kc vc key value w hk.1 hk.2 ha'.2 h.row hK.sl hV.sl hkn hvn).mono ?_
        rintro e w' ⟨rfl, v, g1, g2, g3⟩
        obtain ⟨now', g4, g5⟩ := RefAt.renow h g1 g2 g3
        exact ⟨rfl, now', g4, g3, g5⟩
      · refine (refPut_some rb g nn nc past.val roots.val ka va kc vc 0 nowL key value w hk.1 hk.2 ha'.2 hl hnn h.row h.hnow hK.sl hV.sl hkn hvn hfl).mono ?_
        rintro e w' ⟨rfl, v, g1, g2, g3⟩
        obtain ⟨now', g4, g5⟩ := RefAt.renow h g1 g2 g3
        exact ⟨rfl, now', g4, g3, g5⟩

theorem ref_del (rb : Nat) (now past roots : SlR) (nowL : List ItR) (pastL : List (SlR × List ItR)) (rootsL : List (List UInt8)) (sk : SlR) (key : List UInt8) (w : World) (h : RefAt w rb 0 now past roots nowL pastL rootsL) (hl : nowL.length ≤ 60) (hK : BS w sk key) (hkm : key.length ≤ maxLen) (hkn : sk.a = none → sk.cap = 0) :
    Calls Tryz.prog 43 #[.pointer (some ⟨rb, 0, none⟩), sk.val] w fun e w' => e = .returned (.int .i64 (delE nowL key : Int)) ∧ ∃ now', RefAt w' rb 0 now' past roots (delL nowL key) pastL rootsL ∧ Frame (fun k => k = rb) w w' ∧ (∀ k, refF rb now' past roots pastL k → k < w.heap.size → refF rb now past roots pastL k) := by
  by_cases ha : keyOk key = false
  · have he : delE nowL key = 1 := by unfold delE; rw [if_pos ha]
    have hl : delL nowL key = nowL := by unfold delL; rw [he]; rfl
    rw [he, hl]
    refine (refDel_arg (.pointer (some ⟨rb, 0, none⟩)) sk.a sk.n sk.cap w (by rw [hK.n]; exact hkm) (by rw [hK.n]; exact ha)).mono ?_
    rintro e w' ⟨rfl, rfl⟩
    exact ⟨rfl, now, h, Frame.refl _ _, fun k hk _ => hk⟩
  · have ha' : keyOk key = true := (Bool.not_eq_false _).mp ha
    have hk : 1 ≤ key.length ∧ key.length ≤ 12 := by unfold keyOk at ha'; simpa using ha'
    obtain ⟨ka, kn, kc⟩ := sk
    have ekn : kn = key.length := hK.n
    subst ekn
    by_cases hf : thereB nowL key = false
    · have he : delE nowL key = 3 := by unfold delE; rw [if_neg ha, if_pos hf]
      have hle : delL nowL key = nowL := by unfold delL; rw [he]; rfl
      rw [he, hle]
      refine (refDel_none rb now.val past.val roots.val ka kc 0 nowL key w hk.1 hk.2 hl h.row h.hnow hK.sl hkn hf).mono ?_
      rintro e w' ⟨rfl, n, rfl⟩
      have hb : Below w.heap.size w (w.drewN n) := have hb0 := Below.refl w.heap.size w; ⟨hb0.os, hb0.tape, hb0.output, hb0.size, hb0.block⟩
      exact ⟨rfl, now, h.below hb, Frame.of_below_all hb, fun k hk _ => hk⟩
    · have ht : thereB nowL key = true := (Bool.not_eq_false _).mp hf
      have he : delE nowL key = 0 := by unfold delE; rw [if_neg ha, if_neg hf]
      have hle : delL nowL key = delN nowL key := by unfold delL; rw [he]; rfl
      rw [he, hle]
      have hpos := thereB_lt ht
      obtain ⟨na, nn, nc⟩ := now
      obtain ⟨hnn, hnc, _, had⟩ := owns_cap (a := na) (n' := nn) (cap := nc) h.hnow
      rcases had with ⟨rfl, hz, hcz⟩ | ⟨g, rfl, _, _⟩
      · omega
      · refine (refDel_some rb g nn nc past.val roots.val ka kc 0 nowL key w hk.1 hk.2 hl hnn h.row h.hnow hK.sl hkn ht).mono ?_
        rintro e w' ⟨rfl, v, g1, g2, g3⟩
        obtain ⟨now', g4, g5⟩ := RefAt.renow h g1 g2 g3
        exact ⟨rfl, now', g4, g3, g5⟩
end Go.Proofs.YtekegfbjbainhaaGreat

/- The trees of a store's commits; the cells of its commits. -/
namespace Go.Proofs.YtekegfbjbainhaaGreat
set_option linter.unusedVariables false
set_option linter.unusedSimpArgs false
open Go.RowKit

/-- What was there at a commit. -/
structure PastOk (p : List ItR) : Prop where
  rise : Rising p
  ok : ∀ x ∈ p, ItOk x
  norm : ∀ x ∈ p, x.below = 0
  len : p.length ≤ 60
/-- The trees of a store's commits. -/
def treeF (T : List (List (List Nd))) (k : Nat) : Prop := ∃ L ∈ T, ∃ nds ∈ L, ∃ x ∈ nds, ndF x k
structure StoT (w : World) (sb : Nat) (mp : Option Nat) (es : List MEn) (T : List (List (List Nd))) (tds : List Nd) (pp : List (List ItR)) : Prop where
  good : ∀ L ∈ T, ∀ nds ∈ L, ∀ x ∈ nds, NdOk w x ∧ ∀ k, ndF x k → ¬ KMut sb mp es k
  tl : T.length = tds.length
  pl : pp.length = tds.length
  rep : ∀ (i : Nat) (L : List (List Nd)) (p : List ItR) (nd : Nd), T[i]? = some L → pp[i]? = some p → tds[i]? = some nd → TreeRep (grownN p) L ∧ (∃ ℓ, L.length = ℓ + 1 ∧ L[ℓ]? = some [nd]) ∧ PastOk p
theorem StoT.lt {w : World} {sb : Nat} {mp : Option Nat} {es : List MEn} {T : List (List (List Nd))} {tds : List Nd} {pp : List (List ItR)} (h : StoT w sb mp es T tds pp) : ∀ k, treeF T k → k < w.heap.size := fun k ⟨L, hL, nds, hn, x, hx, hk⟩ => (h.good L hL nds hn x hx).1.lt k hk
theorem StoT.frame {w W : World} {S : Nat → Prop} {sb : Nat} {mp : Option Nat} {es : List MEn} {T : List (List (List Nd))} {tds : List Nd} {pp : List (List ItR)} (h : StoT w sb mp es T tds pp) (hf : Frame S w W) (hS : ∀ k, treeF T k → ¬ S k) : StoT W sb mp es T tds pp :=
  ⟨fun L hL nds hn x hx => ⟨(h.good L hL nds hn x hx).1.frame hf (fun k hk => hS k ⟨L, hL, nds, hn, x, hx, hk⟩), (h.good L hL nds hn x hx).2⟩, h.tl, h.pl, h.rep⟩
theorem StoT.next {w W : World} {S : Nat → Prop} {sb : Nat} {mp mp' : Option Nat} {es es' : List MEn} {T : List (List (List Nd))} {tds : List Nd} {pp : List (List ItR)} (h : StoT w sb mp es T tds pp) (hf : Frame S w W) (hS : ∀ k, S k → KMut sb mp es k) (hM : ∀ k, KMut sb mp' es' k → k < w.heap.size → KMut sb mp es k) : StoT W sb mp' es' T tds pp :=
  ⟨fun L hL nds hn x hx => ⟨(h.good L hL nds hn x hx).1.frame hf (fun k hk e => (h.good L hL nds hn x hx).2 k hk (hS k e)), fun k hk e => (h.good L hL nds hn x hx).2 k hk (hM k e ((h.good L hL nds hn x hx).1.lt k hk))⟩, h.tl, h.pl, h.rep⟩
theorem StoT.push {w : World} {sb ℓ : Nat} {mp : Option Nat} {es : List MEn} {T : List (List (List Nd))} {tds : List Nd} {pp : List (List ItR)} {L : List (List Nd)} {nd : Nd} {p : List ItR} (h : StoT w sb mp es T tds pp) (hL : ∀ nds ∈ L, ∀ x ∈ nds, NdOk w x ∧ ∀ k, ndF x k → ¬ KMut sb mp es k) (h1 : TreeRep (grownN p) L) (h2 : L.length = ℓ + 1) (h3 : L[ℓ]? = some [nd]) (h4 : PastOk p) :
    StoT w sb mp es (T ++ [L]) (tds ++ [nd]) (pp ++ [p]) := by
  refine ⟨fun M hM nds hn x hx => ?_, by simp [h.tl], by simp [h.pl], fun i M q n e1 e2 e3 => ?_⟩
  · rcases List.mem_append.1 hM with hM | hM
    · exact h.good M hM nds hn x hx
    · simp only [List.mem_singleton] at hM; subst hM; exact hL nds hn x hx
  · by_cases hi : i < T.length
    · rw [List.getElem?_append_left hi] at e1
      rw [List.getElem?_append_left (by rw [h.pl, ← h.tl]; exact hi)] at e2
      rw [List.getElem?_append_left (by rw [← h.tl]; exact hi)] at e3
      exact h.rep i M q n e1 e2 e3
    · have hi' : i = T.length := by
        have := (List.getElem?_eq_some_iff.1 e1).1
        simp at this; omega
      subst hi'
      have e2' := h.tl
      have e3' := h.pl
      rw [List.getElem?_append_right (Nat.le_refl _), Nat.sub_self] at e1
      rw [List.getElem?_append_right (by omega), show T.length - pp.length = 0 by omega] at e2
      rw [List.getElem?_append_right (by omega), show T.length - tds.length = 0 by omega] at e3
      simp at e1 e2 e3
      subst e1 e2 e3
      exact ⟨h1, ⟨ℓ, h2, h3⟩, h4⟩
/-- The cells of the commits of a log with these roots. -/
def comsF : Nat → List (List UInt8) → List Value
  | 0, _ => []
  | n + 1, rl => comsF n rl ++ commitC n (rl.getD n []) (n + 1) (sumF 42 (rl.take (n + 1)))
def comsC (rl : List (List UInt8)) : List Value := comsF rl.length rl
theorem comsF_append : ∀ (n : Nat) (rl r : List (List UInt8)), n ≤ rl.length → comsF n (rl ++ r) = comsF n rl
  | 0, _, _, _ => rfl
  | n + 1, rl, r, h => by
    unfold comsF
    rw [comsF_append n rl r (by omega), List.take_append_of_le_length h]
    have e : (rl ++ r).getD n [] = rl.getD n [] := by
      simp only [List.getD_eq_getElem?_getD]
      rw [List.getElem?_append_left (by omega)]
    rw [e]
theorem comsC_snoc (rl : List (List UInt8)) (r : List UInt8) : comsC (rl ++ [r]) = comsC rl ++ commitC rl.length r (rl.length + 1) (sumF 42 (rl ++ [r])) := by
  unfold comsC
  rw [List.length_append, List.length_singleton, comsF, comsF_append _ _ _ (Nat.le_refl _), List.take_of_length_le (by simp)]
  have e : (rl ++ [r]).getD rl.length [] = r := by simp
  rw [e]
end Go.Proofs.YtekegfbjbainhaaGreat
