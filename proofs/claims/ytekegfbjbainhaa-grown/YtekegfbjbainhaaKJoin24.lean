import Derived.Test.YtekegfbjbainhaaKJoin23
import Derived.Deep.DeepCutAuto
import Derived.Test.YtekegfbjbainhaaKJoin22
set_option linter.unusedVariables false
set_option linter.unusedSimpArgs false

namespace Go.Proofs.Ytekegfbjbainhaa
open Go.RowKit
attribute [local go_sem ↓] Go.wp_at_zero Go.wp_at_succ
theorem GB.coll {p : GP} {w : World} (h : GB p w) (o : GO p) (S : SlR) (L : List (List UInt8)) (y : List UInt8) (hS : DgL w S L) (hy : y.length = 8) (hne : y ≠ p.x) (hi : inclF ((p.pn : Int) + 1) (p.e : Int) p.n y L.reverse = true) :
  Calls Try.prog 31 #[.slice p.sA.a p.sA.n p.sA.cap, .slice S.a S.n S.cap, .agg #[.int .u8 (p.x0.toNat : Int), .int .u8 (p.x1.toNat : Int), .int .u8 (p.x2.toNat : Int), .int .u8 (p.x3.toNat : Int), .int .u8 (p.x4.toNat : Int), .int .u8 (p.x5.toNat : Int), .int .u8 (p.x6.toNat : Int), .int .u8 (p.x7.toNat : Int)], dV y, .int .i64 (p.e : Int), .int .i64 (1 + (p.pn : Int))] w fun r w' => r = .returned (.bool true) ∧ Below w.heap.size w w' := by
 have o1 := o.nM
 have o2 := o.M40
 have o3 := o.mn
 have o4 := o.em
 have h1 := collides_any p.e (p.pn + 1) p.x y p.sA.a S.a p.sA.cap S.cap p.A L w rfl hy (by omega) (by omega) (by omega) h.dA.sl hS.sl (by have := h.dA.n; have := h.dA.le; have := h.dA.cap; omega) (by have := hS.n; have := hS.le; have := hS.cap; omega)
 rw [← h.dA.n, ← hS.n, show ((p.pn + 1 : Nat) : Int) = 1 + (p.pn : Int) by omega] at h1
 refine Calls.mono h1 ?_
 rintro r w' ⟨hr, hb⟩
 refine ⟨?_, hb⟩
 rcases hr with hr | ⟨hr, hm⟩
 ·exact hr
 ·exfalso
  rcases incl_two (n := p.pn + 1) (e := p.e) (sum := p.n) (x := p.x) (y := y) (a := p.A) (b := L) (by omega) (by rw [show ((p.pn + 1 : Nat) : Int) = (p.pn : Int) + 1 by omega]; exact o.own) (by rw [show ((p.pn + 1 : Nat) : Int) = (p.pn : Int) + 1 by omega]; exact hi) with e | e
  ·exact hne e.symm
  ·exact hm e
set_option maxRecDepth 1000000 in
set_option maxHeartbeats 16000000 in
theorem g37 (p : GP) (u : Nat → Value) (qb : Nat) (sL : SlR) (ds : List (SlR × List (List UInt8))) (y : List UInt8) (w : World) (H : GB p w) (O : GO p) (hy : y.length = 8) (hne : y ≠ p.x) (HR : RowV w qb 45 (y.map u8c)) (HL : LsG sL ds w) (K : Act → World → Prop) (R : Ending → World → Prop) (hQ : ∀ (a' : Act) (w' : World), (∃ u', a' = ⟨fr15 p u', []⟩ ∧ Below w.heap.size w w') → K a' w') : Code.wp Try.prog (headOf (behind 23 (Try.f7.body.getD .skip))) (Exit.then K (bodyPost Try.prog Try.f7 R)) ⟨fr26 p qb sL u, []⟩ w := by
 have HQ : Hid (∀ (a' : Act) (w' : World), (∃ u', a' = ⟨fr15 p u', []⟩ ∧ Below w.heap.size w w') → K a' w') := hQ
 clear hQ
 obtain ⟨y0, y1, y2, y3, y4, y5, y6, y7, rfl⟩ := list8 y hy
 obtain ⟨hb, ob, nb, g, M, pn, pm, e, dcap, pn0, pc, pa, place, dif, sA, sB, sC, x0, x1, x2, x3, x4, x5, x6, x7, o0, o1, o2, o3, o4, o5, o6, o7, n0, n1, n2, n3, n4, n5, n6, n7, rl, A, B, C⟩ := p
 have HN : Hid (∀ W, Below w.heap.size w W → W.cell? ⟨nb, 0, none⟩ = some (.int .i64 ((pn : Int) + 1)) ∧ W.cell? ⟨nb, 1, none⟩ = some (.int .u8 (n0.toNat : Int)) ∧ W.cell? ⟨nb, 2, none⟩ = some (.int .u8 (n1.toNat : Int)) ∧ W.cell? ⟨nb, 3, none⟩ = some (.int .u8 (n2.toNat : Int)) ∧ W.cell? ⟨nb, 4, none⟩ = some (.int .u8 (n3.toNat : Int)) ∧ W.cell? ⟨nb, 5, none⟩ = some (.int .u8 (n4.toNat : Int)) ∧ W.cell? ⟨nb, 6, none⟩ = some (.int .u8 (n5.toNat : Int)) ∧ W.cell? ⟨nb, 7, none⟩ = some (.int .u8 (n6.toNat : Int)) ∧ W.cell? ⟨nb, 8, none⟩ = some (.int .u8 (n7.toNat : Int)) ∧ W.cell? ⟨qb, 0, none⟩ = some (.int .u8 (y0.toNat : Int)) ∧ W.cell? ⟨qb, 1, none⟩ = some (.int .u8 (y1.toNat : Int)) ∧ W.cell? ⟨qb, 2, none⟩ = some (.int .u8 (y2.toNat : Int)) ∧ W.cell? ⟨qb, 3, none⟩ = some (.int .u8 (y3.toNat : Int)) ∧ W.cell? ⟨qb, 4, none⟩ = some (.int .u8 (y4.toNat : Int)) ∧ W.cell? ⟨qb, 5, none⟩ = some (.int .u8 (y5.toNat : Int)) ∧ W.cell? ⟨qb, 6, none⟩ = some (.int .u8 (y6.toNat : Int)) ∧ W.cell? ⟨qb, 7, none⟩ = some (.int .u8 (y7.toNat : Int))) := fun W hW => by
  have hG := H.below hW
  have hR := HR.below HR.lt hW
  exact ⟨RowV.cell? hG.ru 0, RowV.cell? hG.ru 1, RowV.cell? hG.ru 2, RowV.cell? hG.ru 3, RowV.cell? hG.ru 4, RowV.cell? hG.ru 5, RowV.cell? hG.ru 6, RowV.cell? hG.ru 7, RowV.cell? hG.ru 8, RowV.cell? hR 0, RowV.cell? hR 1, RowV.cell? hR 2, RowV.cell? hR 3, RowV.cell? hR 4, RowV.cell? hR 5, RowV.cell? hR 6, RowV.cell? hR 7⟩
 have HX : Hid (∀ W, Below w.heap.size w W → W.cell? ⟨hb, 3, none⟩ = some (.slice (some ⟨g, 0, none⟩) (M + 1) dcap) ∧ W.cell? ⟨g, e * 18 + 1, none⟩ = some (.int .u8 (x0.toNat : Int)) ∧ W.cell? ⟨g, e * 18 + 1 + 1, none⟩ = some (.int .u8 (x1.toNat : Int)) ∧ W.cell? ⟨g, e * 18 + 1 + 2, none⟩ = some (.int .u8 (x2.toNat : Int)) ∧ W.cell? ⟨g, e * 18 + 1 + 3, none⟩ = some (.int .u8 (x3.toNat : Int)) ∧ W.cell? ⟨g, e * 18 + 1 + 4, none⟩ = some (.int .u8 (x4.toNat : Int)) ∧ W.cell? ⟨g, e * 18 + 1 + 5, none⟩ = some (.int .u8 (x5.toNat : Int)) ∧ W.cell? ⟨g, e * 18 + 1 + 6, none⟩ = some (.int .u8 (x6.toNat : Int)) ∧ W.cell? ⟨g, e * 18 + 1 + 7, none⟩ = some (.int .u8 (x7.toNat : Int))) := fun W hW => by
  have hG := H.below hW
  exact ⟨hG.ce, hG.root O 0 (by omega), hG.root O 1 (by omega), hG.root O 2 (by omega), hG.root O 3 (by omega), hG.root O 4 (by omega), hG.root O 5 (by omega), hG.root O 6 (by omega), hG.root O 7 (by omega)⟩
 have HINC : Hid (∀ (W : World) (S : SlR) (L : List (List UInt8)), Below w.heap.size w W → DgL W S L → Calls Try.prog 28 #[.agg #[.int .i64 ((pn : Int) + 1), .int .u8 (n0.toNat : Int), .int .u8 (n1.toNat : Int), .int .u8 (n2.toNat : Int), .int .u8 (n3.toNat : Int), .int .u8 (n4.toNat : Int), .int .u8 (n5.toNat : Int), .int .u8 (n6.toNat : Int), .int .u8 (n7.toNat : Int)], .int .i64 (e : Int), .agg #[.int .u8 (y0.toNat : Int), .int .u8 (y1.toNat : Int), .int .u8 (y2.toNat : Int), .int .u8 (y3.toNat : Int), .int .u8 (y4.toNat : Int), .int .u8 (y5.toNat : Int), .int .u8 (y6.toNat : Int), .int .u8 (y7.toNat : Int)], .slice S.a S.n S.cap] W fun r w' => r = .returned (.bool (inclF ((pn : Int) + 1) (e : Int) [n0, n1, n2, n3, n4, n5, n6, n7] [y0, y1, y2, y3, y4, y5, y6, y7] L.reverse)) ∧ Below W.heap.size W w') := fun W S L hW hS => by
  have o1 := O.nM
  have o2 := O.M40
  simp only at o1 o2
  exact (H.below hW).inclOf pn (by omega) _ [y0, y1, y2, y3, y4, y5, y6, y7] S L rfl rfl hS
 have HCOL : Hid (∀ (W : World) (S : SlR) (L : List (List UInt8)), Below w.heap.size w W → DgL W S L → inclF ((pn : Int) + 1) (e : Int) [n0, n1, n2, n3, n4, n5, n6, n7] [y0, y1, y2, y3, y4, y5, y6, y7] L.reverse = true → Calls Try.prog 31 #[.slice sA.a sA.n sA.cap, .slice S.a S.n S.cap, .agg #[.int .u8 (x0.toNat : Int), .int .u8 (x1.toNat : Int), .int .u8 (x2.toNat : Int), .int .u8 (x3.toNat : Int), .int .u8 (x4.toNat : Int), .int .u8 (x5.toNat : Int), .int .u8 (x6.toNat : Int), .int .u8 (x7.toNat : Int)], .agg #[.int .u8 (y0.toNat : Int), .int .u8 (y1.toNat : Int), .int .u8 (y2.toNat : Int), .int .u8 (y3.toNat : Int), .int .u8 (y4.toNat : Int), .int .u8 (y5.toNat : Int), .int .u8 (y6.toNat : Int), .int .u8 (y7.toNat : Int)], .int .i64 (e : Int), .int .i64 (1 + (pn : Int))] W fun r w' => r = .returned (.bool true) ∧ Below W.heap.size W w') := fun W S L hW hS hi => (H.below hW).coll O S L [y0, y1, y2, y3, y4, y5, y6, y7] hS rfl hne hi
 have heM : (e : Int) < (M : Int) + 1 := by have h1 := O.nM; have h2 := O.mn; have h3 := O.em; simp only at h1 h2 h3; omega
 have hM40 : (M : Int) ≤ 39 := by have h1 := O.M40; simp only at h1; omega
 have HLS : Hid (LsG sL ds w) := HL
 have hln := HL.n
 have hl14 : (ds.length : Int) ≤ 14 := by have := HL.len; omega
 obtain ⟨la, ln, lc⟩ := sL
 simp only at hln
 subst hln
 clear H O HR HL hne hy
 dsimp only [fr26]
 conv => arg 2; whnf
 go_simp
 go_wp2
 go_loopw [41] (fun i wx => ∃ k : Nat, k ≤ ds.length ∧ i = .int .i64 (k : Int) ∧ Hid (Below w.heap.size w wx)) (fun i _ => ds.length - (intOf i).toNat)
 case atStart => exact ⟨0, by omega, rfl, Below.refl _ _⟩
 case round =>
  obtain ⟨k, hk, rfl, HB⟩ := hrel
  by_cases hlt : k < ds.length
  ·have hltI : (k : Int) < ds.length := by omega
   have hkI : (k : Int) ≤ 14 := by omega
   have hkl : k < (slsV ds).length := by unfold slsV; rw [List.length_map]; exact hlt
   obtain ⟨lb, lo, hla, hlb, hlc⟩ := HLS.out.sl k hkl
   simp only at hla
   subst hla
   have HD1 : Hid (DgL w ds[k].1 ds[k].2) := HLS.out.dg _ (List.getElem_mem hlt)
   have HLK : Hid (∀ W, Below w.heap.size w W → W.cell? ⟨lb, lo + k, none⟩ = some (.slice ds[k].1.a ds[k].1.n ds[k].1.cap)) := fun W hW => by
    rw [hW.cell (p := ⟨lb, lo + k, none⟩) hlb, hlc]
    exact congrArg some (by simp [slsV, SlR.val])
   clear hlc hkl
   generalize ds[k].1 = s1 at *
   generalize ds[k].2 = L1 at *
   have HI1 : Hid (∀ W, Below w.heap.size w W → Calls Try.prog 28 #[.agg #[.int .i64 ((pn : Int) + 1), .int .u8 (n0.toNat : Int), .int .u8 (n1.toNat : Int), .int .u8 (n2.toNat : Int), .int .u8 (n3.toNat : Int), .int .u8 (n4.toNat : Int), .int .u8 (n5.toNat : Int), .int .u8 (n6.toNat : Int), .int .u8 (n7.toNat : Int)], .int .i64 (e : Int), .agg #[.int .u8 (y0.toNat : Int), .int .u8 (y1.toNat : Int), .int .u8 (y2.toNat : Int), .int .u8 (y3.toNat : Int), .int .u8 (y4.toNat : Int), .int .u8 (y5.toNat : Int), .int .u8 (y6.toNat : Int), .int .u8 (y7.toNat : Int)], .slice s1.a s1.n s1.cap] W fun r w' => r = .returned (.bool (inclF ((pn : Int) + 1) (e : Int) [n0, n1, n2, n3, n4, n5, n6, n7] [y0, y1, y2, y3, y4, y5, y6, y7] L1.reverse)) ∧ Below W.heap.size W w') := fun W hW => HINC.out W s1 L1 hW (HD1.out.below hW)
   have HC1 : Hid (inclF ((pn : Int) + 1) (e : Int) [n0, n1, n2, n3, n4, n5, n6, n7] [y0, y1, y2, y3, y4, y5, y6, y7] L1.reverse = true → ∀ W, Below w.heap.size w W → Calls Try.prog 31 #[.slice sA.a sA.n sA.cap, .slice s1.a s1.n s1.cap, .agg #[.int .u8 (x0.toNat : Int), .int .u8 (x1.toNat : Int), .int .u8 (x2.toNat : Int), .int .u8 (x3.toNat : Int), .int .u8 (x4.toNat : Int), .int .u8 (x5.toNat : Int), .int .u8 (x6.toNat : Int), .int .u8 (x7.toNat : Int)], .agg #[.int .u8 (y0.toNat : Int), .int .u8 (y1.toNat : Int), .int .u8 (y2.toNat : Int), .int .u8 (y3.toNat : Int), .int .u8 (y4.toNat : Int), .int .u8 (y5.toNat : Int), .int .u8 (y6.toNat : Int), .int .u8 (y7.toNat : Int)], .int .i64 (e : Int), .int .i64 (1 + (pn : Int))] W fun r w' => r = .returned (.bool true) ∧ Below W.heap.size W w') := fun hi W hW => HCOL.out W s1 L1 hW (HD1.out.below hW) hi
   generalize inclF ((pn : Int) + 1) (e : Int) [n0, n1, n2, n3, n4, n5, n6, n7] [y0, y1, y2, y3, y4, y5, y6, y7] L1.reverse = bv at *
   have z0 := HLK.out _ HB.out
   obtain ⟨c0, c1, c2, c3, c4, c5, c6, c7, c8, c9, c10, c11, c12, c13, c14, c15, c16⟩ := HN.out _ HB.out
   go_wp2_with fail
   go_cut [30] (fun xv wx => xv = .bool bv ∧ Hid (Below w.heap.size w wx))
   case first =>
    go_region_held3 (fun W => W.cell? ⟨nb, 0, none⟩ = some (.int .i64 ((pn : Int) + 1)) ∧ W.cell? ⟨nb, 1, none⟩ = some (.int .u8 (n0.toNat : Int)) ∧ W.cell? ⟨nb, 2, none⟩ = some (.int .u8 (n1.toNat : Int)) ∧ W.cell? ⟨nb, 3, none⟩ = some (.int .u8 (n2.toNat : Int)) ∧ W.cell? ⟨nb, 4, none⟩ = some (.int .u8 (n3.toNat : Int)) ∧ W.cell? ⟨nb, 5, none⟩ = some (.int .u8 (n4.toNat : Int)) ∧ W.cell? ⟨nb, 6, none⟩ = some (.int .u8 (n5.toNat : Int)) ∧ W.cell? ⟨nb, 7, none⟩ = some (.int .u8 (n6.toNat : Int)) ∧ W.cell? ⟨nb, 8, none⟩ = some (.int .u8 (n7.toNat : Int)) ∧ W.cell? ⟨qb, 0, none⟩ = some (.int .u8 (y0.toNat : Int)) ∧ W.cell? ⟨qb, 1, none⟩ = some (.int .u8 (y1.toNat : Int)) ∧ W.cell? ⟨qb, 2, none⟩ = some (.int .u8 (y2.toNat : Int)) ∧ W.cell? ⟨qb, 3, none⟩ = some (.int .u8 (y3.toNat : Int)) ∧ W.cell? ⟨qb, 4, none⟩ = some (.int .u8 (y4.toNat : Int)) ∧ W.cell? ⟨qb, 5, none⟩ = some (.int .u8 (y5.toNat : Int)) ∧ W.cell? ⟨qb, 6, none⟩ = some (.int .u8 (y6.toNat : Int)) ∧ W.cell? ⟨qb, 7, none⟩ = some (.int .u8 (y7.toNat : Int)) ∧ W.cell? ⟨lb, lo + k, none⟩ = some (.slice s1.a s1.n s1.cap)) (go_keep)
     ((go_at_call 28; refine (HI1.out _ (by exact HB.out.drew)).mono ?_; rintro r w8 ⟨rfl, hb8⟩; have HB8 : Hid (Below w.heap.size w w8) := HB.out.drew.trans (hb8.mono HB.out.size); obtain ⟨m0, m1, m2, m3, m4, m5, m6, m7, m8, m9, m10, m11, m12, m13, m14, m15, m16⟩ := HN.out _ HB8.out; have z1 := HLK.out _ HB8.out))
    all_goals
     go_wp2
     go_meet
     exact ⟨rfl, HB8⟩
   case rest =>
    obtain ⟨rfl, HB8⟩ := hcut
    clear c0 c1 c2 c3 c4 c5 c6 c7 c8 c9 c10 c11 c12 c13 c14 c15 c16 z0 HB
    cases bv with
    | false =>
     as_aux_lemma =>
     go_wp2_with fail
     go_quiet (fail)
     go_wp2
     refine ⟨⟨k + 1, by omega, by go_num, HB8.out.trans ((bel_drewN wc _).mono HB8.out.size)⟩, by simp [intOf]; omega⟩
    | true =>
     as_aux_lemma =>
     have HC2 : Hid (∀ W, Below w.heap.size w W → Calls Try.prog 31 #[.slice sA.a sA.n sA.cap, .slice s1.a s1.n s1.cap, .agg #[.int .u8 (x0.toNat : Int), .int .u8 (x1.toNat : Int), .int .u8 (x2.toNat : Int), .int .u8 (x3.toNat : Int), .int .u8 (x4.toNat : Int), .int .u8 (x5.toNat : Int), .int .u8 (x6.toNat : Int), .int .u8 (x7.toNat : Int)], .agg #[.int .u8 (y0.toNat : Int), .int .u8 (y1.toNat : Int), .int .u8 (y2.toNat : Int), .int .u8 (y3.toNat : Int), .int .u8 (y4.toNat : Int), .int .u8 (y5.toNat : Int), .int .u8 (y6.toNat : Int), .int .u8 (y7.toNat : Int)], .int .i64 (e : Int), .int .i64 (1 + (pn : Int))] W fun r w' => r = .returned (.bool true) ∧ Below W.heap.size W w') := HC1.out rfl
     clear HC1
     have z0 := HLK.out _ HB8.out
     obtain ⟨c0, c1, c2, c3, c4, c5, c6, c7, c8, c9, c10, c11, c12, c13, c14, c15, c16⟩ := HN.out _ HB8.out
     obtain ⟨d0, d1, d2, d3, d4, d5, d6, d7, d8⟩ := HX.out _ HB8.out
     go_wp2_with fail
     go_region_held3 (fun W => W.cell? ⟨hb, 3, none⟩ = some (.slice (some ⟨g, 0, none⟩) (M + 1) dcap) ∧ W.cell? ⟨g, e * 18 + 1, none⟩ = some (.int .u8 (x0.toNat : Int)) ∧ W.cell? ⟨g, e * 18 + 1 + 1, none⟩ = some (.int .u8 (x1.toNat : Int)) ∧ W.cell? ⟨g, e * 18 + 1 + 2, none⟩ = some (.int .u8 (x2.toNat : Int)) ∧ W.cell? ⟨g, e * 18 + 1 + 3, none⟩ = some (.int .u8 (x3.toNat : Int)) ∧ W.cell? ⟨g, e * 18 + 1 + 4, none⟩ = some (.int .u8 (x4.toNat : Int)) ∧ W.cell? ⟨g, e * 18 + 1 + 5, none⟩ = some (.int .u8 (x5.toNat : Int)) ∧ W.cell? ⟨g, e * 18 + 1 + 6, none⟩ = some (.int .u8 (x6.toNat : Int)) ∧ W.cell? ⟨g, e * 18 + 1 + 7, none⟩ = some (.int .u8 (x7.toNat : Int)) ∧ W.cell? ⟨qb, 0, none⟩ = some (.int .u8 (y0.toNat : Int)) ∧ W.cell? ⟨qb, 1, none⟩ = some (.int .u8 (y1.toNat : Int)) ∧ W.cell? ⟨qb, 2, none⟩ = some (.int .u8 (y2.toNat : Int)) ∧ W.cell? ⟨qb, 3, none⟩ = some (.int .u8 (y3.toNat : Int)) ∧ W.cell? ⟨qb, 4, none⟩ = some (.int .u8 (y4.toNat : Int)) ∧ W.cell? ⟨qb, 5, none⟩ = some (.int .u8 (y5.toNat : Int)) ∧ W.cell? ⟨qb, 6, none⟩ = some (.int .u8 (y6.toNat : Int)) ∧ W.cell? ⟨qb, 7, none⟩ = some (.int .u8 (y7.toNat : Int)) ∧ W.cell? ⟨lb, lo + k, none⟩ = some (.slice s1.a s1.n s1.cap)) (go_keep)
      ((go_at_call 31; refine (HC2.out _ (by exact HB8.out.drew)).mono ?_; rintro r w9 ⟨rfl, hb9⟩; have HB9 : Hid (Below w.heap.size w w9) := HB8.out.drew.trans (hb9.mono HB8.out.size); obtain ⟨m0, m1, m2, m3, m4, m5, m6, m7, m8, m9, m10, m11, m12, m13, m14, m15, m16⟩ := HN.out _ HB9.out; obtain ⟨f0, f1, f2, f3, f4, f5, f6, f7, f8⟩ := HX.out _ HB9.out; have z1 := HLK.out _ HB9.out))
     all_goals
      go_wp2
      refine ⟨⟨k + 1, by omega, by go_num, HB9⟩, by simp [intOf]; omega⟩
  ·have hltI : ¬ (k : Int) < ds.length := by omega
   go_wp2
   exact HQ.out _ _ (frame_ex (by kernel_rfl) HB.out)
set_option maxRecDepth 1000000 in
theorem g43 (p : GP) (u : Nat → Value) (w : World) (R : Ending → World → Prop) (hR : R (.returned (.bool true)) w) : Code.wp Try.prog (behind 24 (Try.f7.body.getD .skip)) (bodyPost Try.prog Try.f7 R) ⟨fr15 p u, []⟩ w := by
 dsimp only [fr15]
 conv => arg 2; whnf
 go_simp
 go_wp2_with fail
 exact hR
end Go.Proofs.Ytekegfbjbainhaa


namespace Go.Proofs.Ytekegfbjbainhaa
open Go.RowKit
set_option maxRecDepth 1000000 in
theorem tail_13 : behind 13 (Try.f7.body.getD .skip) = .seq (headOf (behind 13 (Try.f7.body.getD .skip))) (behind 14 (Try.f7.body.getD .skip)) ∧ behind 14 (Try.f7.body.getD .skip) = .seq (headOf (behind 14 (Try.f7.body.getD .skip))) (behind 15 (Try.f7.body.getD .skip)) ∧ behind 15 (Try.f7.body.getD .skip) = .seq (headOf (behind 15 (Try.f7.body.getD .skip))) (behind 16 (Try.f7.body.getD .skip)) ∧ behind 16 (Try.f7.body.getD .skip) = .seq (headOf (behind 16 (Try.f7.body.getD .skip))) (behind 17 (Try.f7.body.getD .skip)) ∧ behind 17 (Try.f7.body.getD .skip) = .seq (headOf (behind 17 (Try.f7.body.getD .skip))) (behind 18 (Try.f7.body.getD .skip)) ∧ behind 18 (Try.f7.body.getD .skip) = .seq (headOf (behind 18 (Try.f7.body.getD .skip))) (behind 19 (Try.f7.body.getD .skip)) ∧ behind 19 (Try.f7.body.getD .skip) = .seq (headOf (behind 19 (Try.f7.body.getD .skip))) (behind 20 (Try.f7.body.getD .skip)) ∧ behind 20 (Try.f7.body.getD .skip) = .seq (headOf (behind 20 (Try.f7.body.getD .skip))) (behind 21 (Try.f7.body.getD .skip)) ∧ behind 21 (Try.f7.body.getD .skip) = .seq (headOf (behind 21 (Try.f7.body.getD .skip))) (behind 22 (Try.f7.body.getD .skip)) ∧ behind 22 (Try.f7.body.getD .skip) = .seq (headOf (behind 22 (Try.f7.body.getD .skip))) (behind 23 (Try.f7.body.getD .skip)) ∧ behind 23 (Try.f7.body.getD .skip) = .seq (headOf (behind 23 (Try.f7.body.getD .skip))) (behind 24 (Try.f7.body.getD .skip)) := by
 refine ⟨?_, ?_, ?_, ?_, ?_, ?_, ?_, ?_, ?_, ?_, ?_⟩ <;> kernel_rfl
theorem part_step {x y z : Code} {Q : Exit → Act → World → Prop} {a : Act} {w : World} (e : x = .seq y z) (h : Code.wp Try.prog y (Exit.then (Code.wp Try.prog z Q) Q) a w) : Code.wp Try.prog x Q a w := by
 rw [e]
 exact wp_seq h
theorem grown_tail (p : GP) (u : Nat → Value) (w : World) (H : GB p w) (O : GO p) (R : Ending → World → Prop) (hR : ∀ w', Below w.heap.size w w' → R (.returned (.bool true)) w') : Code.wp Try.prog (behind 13 (Try.f7.body.getD .skip)) (bodyPost Try.prog Try.f7 R) ⟨fr15 p u, []⟩ w := by
 obtain ⟨t13, t14, t15, t16, t17, t18, t19, t20, t21, t22, t23⟩ := tail_13
 refine part_step t13 (g15 p u w H O _ ?_)
 rintro a1 w1 ⟨u1, rfl, b1⟩
 have H1 := H.below b1
 refine part_step t14 (g16 p u1 w1 H1 O _ ?_)
 rintro a2 w2 ⟨u2, rfl, b2⟩
 have H2 := H1.below b2
 have B2 := b1.trans (b2.mono b1.size)
 refine part_step t15 (g17 p u2 w2 H2 O _ ?_)
 rintro a3 w3 ⟨u3, rfl, b3⟩
 have H3 := H2.below b3
 have B3 := B2.trans (b3.mono B2.size)
 refine part_step t16 (g18 p u3 w3 H3 O _ ?_)
 rintro a4 w4 ⟨u4, rfl, b4⟩
 have H4 := H3.below b4
 have B4 := B3.trans (b4.mono B3.size)
 refine part_step t17 (g19 p u4 w4 _ ?_)
 rintro a5 w5 ⟨u5, rfl, b5⟩
 have H5 := H4.below b5
 have B5 := B4.trans (b5.mono B4.size)
 refine part_step t18 (g21 p u5 w5 H5 O _ ?_)
 rintro qb y a6 w6 ⟨u6, rfl, o6⟩
 have key : ∀ (y' : List UInt8) (a' : Act) (w' : World), (∃ u', a' = ⟨fr22 p qb u', []⟩ ∧ Oth w5 p qb y' w' ∧ y' ≠ p.x) → Code.wp Try.prog (behind 20 (Try.f7.body.getD .skip)) (bodyPost Try.prog Try.f7 R) a' w' := by
  rintro y' a7 w7 ⟨u7, rfl, o7, hne⟩
  have H7 := H5.below o7.bel
  have B7 := B5.trans (o7.bel.mono B5.size)
  refine part_step t20 (g25 p u7 qb w7 H7 _ ?_)
  rintro sL a8 w8 ⟨u8, rfl, l8⟩
  refine part_step t21 (g26 p u8 qb sL _ w7 w8 H7 O l8 rfl _ ?_)
  rintro sM ds a9 w9 ⟨u9, rfl, l9⟩
  have fin : ∀ (sN : SlR) (es : List (SlR × List (List UInt8))) (a' : Act) (w' : World), (∃ u', a' = ⟨fr26 p qb sN u', []⟩ ∧ LsG sN es w' ∧ Below w7.heap.size w7 w') → Code.wp Try.prog (behind 23 (Try.f7.body.getD .skip)) (bodyPost Try.prog Try.f7 R) a' w' := by
   rintro sN es a10 w10 ⟨u10, rfl, l10, b10⟩
   refine part_step t23 (g37 p u10 qb sN es y' w10 (H7.below b10) O o7.len hne (o7.row.below o7.row.lt b10) l10 _ R ?_)
   rintro a11 w11 ⟨u11, rfl, b11⟩
   refine g43 p u11 w11 R (hR w11 ?_)
   exact (B7.trans (b10.mono B7.size)).trans (b11.mono (B7.trans (b10.mono B7.size)).size)
  by_cases hA : 1 ≤ p.A.length
  ·refine part_step t22 (g30b p u9 qb sM ds w7 w9 O H7.dA l9 hA _ R ?_)
   rintro sN es a10 w10 h10
   exact fin sN es a10 w10 h10
  ·refine part_step t22 (g30a p u9 qb sM w9 (by rw [H7.dA.n]; omega) _ R ?_)
   rintro a10 w10 ⟨u10, rfl, rfl⟩
   exact fin sM ds _ _ ⟨u10, rfl, l9.toG, l9.bel⟩
 by_cases hy : y = p.x
 ·refine part_step t19 (g22b p u6 qb y w5 w6 H5 O o6 hy _ R ?_)
  exact fun y' a' w' h => key y' a' w' h
 ·refine part_step t19 (g22a p u6 qb y w5 w6 H5 O o6 hy _ ?_)
  exact fun y' a' w' h => key y' a' w' h
end Go.Proofs.Ytekegfbjbainhaa
