import Derived.Test.YtekegfbjbainhaaKKG8
import Derived.Test.YtekegfbjbainhaaKJoin22
import Derived.Deep.DeepCutAuto
set_option linter.unusedVariables false
set_option linter.unusedSimpArgs false

namespace Go.Proofs.Ytekegfbjbainhaa
open Go.RowKit
attribute [local go_sem ↓] Go.wp_at_zero Go.wp_at_succ
theorem xor_ne2 (x : UInt8) (p : Nat) (hp : p < 255) : ∃ z : UInt8, bits .xor .u8 (x.toNat : Int) (IntKind.u8.wrap (IntKind.i64.wrap (1 + (p : Int)))) = (z.toNat : Int) ∧ z ≠ x := by
 have h : IntKind.u8.wrap (IntKind.i64.wrap (1 + (p : Int))) = wrap64 (1 + (p : Int)) % 256 := by
  have h2 := IntKind.wrap_i64 (1 + (p : Int))
  have h3 : IntKind.i64.wrap (1 + (p : Int)) = 1 + (p : Int) := by omega
  rw [wrap64_small p hp, h3]
  simp [IntKind.wrap, IntKind.signed, IntKind.bits]
  omega
 rw [h]
 exact xor_ne x p hp
structure Oth (wB : World) (p : GP) (qb : Nat) (y : List UInt8) (w : World) : Prop where
 bel : Below wB.heap.size wB w
 q : wB.heap.size ≤ qb
 len : y.length = 8
 row : RowV w qb 45 (y.map u8c)
set_option maxRecDepth 1000000 in
set_option maxHeartbeats 8000000 in
theorem g21 (p : GP) (u : Nat → Value) (w : World) (H : GB p w) (O : GO p) (Q : Exit → Act → World → Prop) (hQ : ∀ (qb : Nat) (y : List UInt8) (a' : Act) (w' : World), (∃ u', a' = ⟨fr22 p qb u', []⟩ ∧ Oth w p qb y w') → Q .normal a' w') : Code.wp Try.prog (headOf (behind 18 (Try.f7.body.getD .skip))) Q ⟨fr15 p u, []⟩ w := by
 have HQ : Hid (∀ (qb : Nat) (y : List UInt8) (a' : Act) (w' : World), (∃ u', a' = ⟨fr22 p qb u', []⟩ ∧ Oth w p qb y w') → Q .normal a' w') := hQ
 clear hQ
 obtain ⟨hb, ob, nb, g, M, pn, pm, e, dcap, pn0, pc, pa, place, dif, sA, sB, sC, x0, x1, x2, x3, x4, x5, x6, x7, o0, o1, o2, o3, o4, o5, o6, o7, n0, n1, n2, n3, n4, n5, n6, n7, rl, A, B, C⟩ := p
 have hgl : g < w.heap.size := H.gl
 have hhb : hb < w.heap.size := H.hbl
 have hM40 : (M : Int) ≤ 39 := by have h1 := O.M40; simp only at h1; omega
 have HDF : Hid (I64 dif) := O.idf
 have hpk : pickN dif (M + 1) < M + 1 := pickN_lt dif (M + 1) (by omega)
 have HPK : Hid (∀ (W : World) (x : Int), x = ((M + 1 : Nat) : Int) → Calls Try.prog 10 #[.int .i64 dif, .int .i64 x] W fun e w' => e = .returned (.int .i64 (pickN dif (M + 1) : Int)) ∧ w' = W) := fun W x hx => pick_x dif x (M + 1) W hx HDF.out (by omega) (by have h1 := O.M40; simp only at h1; unfold maxLen; omega)
 generalize pickN dif (M + 1) = pk at *
 have hpkl : pk < rl.length := by have h1 := O.rM; simp only at h1; omega
 obtain ⟨y0, y1, y2, y3, y4, y5, y6, y7, hyy⟩ := list8 rl[pk] (O.r8 _ (List.getElem_mem hpkl))
 have HG : Hid (w.cell? ⟨hb, 3, none⟩ = some (.slice (some ⟨g, 0, none⟩) (M + 1) dcap) ∧ w.cell? ⟨g, pk * 18 + 1, none⟩ = some (.int .u8 (y0.toNat : Int)) ∧ w.cell? ⟨g, pk * 18 + 1 + 1, none⟩ = some (.int .u8 (y1.toNat : Int)) ∧ w.cell? ⟨g, pk * 18 + 1 + 2, none⟩ = some (.int .u8 (y2.toNat : Int)) ∧ w.cell? ⟨g, pk * 18 + 1 + 3, none⟩ = some (.int .u8 (y3.toNat : Int)) ∧ w.cell? ⟨g, pk * 18 + 1 + 4, none⟩ = some (.int .u8 (y4.toNat : Int)) ∧ w.cell? ⟨g, pk * 18 + 1 + 5, none⟩ = some (.int .u8 (y5.toNat : Int)) ∧ w.cell? ⟨g, pk * 18 + 1 + 6, none⟩ = some (.int .u8 (y6.toNat : Int)) ∧ w.cell? ⟨g, pk * 18 + 1 + 7, none⟩ = some (.int .u8 (y7.toNat : Int))) := by
  refine ⟨H.ce, (H.cm pk 1 hpkl (by omega)).trans (com_rt hyy 0 (by omega)), (H.cm pk 2 hpkl (by omega)).trans (com_rt hyy 1 (by omega)), (H.cm pk 3 hpkl (by omega)).trans (com_rt hyy 2 (by omega)), (H.cm pk 4 hpkl (by omega)).trans (com_rt hyy 3 (by omega)), (H.cm pk 5 hpkl (by omega)).trans (com_rt hyy 4 (by omega)), (H.cm pk 6 hpkl (by omega)).trans (com_rt hyy 5 (by omega)), (H.cm pk 7 hpkl (by omega)).trans (com_rt hyy 6 (by omega)), (H.cm pk 8 hpkl (by omega)).trans (com_rt hyy 7 (by omega))⟩
 have hpkI : (pk : Int) < (M : Int) + 1 := by omega
 clear H O hyy HDF hpk hpkl
 dsimp only [fr15]
 conv => arg 2; whnf
 go_simp
 obtain ⟨c0, c1, c2, c3, c4, c5, c6, c7, c8⟩ := HG.out
 go_region_held3 (fun W => W.cell? ⟨hb, 3, none⟩ = some (.slice (some ⟨g, 0, none⟩) (M + 1) dcap) ∧ W.cell? ⟨g, pk * 18 + 1, none⟩ = some (.int .u8 (y0.toNat : Int)) ∧ W.cell? ⟨g, pk * 18 + 1 + 1, none⟩ = some (.int .u8 (y1.toNat : Int)) ∧ W.cell? ⟨g, pk * 18 + 1 + 2, none⟩ = some (.int .u8 (y2.toNat : Int)) ∧ W.cell? ⟨g, pk * 18 + 1 + 3, none⟩ = some (.int .u8 (y3.toNat : Int)) ∧ W.cell? ⟨g, pk * 18 + 1 + 4, none⟩ = some (.int .u8 (y4.toNat : Int)) ∧ W.cell? ⟨g, pk * 18 + 1 + 5, none⟩ = some (.int .u8 (y5.toNat : Int)) ∧ W.cell? ⟨g, pk * 18 + 1 + 6, none⟩ = some (.int .u8 (y6.toNat : Int)) ∧ W.cell? ⟨g, pk * 18 + 1 + 7, none⟩ = some (.int .u8 (y7.toNat : Int))) (go_keep) ((go_at_call 10; refine (HPK.out _ _ (by omega)).mono ?_; rintro r w6 ⟨rfl, hw6⟩; subst hw6))
 all_goals
  go_wp2
  refine HQ.out w.heap.size [y0, y1, y2, y3, y4, y5, y6, y7] _ _ (frame_ex (by kernel_rfl) ?_)
  exact ⟨((Below.refl _ _).alloc (Nat.le_refl _) _).drew, Nat.le_refl _, rfl, RowV.new w _ _⟩
set_option maxRecDepth 1000000 in
set_option maxHeartbeats 8000000 in
theorem g22a (p : GP) (u : Nat → Value) (qb : Nat) (y : List UInt8) (wB w : World) (H : GB p wB) (O : GO p) (HO : Oth wB p qb y w) (hne : y ≠ p.x) (Q : Exit → Act → World → Prop) (hQ : ∀ (y' : List UInt8) (a' : Act) (w' : World), (∃ u', a' = ⟨fr22 p qb u', []⟩ ∧ Oth wB p qb y' w' ∧ y' ≠ p.x) → Q .normal a' w') : Code.wp Try.prog (headOf (behind 19 (Try.f7.body.getD .skip))) Q ⟨fr22 p qb u, []⟩ w := by
 have HQ : Hid (∀ (y' : List UInt8) (a' : Act) (w' : World), (∃ u', a' = ⟨fr22 p qb u', []⟩ ∧ Oth wB p qb y' w' ∧ y' ≠ p.x) → Q .normal a' w') := hQ
 clear hQ
 obtain ⟨y0, y1, y2, y3, y4, y5, y6, y7, rfl⟩ := list8 y HO.len
 obtain ⟨hb, ob, nb, g, M, pn, pm, e, dcap, pn0, pc, pa, place, dif, sA, sB, sC, x0, x1, x2, x3, x4, x5, x6, x7, o0, o1, o2, o3, o4, o5, o6, o7, n0, n1, n2, n3, n4, n5, n6, n7, rl, A, B, C⟩ := p
 have hE : Below w.heap.size w w := Below.refl _ _
 have HG : Hid (w.cell? ⟨hb, 3, none⟩ = some (.slice (some ⟨g, 0, none⟩) (M + 1) dcap) ∧ w.cell? ⟨g, e * 18 + 1, none⟩ = some (.int .u8 (x0.toNat : Int)) ∧ w.cell? ⟨g, e * 18 + 1 + 1, none⟩ = some (.int .u8 (x1.toNat : Int)) ∧ w.cell? ⟨g, e * 18 + 1 + 2, none⟩ = some (.int .u8 (x2.toNat : Int)) ∧ w.cell? ⟨g, e * 18 + 1 + 3, none⟩ = some (.int .u8 (x3.toNat : Int)) ∧ w.cell? ⟨g, e * 18 + 1 + 4, none⟩ = some (.int .u8 (x4.toNat : Int)) ∧ w.cell? ⟨g, e * 18 + 1 + 5, none⟩ = some (.int .u8 (x5.toNat : Int)) ∧ w.cell? ⟨g, e * 18 + 1 + 6, none⟩ = some (.int .u8 (x6.toNat : Int)) ∧ w.cell? ⟨g, e * 18 + 1 + 7, none⟩ = some (.int .u8 (x7.toNat : Int)) ∧ w.cell? ⟨qb, 0, none⟩ = some (.int .u8 (y0.toNat : Int)) ∧ w.cell? ⟨qb, 1, none⟩ = some (.int .u8 (y1.toNat : Int)) ∧ w.cell? ⟨qb, 2, none⟩ = some (.int .u8 (y2.toNat : Int)) ∧ w.cell? ⟨qb, 3, none⟩ = some (.int .u8 (y3.toNat : Int)) ∧ w.cell? ⟨qb, 4, none⟩ = some (.int .u8 (y4.toNat : Int)) ∧ w.cell? ⟨qb, 5, none⟩ = some (.int .u8 (y5.toNat : Int)) ∧ w.cell? ⟨qb, 6, none⟩ = some (.int .u8 (y6.toNat : Int)) ∧ w.cell? ⟨qb, 7, none⟩ = some (.int .u8 (y7.toNat : Int))) := by
  have hG := H.below HO.bel
  exact ⟨hG.ce, hG.root O 0 (by omega), hG.root O 1 (by omega), hG.root O 2 (by omega), hG.root O 3 (by omega), hG.root O 4 (by omega), hG.root O 5 (by omega), hG.root O 6 (by omega), hG.root O 7 (by omega), RowV.cell? HO.row 0, RowV.cell? HO.row 1, RowV.cell? HO.row 2, RowV.cell? HO.row 3, RowV.cell? HO.row 4, RowV.cell? HO.row 5, RowV.cell? HO.row 6, RowV.cell? HO.row 7⟩
 have heM : (e : Int) < (M : Int) + 1 := by have h1 := O.nM; have h2 := O.mn; have h3 := O.em; simp only at h1 h2 h3; omega
 have hM40 : (M : Int) ≤ 39 := by have h1 := O.M40; simp only at h1; omega
 have HHO : Hid (Oth wB _ qb [y0, y1, y2, y3, y4, y5, y6, y7] w) := HO
 have HNE : Hid (([y0, y1, y2, y3, y4, y5, y6, y7] : List UInt8) ≠ [x0, x1, x2, x3, x4, x5, x6, x7]) := hne
 have heq : ∀ W, (Op.equalIn 10000 45 (.agg #[.int .u8 (y0.toNat : Int), .int .u8 (y1.toNat : Int), .int .u8 (y2.toNat : Int), .int .u8 (y3.toNat : Int), .int .u8 (y4.toNat : Int), .int .u8 (y5.toNat : Int), .int .u8 (y6.toNat : Int), .int .u8 (y7.toNat : Int)]) (.agg #[.int .u8 (x0.toNat : Int), .int .u8 (x1.toNat : Int), .int .u8 (x2.toNat : Int), .int .u8 (x3.toNat : Int), .int .u8 (x4.toNat : Int), .int .u8 (x5.toNat : Int), .int .u8 (x6.toNat : Int), .int .u8 (x7.toNat : Int)])).run Try.prog W = .ok false W := fun W => by
  rw [eqD_run]
  rw [show (([y0, y1, y2, y3, y4, y5, y6, y7] : List UInt8) == [x0, x1, x2, x3, x4, x5, x6, x7]) = false from by rw [beq_eq_false_iff_ne]; exact hne]
 clear H O HO hne
 dsimp only [fr22]
 conv => arg 2; whnf
 go_simp
 obtain ⟨c0, c1, c2, c3, c4, c5, c6, c7, c8, c9, c10, c11, c12, c13, c14, c15, c16⟩ := HG.out
 go_wp2_with fail
 go_quiet (fail)
 go_wp2_with fail
 exact HQ.out [y0, y1, y2, y3, y4, y5, y6, y7] _ _ (frame_ex (by kernel_rfl) ⟨⟨HHO.out.bel.trans ((bel_drewN w _).mono HHO.out.bel.size), HHO.out.q, rfl, HHO.out.row⟩, HNE.out⟩)
set_option maxRecDepth 1000000 in
set_option maxHeartbeats 8000000 in
theorem g22b (p : GP) (u : Nat → Value) (qb : Nat) (y : List UInt8) (wB w : World) (H : GB p wB) (O : GO p) (HO : Oth wB p qb y w) (hne : y = p.x) (K : Act → World → Prop) (R : Ending → World → Prop) (hQ : ∀ (y' : List UInt8) (a' : Act) (w' : World), (∃ u', a' = ⟨fr22 p qb u', []⟩ ∧ Oth wB p qb y' w' ∧ y' ≠ p.x) → K a' w') : Code.wp Try.prog (headOf (behind 19 (Try.f7.body.getD .skip))) (Exit.then K (bodyPost Try.prog Try.f7 R)) ⟨fr22 p qb u, []⟩ w := by
 have HQ : Hid (∀ (y' : List UInt8) (a' : Act) (w' : World), (∃ u', a' = ⟨fr22 p qb u', []⟩ ∧ Oth wB p qb y' w' ∧ y' ≠ p.x) → K a' w') := hQ
 clear hQ
 obtain ⟨y0, y1, y2, y3, y4, y5, y6, y7, rfl⟩ := list8 y HO.len
 obtain ⟨hb, ob, nb, g, M, pn, pm, e, dcap, pn0, pc, pa, place, dif, sA, sB, sC, x0, x1, x2, x3, x4, x5, x6, x7, o0, o1, o2, o3, o4, o5, o6, o7, n0, n1, n2, n3, n4, n5, n6, n7, rl, A, B, C⟩ := p
 have hE : Below w.heap.size w w := Below.refl _ _
 have HG : Hid (w.cell? ⟨hb, 3, none⟩ = some (.slice (some ⟨g, 0, none⟩) (M + 1) dcap) ∧ w.cell? ⟨g, e * 18 + 1, none⟩ = some (.int .u8 (x0.toNat : Int)) ∧ w.cell? ⟨g, e * 18 + 1 + 1, none⟩ = some (.int .u8 (x1.toNat : Int)) ∧ w.cell? ⟨g, e * 18 + 1 + 2, none⟩ = some (.int .u8 (x2.toNat : Int)) ∧ w.cell? ⟨g, e * 18 + 1 + 3, none⟩ = some (.int .u8 (x3.toNat : Int)) ∧ w.cell? ⟨g, e * 18 + 1 + 4, none⟩ = some (.int .u8 (x4.toNat : Int)) ∧ w.cell? ⟨g, e * 18 + 1 + 5, none⟩ = some (.int .u8 (x5.toNat : Int)) ∧ w.cell? ⟨g, e * 18 + 1 + 6, none⟩ = some (.int .u8 (x6.toNat : Int)) ∧ w.cell? ⟨g, e * 18 + 1 + 7, none⟩ = some (.int .u8 (x7.toNat : Int)) ∧ w.cell? ⟨qb, 0, none⟩ = some (.int .u8 (y0.toNat : Int)) ∧ w.cell? ⟨qb, 1, none⟩ = some (.int .u8 (y1.toNat : Int)) ∧ w.cell? ⟨qb, 2, none⟩ = some (.int .u8 (y2.toNat : Int)) ∧ w.cell? ⟨qb, 3, none⟩ = some (.int .u8 (y3.toNat : Int)) ∧ w.cell? ⟨qb, 4, none⟩ = some (.int .u8 (y4.toNat : Int)) ∧ w.cell? ⟨qb, 5, none⟩ = some (.int .u8 (y5.toNat : Int)) ∧ w.cell? ⟨qb, 6, none⟩ = some (.int .u8 (y6.toNat : Int)) ∧ w.cell? ⟨qb, 7, none⟩ = some (.int .u8 (y7.toNat : Int))) := by
  have hG := H.below HO.bel
  exact ⟨hG.ce, hG.root O 0 (by omega), hG.root O 1 (by omega), hG.root O 2 (by omega), hG.root O 3 (by omega), hG.root O 4 (by omega), hG.root O 5 (by omega), hG.root O 6 (by omega), hG.root O 7 (by omega), RowV.cell? HO.row 0, RowV.cell? HO.row 1, RowV.cell? HO.row 2, RowV.cell? HO.row 3, RowV.cell? HO.row 4, RowV.cell? HO.row 5, RowV.cell? HO.row 6, RowV.cell? HO.row 7⟩
 have heM : (e : Int) < (M : Int) + 1 := by have h1 := O.nM; have h2 := O.mn; have h3 := O.em; simp only at h1 h2 h3; omega
 have hM40 : (M : Int) ≤ 39 := by have h1 := O.M40; simp only at h1; omega
 have HHO : Hid (Oth wB _ qb [y0, y1, y2, y3, y4, y5, y6, y7] w) := HO
 have HEQ : Hid (([y0, y1, y2, y3, y4, y5, y6, y7] : List UInt8) = [x0, x1, x2, x3, x4, x5, x6, x7]) := hne
 have heq : ∀ W, (Op.equalIn 10000 45 (.agg #[.int .u8 (y0.toNat : Int), .int .u8 (y1.toNat : Int), .int .u8 (y2.toNat : Int), .int .u8 (y3.toNat : Int), .int .u8 (y4.toNat : Int), .int .u8 (y5.toNat : Int), .int .u8 (y6.toNat : Int), .int .u8 (y7.toNat : Int)]) (.agg #[.int .u8 (x0.toNat : Int), .int .u8 (x1.toNat : Int), .int .u8 (x2.toNat : Int), .int .u8 (x3.toNat : Int), .int .u8 (x4.toNat : Int), .int .u8 (x5.toNat : Int), .int .u8 (x6.toNat : Int), .int .u8 (x7.toNat : Int)])).run Try.prog W = .ok true W := fun W => by
  rw [eqD_run]
  rw [show (([y0, y1, y2, y3, y4, y5, y6, y7] : List UInt8) == [x0, x1, x2, x3, x4, x5, x6, x7]) = true from by rw [beq_iff_eq]; exact hne]
 have HPL : Hid (∀ W : World, Calls Try.prog 10 #[.int .i64 place, .int .i64 8] W fun e w' => e = .returned (.int .i64 (pickN place 8 : Int)) ∧ w' = W) := fun W => pick_any place 8 W O.ipl.1 O.ipl.2 (by decide) (by decide)
 have HPD : Hid (∀ W : World, Calls Try.prog 10 #[.int .i64 dif, .int .i64 255] W fun e w' => e = .returned (.int .i64 (pickN dif 255 : Int)) ∧ w' = W) := fun W => pick_any dif 255 W O.idf.1 O.idf.2 (by decide) (by decide)
 have hpl : pickN place 8 < 8 := pickN_lt place 8 (by decide)
 have hpd : pickN dif 255 < 255 := pickN_lt dif 255 (by decide)
 generalize pickN place 8 = pl at *
 generalize pickN dif 255 = pd at *
 have hplI : (pl : Int) < 8 := by omega
 have HPDL : Hid (pd < 255) := hpd
 obtain ⟨v, hv⟩ : ∃ v : UInt8, [y0, y1, y2, y3, y4, y5, y6, y7][pl]? = some v := ⟨_, List.getElem?_eq_getElem (by simpa using hpl)⟩
 have cv : ∀ t : Nat, (w.drewN t).cell? ⟨qb, pl, none⟩ = some (.int .u8 (v.toNat : Int)) := fun t => by
  have h := RowV.cell? HO.row pl
  rw [List.getElem?_map, hv] at h
  exact h
 have cf : ∀ t : Nat, (w.drewN t).frozen? ⟨qb, pl, none⟩ = false := fun t => HO.row.frozen pl
 have HVV : Hid ([y0, y1, y2, y3, y4, y5, y6, y7][pl]? = some v) := hv
 clear H O HO hne hv hpl hpd
 dsimp only [fr22]
 conv => arg 2; whnf
 go_simp
 obtain ⟨c0, c1, c2, c3, c4, c5, c6, c7, c8, c9, c10, c11, c12, c13, c14, c15, c16⟩ := HG.out
 go_wp2_with fail
 go_quiet (fail)
 clear c0 c1 c2 c3 c4 c5 c6 c7 c8 c9 c10 c11 c12 c13 c14 c15 c16
 have cv := cv nq
 have cf := cf nq
 have HO2 : Hid (Below wB.heap.size wB (w.drewN nq) ∧ RowV (w.drewN nq) qb 45 ([y0, y1, y2, y3, y4, y5, y6, y7].map u8c)) := ⟨HHO.out.bel.trans ((bel_drewN w _).mono HHO.out.bel.size), HHO.out.row⟩
 generalize w.drewN nq = wq at *
 go_wp2_with fail
 refine (HPL.out _).mono ?_
 rintro r w6 ⟨rfl, hw6⟩
 subst hw6
 go_wp2_with fail
 go_region_with (go_at_call 10; refine (HPD.out _).mono ?_; rintro r w6 ⟨rfl, hw6⟩; subst hw6)
 all_goals
  go_wp2
  obtain ⟨z, hz, hzv⟩ := xor_ne2 v pd HPDL.out
  rw [hz]
  refine HQ.out ([y0, y1, y2, y3, y4, y5, y6, y7].set pl z) _ _ (frame_ex (by kernel_rfl) ⟨⟨?_, HHO.out.q, by rw [List.length_set]; rfl, ?_⟩, ?_⟩)
  ·have hfs : Frame (fun k => k = qb) w6 (w6.setCell ⟨qb, pl, none⟩ (.int .u8 (z.toNat : Int))) := Frame.setCell (S := fun k => k = qb) (Frame.refl _ _) (p := ⟨qb, pl, none⟩) rfl _
   exact (HO2.out.1.trans (hfs.below HO2.out.1.size (fun k hk => by rw [hk]; exact HHO.out.q))).drew
  ·have h := RowV.set HO2.out.2 pl (.int .u8 (z.toNat : Int))
   rw [List.map_set]
   exact h
  ·intro h
   have h1 : ([y0, y1, y2, y3, y4, y5, y6, y7].set pl z)[pl]? = some z := by
    rw [List.getElem?_set_self (by have h2 := hplI; simp; omega)]
   rw [h.trans (show _ = [y0, y1, y2, y3, y4, y5, y6, y7] from HEQ.out.symm), HVV.out] at h1
   exact hzv (Option.some.inj h1).symm
end Go.Proofs.Ytekegfbjbainhaa


namespace Go.Proofs.Ytekegfbjbainhaa
open Go.RowKit
attribute [local go_sem ↓] Go.wp_at_zero Go.wp_at_succ
structure LsG (sL : SlR) (ds : List (SlR × List (List UInt8))) (w : World) : Prop where
 sl : SlV w sL.a (slsV ds)
 n : sL.n = ds.length
 dg : ∀ x ∈ ds, DgL w x.1 x.2
 len : ds.length ≤ 14
theorem LsAt.toG {wD w : World} {sL : SlR} {ds : List (SlR × List (List UInt8))} (h : LsAt wD sL ds w) : LsG sL ds w := by
 obtain ⟨h1, h2⟩ := SlV.ofOwn (s := sL) h.own
 refine ⟨h1, ?_, fun x hx => (h.dg x hx).below h.bel, by have := h.len; omega⟩
 rw [h2]
set_option maxRecDepth 1000000 in
set_option maxHeartbeats 8000000 in
theorem g30a (p : GP) (u : Nat → Value) (qb : Nat) (sL : SlR) (w : World) (hA : p.sA.n = 0) (K : Act → World → Prop) (R : Ending → World → Prop) (hQ : ∀ (a' : Act) (w' : World), (∃ u', a' = ⟨fr26 p qb sL u', []⟩ ∧ w' = w) → K a' w') : Code.wp Try.prog (headOf (behind 22 (Try.f7.body.getD .skip))) (Exit.then K (bodyPost Try.prog Try.f7 R)) ⟨fr26 p qb sL u, []⟩ w := by
 have HQ : Hid (∀ (a' : Act) (w' : World), (∃ u', a' = ⟨fr26 p qb sL u', []⟩ ∧ w' = w) → K a' w') := hQ
 clear hQ
 obtain ⟨hb, ob, nb, g, M, pn, pm, e, dcap, pn0, pc, pa, place, dif, sA, sB, sC, x0, x1, x2, x3, x4, x5, x6, x7, o0, o1, o2, o3, o4, o5, o6, o7, n0, n1, n2, n3, n4, n5, n6, n7, rl, A, B, C⟩ := p
 obtain ⟨sa, sn, sc⟩ := sA
 simp only at hA
 subst hA
 dsimp only [fr26]
 conv => arg 2; whnf
 go_simp
 go_wp2_with fail
 exact HQ.out _ _ (frame_ex (by kernel_rfl) rfl)
set_option maxRecDepth 1000000 in
set_option maxHeartbeats 8000000 in
theorem g30b (p : GP) (u : Nat → Value) (qb : Nat) (sL : SlR) (ds : List (SlR × List (List UInt8))) (wD w : World) (O : GO p) (HDW : DgL wD p.sA p.A) (HL : LsAt wD sL ds w) (hA : 1 ≤ p.A.length) (K : Act → World → Prop) (R : Ending → World → Prop) (hQ : ∀ (sL : SlR) (ds : List (SlR × List (List UInt8))) (a' : Act) (w' : World), (∃ u', a' = ⟨fr26 p qb sL u', []⟩ ∧ LsG sL ds w' ∧ Below wD.heap.size wD w') → K a' w') : Code.wp Try.prog (headOf (behind 22 (Try.f7.body.getD .skip))) (Exit.then K (bodyPost Try.prog Try.f7 R)) ⟨fr26 p qb sL u, []⟩ w := by
 have HQ : Hid (∀ (sL : SlR) (ds : List (SlR × List (List UInt8))) (a' : Act) (w' : World), (∃ u', a' = ⟨fr26 p qb sL u', []⟩ ∧ LsG sL ds w' ∧ Below wD.heap.size wD w') → K a' w') := hQ
 clear hQ
 have HDA : DgL w p.sA p.A := HDW.below HL.bel
 obtain ⟨hb, ob, nb, g, M, pn, pm, e, dcap, pn0, pc, pa, place, dif, sA, sB, sC, x0, x1, x2, x3, x4, x5, x6, x7, o0, o1, o2, o3, o4, o5, o6, o7, n0, n1, n2, n3, n4, n5, n6, n7, rl, A, B, C⟩ := p
 have hal : A.length ≤ 1000 := O.al
 have HPL : Hid (∀ W : World, Calls Try.prog 10 #[.int .i64 place, .int .i64 (A.length : Int)] W fun e w' => e = .returned (.int .i64 (pickN place A.length : Int)) ∧ w' = W) := fun W => pick_any place A.length W O.ipl.1 O.ipl.2 hA (by unfold maxLen; omega)
 have HPS : Hid (∀ W : World, Calls Try.prog 10 #[.int .i64 dif, .int .i64 8] W fun e w' => e = .returned (.int .i64 (pickN dif 8 : Int)) ∧ w' = W) := fun W => pick_any dif 8 W O.idf.1 O.idf.2 (by decide) (by decide)
 have HPD : Hid (∀ W : World, Calls Try.prog 10 #[.int .i64 place, .int .i64 255] W fun e w' => e = .returned (.int .i64 (pickN place 255 : Int)) ∧ w' = W) := fun W => pick_any place 255 W O.ipl.1 O.ipl.2 (by decide) (by decide)
 have hpr : pickN place A.length < A.length := pickN_lt place A.length (by omega)
 have hps : pickN dif 8 < 8 := pickN_lt dif 8 (by decide)
 have hpd : pickN place 255 < 255 := pickN_lt place 255 (by decide)
 generalize pickN place A.length = pr at *
 generalize pickN dif 8 = ps at *
 generalize pickN place 255 = pd at *
 have hn := HDA.n
 have hsl := HDA.sl
 have HL8 : Hid (∀ d ∈ A, d.length = 8) := HDA.sl.2
 have hle := HDA.le
 have hcap := HDA.cap
 obtain ⟨Z, hZ, hmk⟩ := digs_make A.length hal
 have hcp := digs_copy w sA A Z hZ HDA hA
 obtain ⟨sa, sn, sc⟩ := sA
 simp only at hn hsl hle hcap hcp
 subst hn
 obtain ⟨ab, ao, rfl⟩ := hsl.adr hA
 have HLS : Hid (LsAt wD sL ds w) := HL
 have HDS : Hid (DgL wD ⟨some ⟨ab, ao, none⟩, A.length, sc⟩ A) := HDW
 have hprI : (pr : Int) < A.length := by omega
 have hpsI : (ps : Int) < 8 := by omega
 have hA1I : 1 ≤ (A.length : Int) := by omega
 have halI : (A.length : Int) ≤ 1000 := by omega
 have HPDL : Hid (pd < 255) := hpd
 clear O HL HDA HDW hZ hsl hpd
 dsimp only [fr26]
 conv => arg 2; whnf
 go_simp
 go_wp2_with fail
 refine (HPL.out _).mono ?_
 rintro r w2 ⟨rfl, hw2⟩
 subst hw2
 go_wp2_with fail
 refine (HPS.out _).mono ?_
 rintro r w2 ⟨rfl, hw2⟩
 subst hw2
 go_wp2_with fail
 have HOQ : Hid ((w.alloc (.cells (digsC A).toArray 45)).ownsRow w.heap.size 45 8 (.slice (some ⟨w.heap.size, 0, none⟩) A.length A.length) A.length (digsC A)) := owns_built w w.heap.size 45 8 A.length (digsC A) (Nat.le_refl _) (digsC_length A HL8.out) (by unfold maxLen; omega)
 have HB2 : Hid (Below w.heap.size w (w.alloc (.cells (digsC A).toArray 45))) := (Below.refl _ _).alloc (Nat.le_refl _) _
 generalize w.alloc (.cells (digsC A).toArray 45) = wq at *
 have hpr8 : ps < A[pr].length := by rw [HL8.out _ (List.getElem_mem hpr)]; exact hps
 have e0 : wq.cell? ⟨w.heap.size, pr * 8 + ps, none⟩ = some (.int .u8 (A[pr][ps].toNat : Int)) := by
  have hlt : pr * 8 + ps < (digsC A).length := by rw [digsC_length A HL8.out]; omega
  rw [World.ownsRow.cellAt HOQ.out (pr * 8 + ps) (by omega)]
  have h : ((digsC A).drop (pr * 8))[ps]? = (digsC A)[pr * 8 + ps]? := by rw [List.getElem?_drop]
  rw [← h, digsC_drop A HL8.out pr (by omega), List.drop_eq_getElem_cons hpr]
  unfold digsC
  rw [List.flatMap_cons, List.getElem?_append_left (by simpa using hpr8), List.getElem?_map, List.getElem?_eq_getElem hpr8]
  rfl
 have z0 := World.ownsRow.frozenAt HOQ.out (pr * 8 + ps)
 have HV : Hid (∀ z : UInt8, (digsC A).set (pr * 8 + ps) (.int .u8 (z.toNat : Int)) = digsC (A.set pr (A[pr].set ps z)) ∧ ∀ d ∈ A.set pr (A[pr].set ps z), d.length = 8) := fun z => ⟨digsC_set A pr ps z hpr HL8.out hps, set_8 HL8.out hpr⟩
 generalize A[pr][ps] = v at *
 have HV1 : Hid (Below w.heap.size w wq ∧ wq.ownsRow w.heap.size 45 8 (.slice (some ⟨w.heap.size, 0, none⟩) A.length A.length) A.length (digsC A)) := ⟨HB2.out, HOQ.out⟩
 go_cut [] (fun wx => ∃ A' : List (List UInt8), Hid (Below w.heap.size w wx) ∧ Hid (DgL wx ⟨some ⟨w.heap.size, 0, none⟩, A.length, A.length⟩ A'))
 case first =>
  go_region_with (go_at_call 10; refine (HPD.out _).mono ?_; rintro r w6 ⟨rfl, hw6⟩; subst hw6)
  all_goals
   go_wp2
   obtain ⟨z, hz, hzv⟩ := xor_ne2 v pd HPDL.out
   rw [hz]
   go_meet
   refine ⟨A.set pr (A[pr].set ps z), ?_, ?_⟩
   ·have hfs : Frame (fun k => k = w.heap.size) wq (wq.setCell ⟨w.heap.size, pr * 8 + ps, none⟩ (.int .u8 (z.toNat : Int))) := Frame.setCell (S := fun k => k = w.heap.size) (Frame.refl _ _) (p := ⟨w.heap.size, pr * 8 + ps, none⟩) rfl _
    exact (HV1.out.1.trans (hfs.below HV1.out.1.size (fun k hk => by rw [hk]; exact Nat.le_refl _))).drew
   ·have hs := (World.ownsRow.stored HV1.out.2 (pr * 8 + ps) (.int .u8 (z.toNat : Int))).1
    rw [(HV.out z).1] at hs
    refine DgL.own (base := w.heap.size) ?_ (HV.out z).2
    rw [List.length_set]
    exact World.ownsRow.drew hs
 case rest =>
  obtain ⟨A', HB3, HD3⟩ := hcut
  have HLC : Hid (LsAt wD sL ds wc) := ⟨HLS.out.bel.trans (HB3.out.mono HLS.out.bel.size), owns_below HLS.out.own HB3.out, HLS.out.dg, HLS.out.len⟩
  have HDC : Hid (DgL wD ⟨some ⟨ab, ao, none⟩, A.length, sc⟩ A) := HDS
  obtain ⟨m, hm⟩ : ∃ m : Nat, m = A.length - 1 := ⟨_, rfl⟩
  have hwr : IntKind.i64.wrap ((A.length : Int) - 1) = (m : Int) := by
   have := IntKind.wrap_i64 ((A.length : Int) - 1)
   omega
  have hmI : (m : Int) ≤ sc := by omega
  have hsI : 1 ≤ (sc : Int) := by omega
  obtain ⟨ca, hca⟩ : ∃ ca, (if sc = 1 then (some ⟨ab, ao, none⟩ : Option Addr) else some ⟨ab, ao + 8, none⟩) = ca := ⟨_, rfl⟩
  have hcu : cutS (some ⟨ab, ao, none⟩) sc 1 8 = ca := by
   rw [← hca]
   unfold cutS
   split <;> rfl
  have HD1 : Hid (DgL wD ⟨ca, A.length - 1, sc - 1⟩ (A.drop 1)) := by
   have h := SlV.cut (n := A.length) (cap := sc) (i := 1) (size := 8) HDC.out.sl.1 (digsC_length A HL8.out) hA hle
   rw [hcu] at h
   rw [digsC_drop A HL8.out 1 hA] at h
   exact ⟨⟨h, fun d hd => HL8.out d (List.mem_of_mem_drop hd)⟩, by simp, by simp only; omega, by simp only; omega⟩
  have HD2 : Hid (DgL wD ⟨some ⟨ab, ao, none⟩, m, sc⟩ (A.take (A.length - 1))) := by
   refine ⟨HDC.out.sl.take (A.length - 1) (by omega), ?_, by simp only; omega, hcap⟩
   simp only [List.length_take]; omega
  have HAB : Hid (Below wc.heap.size wc (wc.alloc (.cells #[.slice (some ⟨w.heap.size, 0, none⟩) A.length A.length, .slice (ca) (A.length - 1) (sc - 1), .slice (some ⟨ab, ao, none⟩) m sc] 73)).drew) := ((Below.refl _ _).alloc (Nat.le_refl _) _).drew
  have HSN : Hid (SlV (wc.alloc (.cells #[.slice (some ⟨w.heap.size, 0, none⟩) A.length A.length, .slice (ca) (A.length - 1) (sc - 1), .slice (some ⟨ab, ao, none⟩) m sc] 73)).drew (some ⟨wc.heap.size, 0, none⟩) (slsV [(⟨some ⟨w.heap.size, 0, none⟩, A.length, A.length⟩, A'), (⟨ca, A.length - 1, sc - 1⟩, A.drop 1), (⟨some ⟨ab, ao, none⟩, m, sc⟩, A.take (A.length - 1))])) := SlV.alloc_new wc (slsV [(⟨some ⟨w.heap.size, 0, none⟩, A.length, A.length⟩, A'), (⟨ca, A.length - 1, sc - 1⟩, A.drop 1), (⟨some ⟨ab, ao, none⟩, m, sc⟩, A.take (A.length - 1))]) _
  have HMM : Hid (m = A.length - 1) := hm
  clear hcu hm
  go_wp2_with fail
  go_region_law ((refine step_appendV (by rfl) (.tmp 274) (.tmp 283) 72 (by rfl) wD.heap.size 73 _ 1 24 Try.underlying72 Try.infoDgs rfl (by decide) (.slice sL.a sL.n sL.cap) ds.length (slsV ds) (by rfl) (owns_below HLC.out.own HAB.out) ⟨wc.heap.size, 0, none⟩ 3 3 _ (by rfl) rfl HSN.out (slsV_one _) (by have := HLC.out.len; unfold maxLen; omega) (by have := HLC.out.len; omega) (Nat.le_trans HLC.out.bel.size HAB.out.size) ?_; intro a6 n6 c6 w6 ho6 hf6 hat6; have HO6 : Hid (w6.ownsRow wD.heap.size 73 1 (.slice a6 n6 c6) (ds.length + 3) (slsV (ds ++ [(⟨some ⟨w.heap.size, 0, none⟩, A.length, A.length⟩, A'), (⟨ca, A.length - 1, sc - 1⟩, A.drop 1), (⟨some ⟨ab, ao, none⟩, m, sc⟩, A.take (A.length - 1))]))) := (by { unfold Hid slsV; rw [List.map_append]; exact ho6 }); have HF6 : Hid (Frame (fun k => (Value.slice sL.a sL.n sL.cap).ownBlock = some k) _ w6) := hf6; clear ho6 hf6 hat6))
  all_goals
   go_wp2
   refine HQ.out ⟨a6, n6, c6⟩ (ds ++ [(⟨some ⟨w.heap.size, 0, none⟩, A.length, A.length⟩, A'), (⟨ca, A.length - 1, sc - 1⟩, A.drop 1), (⟨some ⟨ab, ao, none⟩, m, sc⟩, A.take (A.length - 1))]) _ _ (frame_ex (by kernel_rfl) ⟨?_, ?_⟩)
   ·obtain ⟨q1, q2⟩ := SlV.ofOwn (s := ⟨a6, n6, c6⟩) HO6.out
    have HB6 : Below wD.heap.size wD w6 := (HLC.out.bel.trans (HAB.out.mono HLC.out.bel.size)).trans (HF6.out.below (Nat.le_trans HLC.out.bel.size HAB.out.size) (fun q hq => (World.ownsRow.lt HLC.out.own q hq).1))
    have hQ6 : DgL w6 ⟨some ⟨w.heap.size, 0, none⟩, A.length, A.length⟩ A' := by
     have h := HD3.out.below HAB.out
     refine ⟨⟨h.sl.1.frame HF6.out (fun x hx hk => ?_), h.sl.2⟩, h.n, h.le, h.cap⟩
     cases hx
     have := (World.ownsRow.lt HLS.out.own w.heap.size hk).2
     omega
    refine ⟨q1, by rw [List.length_append]; exact q2, fun x hx => ?_, by have := HLC.out.len; rw [List.length_append]; simp; omega⟩
    rcases List.mem_append.1 hx with hx | hx
    ·exact (HLC.out.dg x hx).below HB6
    ·simp only [List.mem_cons, List.not_mem_nil, or_false] at hx
     rcases hx with rfl | rfl | rfl
     ·exact hQ6
     ·exact HD1.out.below HB6
     ·exact HD2.out.below HB6
   ·exact (HLC.out.bel.trans (HAB.out.mono HLC.out.bel.size)).trans (HF6.out.below (Nat.le_trans HLC.out.bel.size HAB.out.size) (fun q hq => (World.ownsRow.lt HLC.out.own q hq).1))
end Go.Proofs.Ytekegfbjbainhaa
