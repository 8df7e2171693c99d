import Derived.Test.YtekegfbjbainhaaKKG8
import Derived.Deep.DeepCutAuto
set_option linter.unusedVariables false
set_option linter.unusedSimpArgs false

namespace Go.Proofs.Ytekegfbjbainhaa
open Go.RowKit
attribute [local go_sem ↓] Go.wp_at_zero Go.wp_at_succ
set_option maxRecDepth 1000000 in
set_option maxHeartbeats 8000000 in
theorem g15 (p : GP) (u : Nat → Value) (w : World) (H : GB p w) (O : GO p) (Q : Exit → Act → World → Prop) (hQ : ∀ a' w', (∃ u', a' = ⟨fr16 p u', []⟩ ∧ Below w.heap.size w w') → Q .normal a' w') : Code.wp Try.prog (headOf (behind 13 (Try.f7.body.getD .skip))) Q ⟨fr15 p u, []⟩ w := by
 have HQ : Hid (∀ a' w', (∃ u', a' = ⟨fr16 p u', []⟩ ∧ Below w.heap.size w w') → Q .normal a' w') := hQ
 clear hQ
 obtain ⟨hb, ob, nb, g, M, pn, pm, e, dcap, pn0, pc, pa, place, dif, sA, sB, sC, x0, x1, x2, x3, x4, x5, x6, x7, o0, o1, o2, o3, o4, o5, o6, o7, n0, n1, n2, n3, n4, n5, n6, n7, rl, A, B, C⟩ := p
 have HG : Hid (∀ W, Below w.heap.size w W → W.cell? ⟨nb, 0, none⟩ = some (.int .i64 ((pn : Int) + 1)) ∧ W.cell? ⟨nb, 1, none⟩ = some (.int .u8 (n0.toNat : Int)) ∧ W.cell? ⟨nb, 2, none⟩ = some (.int .u8 (n1.toNat : Int)) ∧ W.cell? ⟨nb, 3, none⟩ = some (.int .u8 (n2.toNat : Int)) ∧ W.cell? ⟨nb, 4, none⟩ = some (.int .u8 (n3.toNat : Int)) ∧ W.cell? ⟨nb, 5, none⟩ = some (.int .u8 (n4.toNat : Int)) ∧ W.cell? ⟨nb, 6, none⟩ = some (.int .u8 (n5.toNat : Int)) ∧ W.cell? ⟨nb, 7, none⟩ = some (.int .u8 (n6.toNat : Int)) ∧ W.cell? ⟨nb, 8, none⟩ = some (.int .u8 (n7.toNat : Int)) ∧ W.cell? ⟨hb, 3, none⟩ = some (.slice (some ⟨g, 0, none⟩) (M + 1) dcap) ∧ W.cell? ⟨g, e * 18 + 1, none⟩ = some (.int .u8 (x0.toNat : Int)) ∧ W.cell? ⟨g, e * 18 + 1 + 1, none⟩ = some (.int .u8 (x1.toNat : Int)) ∧ W.cell? ⟨g, e * 18 + 1 + 2, none⟩ = some (.int .u8 (x2.toNat : Int)) ∧ W.cell? ⟨g, e * 18 + 1 + 3, none⟩ = some (.int .u8 (x3.toNat : Int)) ∧ W.cell? ⟨g, e * 18 + 1 + 4, none⟩ = some (.int .u8 (x4.toNat : Int)) ∧ W.cell? ⟨g, e * 18 + 1 + 5, none⟩ = some (.int .u8 (x5.toNat : Int)) ∧ W.cell? ⟨g, e * 18 + 1 + 6, none⟩ = some (.int .u8 (x6.toNat : Int)) ∧ W.cell? ⟨g, e * 18 + 1 + 7, none⟩ = some (.int .u8 (x7.toNat : Int))) := fun W hW => by
  have hG := H.below hW
  exact ⟨RowV.cell? hG.ru 0, RowV.cell? hG.ru 1, RowV.cell? hG.ru 2, RowV.cell? hG.ru 3, RowV.cell? hG.ru 4, RowV.cell? hG.ru 5, RowV.cell? hG.ru 6, RowV.cell? hG.ru 7, RowV.cell? hG.ru 8, hG.ce, hG.root O 0 (by omega), hG.root O 1 (by omega), hG.root O 2 (by omega), hG.root O 3 (by omega), hG.root O 4 (by omega), hG.root O 5 (by omega), hG.root O 6 (by omega), hG.root O 7 (by omega)⟩
 have HCI : Hid (∀ W, Below w.heap.size w W → Calls Try.prog 28 #[.agg #[.int .i64 ((pn : Int) + 1), .int .u8 (n0.toNat : Int), .int .u8 (n1.toNat : Int), .int .u8 (n2.toNat : Int), .int .u8 (n3.toNat : Int), .int .u8 (n4.toNat : Int), .int .u8 (n5.toNat : Int), .int .u8 (n6.toNat : Int), .int .u8 (n7.toNat : Int)], .int .i64 (e : Int), .agg #[.int .u8 (x0.toNat : Int), .int .u8 (x1.toNat : Int), .int .u8 (x2.toNat : Int), .int .u8 (x3.toNat : Int), .int .u8 (x4.toNat : Int), .int .u8 (x5.toNat : Int), .int .u8 (x6.toNat : Int), .int .u8 (x7.toNat : Int)], .slice sA.a sA.n sA.cap] W fun r w' => r = .returned (.bool true) ∧ Below W.heap.size W w') := fun W hW => (H.below hW).incA O
 have heM : (e : Int) < (M : Int) + 1 := by have h1 := O.nM; have h2 := O.mn; have h3 := O.em; simp only at h1 h2 h3; omega
 have hM40 : (M : Int) ≤ 39 := by have h1 := O.M40; simp only at h1; omega
 clear H O
 dsimp only [fr15]
 conv => arg 2; whnf
 go_simp
 obtain ⟨c0, c1, c2, c3, c4, c5, c6, c7, c8, c9, c10, c11, c12, c13, c14, c15, c16, c17⟩ := HG.out _ (Below.refl _ _)
 go_region_held3 (fun W => W.cell? ⟨nb, 0, none⟩ = some (.int .i64 ((pn : Int) + 1)) ∧ W.cell? ⟨nb, 1, none⟩ = some (.int .u8 (n0.toNat : Int)) ∧ W.cell? ⟨nb, 2, none⟩ = some (.int .u8 (n1.toNat : Int)) ∧ W.cell? ⟨nb, 3, none⟩ = some (.int .u8 (n2.toNat : Int)) ∧ W.cell? ⟨nb, 4, none⟩ = some (.int .u8 (n3.toNat : Int)) ∧ W.cell? ⟨nb, 5, none⟩ = some (.int .u8 (n4.toNat : Int)) ∧ W.cell? ⟨nb, 6, none⟩ = some (.int .u8 (n5.toNat : Int)) ∧ W.cell? ⟨nb, 7, none⟩ = some (.int .u8 (n6.toNat : Int)) ∧ W.cell? ⟨nb, 8, none⟩ = some (.int .u8 (n7.toNat : Int)) ∧ W.cell? ⟨hb, 3, none⟩ = some (.slice (some ⟨g, 0, none⟩) (M + 1) dcap) ∧ W.cell? ⟨g, e * 18 + 1, none⟩ = some (.int .u8 (x0.toNat : Int)) ∧ W.cell? ⟨g, e * 18 + 1 + 1, none⟩ = some (.int .u8 (x1.toNat : Int)) ∧ W.cell? ⟨g, e * 18 + 1 + 2, none⟩ = some (.int .u8 (x2.toNat : Int)) ∧ W.cell? ⟨g, e * 18 + 1 + 3, none⟩ = some (.int .u8 (x3.toNat : Int)) ∧ W.cell? ⟨g, e * 18 + 1 + 4, none⟩ = some (.int .u8 (x4.toNat : Int)) ∧ W.cell? ⟨g, e * 18 + 1 + 5, none⟩ = some (.int .u8 (x5.toNat : Int)) ∧ W.cell? ⟨g, e * 18 + 1 + 6, none⟩ = some (.int .u8 (x6.toNat : Int)) ∧ W.cell? ⟨g, e * 18 + 1 + 7, none⟩ = some (.int .u8 (x7.toNat : Int))) (go_keep)
  ((go_at_call 28; refine (HCI.out _ (by exact (Below.refl _ _).drew)).mono ?_; rintro r w8 ⟨rfl, hb8⟩; have HB8 : Hid (Below w.heap.size w w8) := (Below.refl _ _).drew.trans hb8; obtain ⟨m0, m1, m2, m3, m4, m5, m6, m7, m8, m9, m10, m11, m12, m13, m14, m15, m16, m17⟩ := HG.out _ HB8.out))
 all_goals
  go_wp2
  exact HQ.out _ _ (frame_ex (by kernel_rfl) HB8.out)
set_option maxRecDepth 1000000 in
set_option maxHeartbeats 8000000 in
theorem g16 (p : GP) (u : Nat → Value) (w : World) (H : GB p w) (O : GO p) (Q : Exit → Act → World → Prop) (hQ : ∀ a' w', (∃ u', a' = ⟨fr17 p u', []⟩ ∧ Below w.heap.size w w') → Q .normal a' w') : Code.wp Try.prog (headOf (behind 14 (Try.f7.body.getD .skip))) Q ⟨fr16 p u, []⟩ w := by
 have HQ : Hid (∀ a' w', (∃ u', a' = ⟨fr17 p u', []⟩ ∧ Below w.heap.size w w') → Q .normal a' w') := hQ
 clear hQ
 obtain ⟨hb, ob, nb, g, M, pn, pm, e, dcap, pn0, pc, pa, place, dif, sA, sB, sC, x0, x1, x2, x3, x4, x5, x6, x7, o0, o1, o2, o3, o4, o5, o6, o7, n0, n1, n2, n3, n4, n5, n6, n7, rl, A, B, C⟩ := p
 have HG : Hid (∀ W, Below w.heap.size w W → W.cell? ⟨ob, 0, none⟩ = some (.int .i64 ((pm : Int) + 1)) ∧ W.cell? ⟨ob, 1, none⟩ = some (.int .u8 (o0.toNat : Int)) ∧ W.cell? ⟨ob, 2, none⟩ = some (.int .u8 (o1.toNat : Int)) ∧ W.cell? ⟨ob, 3, none⟩ = some (.int .u8 (o2.toNat : Int)) ∧ W.cell? ⟨ob, 4, none⟩ = some (.int .u8 (o3.toNat : Int)) ∧ W.cell? ⟨ob, 5, none⟩ = some (.int .u8 (o4.toNat : Int)) ∧ W.cell? ⟨ob, 6, none⟩ = some (.int .u8 (o5.toNat : Int)) ∧ W.cell? ⟨ob, 7, none⟩ = some (.int .u8 (o6.toNat : Int)) ∧ W.cell? ⟨ob, 8, none⟩ = some (.int .u8 (o7.toNat : Int)) ∧ W.cell? ⟨hb, 3, none⟩ = some (.slice (some ⟨g, 0, none⟩) (M + 1) dcap) ∧ W.cell? ⟨g, e * 18 + 1, none⟩ = some (.int .u8 (x0.toNat : Int)) ∧ W.cell? ⟨g, e * 18 + 1 + 1, none⟩ = some (.int .u8 (x1.toNat : Int)) ∧ W.cell? ⟨g, e * 18 + 1 + 2, none⟩ = some (.int .u8 (x2.toNat : Int)) ∧ W.cell? ⟨g, e * 18 + 1 + 3, none⟩ = some (.int .u8 (x3.toNat : Int)) ∧ W.cell? ⟨g, e * 18 + 1 + 4, none⟩ = some (.int .u8 (x4.toNat : Int)) ∧ W.cell? ⟨g, e * 18 + 1 + 5, none⟩ = some (.int .u8 (x5.toNat : Int)) ∧ W.cell? ⟨g, e * 18 + 1 + 6, none⟩ = some (.int .u8 (x6.toNat : Int)) ∧ W.cell? ⟨g, e * 18 + 1 + 7, none⟩ = some (.int .u8 (x7.toNat : Int))) := fun W hW => by
  have hG := H.below hW
  exact ⟨RowV.cell? hG.ro 0, RowV.cell? hG.ro 1, RowV.cell? hG.ro 2, RowV.cell? hG.ro 3, RowV.cell? hG.ro 4, RowV.cell? hG.ro 5, RowV.cell? hG.ro 6, RowV.cell? hG.ro 7, RowV.cell? hG.ro 8, hG.ce, hG.root O 0 (by omega), hG.root O 1 (by omega), hG.root O 2 (by omega), hG.root O 3 (by omega), hG.root O 4 (by omega), hG.root O 5 (by omega), hG.root O 6 (by omega), hG.root O 7 (by omega)⟩
 have HCI : Hid (∀ W, Below w.heap.size w W → Calls Try.prog 28 #[.agg #[.int .i64 ((pm : Int) + 1), .int .u8 (o0.toNat : Int), .int .u8 (o1.toNat : Int), .int .u8 (o2.toNat : Int), .int .u8 (o3.toNat : Int), .int .u8 (o4.toNat : Int), .int .u8 (o5.toNat : Int), .int .u8 (o6.toNat : Int), .int .u8 (o7.toNat : Int)], .int .i64 (e : Int), .agg #[.int .u8 (x0.toNat : Int), .int .u8 (x1.toNat : Int), .int .u8 (x2.toNat : Int), .int .u8 (x3.toNat : Int), .int .u8 (x4.toNat : Int), .int .u8 (x5.toNat : Int), .int .u8 (x6.toNat : Int), .int .u8 (x7.toNat : Int)], .slice sB.a sB.n sB.cap] W fun r w' => r = .returned (.bool true) ∧ Below W.heap.size W w') := fun W hW => (H.below hW).incB O
 have heM : (e : Int) < (M : Int) + 1 := by have h1 := O.nM; have h2 := O.mn; have h3 := O.em; simp only at h1 h2 h3; omega
 have hM40 : (M : Int) ≤ 39 := by have h1 := O.M40; simp only at h1; omega
 clear H O
 dsimp only [fr16]
 conv => arg 2; whnf
 go_simp
 obtain ⟨c0, c1, c2, c3, c4, c5, c6, c7, c8, c9, c10, c11, c12, c13, c14, c15, c16, c17⟩ := HG.out _ (Below.refl _ _)
 go_region_held3 (fun W => W.cell? ⟨ob, 0, none⟩ = some (.int .i64 ((pm : Int) + 1)) ∧ W.cell? ⟨ob, 1, none⟩ = some (.int .u8 (o0.toNat : Int)) ∧ W.cell? ⟨ob, 2, none⟩ = some (.int .u8 (o1.toNat : Int)) ∧ W.cell? ⟨ob, 3, none⟩ = some (.int .u8 (o2.toNat : Int)) ∧ W.cell? ⟨ob, 4, none⟩ = some (.int .u8 (o3.toNat : Int)) ∧ W.cell? ⟨ob, 5, none⟩ = some (.int .u8 (o4.toNat : Int)) ∧ W.cell? ⟨ob, 6, none⟩ = some (.int .u8 (o5.toNat : Int)) ∧ W.cell? ⟨ob, 7, none⟩ = some (.int .u8 (o6.toNat : Int)) ∧ W.cell? ⟨ob, 8, none⟩ = some (.int .u8 (o7.toNat : Int)) ∧ W.cell? ⟨hb, 3, none⟩ = some (.slice (some ⟨g, 0, none⟩) (M + 1) dcap) ∧ W.cell? ⟨g, e * 18 + 1, none⟩ = some (.int .u8 (x0.toNat : Int)) ∧ W.cell? ⟨g, e * 18 + 1 + 1, none⟩ = some (.int .u8 (x1.toNat : Int)) ∧ W.cell? ⟨g, e * 18 + 1 + 2, none⟩ = some (.int .u8 (x2.toNat : Int)) ∧ W.cell? ⟨g, e * 18 + 1 + 3, none⟩ = some (.int .u8 (x3.toNat : Int)) ∧ W.cell? ⟨g, e * 18 + 1 + 4, none⟩ = some (.int .u8 (x4.toNat : Int)) ∧ W.cell? ⟨g, e * 18 + 1 + 5, none⟩ = some (.int .u8 (x5.toNat : Int)) ∧ W.cell? ⟨g, e * 18 + 1 + 6, none⟩ = some (.int .u8 (x6.toNat : Int)) ∧ W.cell? ⟨g, e * 18 + 1 + 7, none⟩ = some (.int .u8 (x7.toNat : Int))) (go_keep)
  ((go_at_call 28; refine (HCI.out _ (by exact (Below.refl _ _).drew)).mono ?_; rintro r w8 ⟨rfl, hb8⟩; have HB8 : Hid (Below w.heap.size w w8) := (Below.refl _ _).drew.trans hb8; obtain ⟨m0, m1, m2, m3, m4, m5, m6, m7, m8, m9, m10, m11, m12, m13, m14, m15, m16, m17⟩ := HG.out _ HB8.out))
 all_goals
  go_wp2
  exact HQ.out _ _ (frame_ex (by kernel_rfl) HB8.out)
end Go.Proofs.Ytekegfbjbainhaa


namespace Go.Proofs.Ytekegfbjbainhaa
open Go.RowKit
attribute [local go_sem ↓] Go.wp_at_zero Go.wp_at_succ
set_option maxRecDepth 1000000 in
set_option maxHeartbeats 8000000 in
theorem g17 (p : GP) (u : Nat → Value) (w : World) (H : GB p w) (O : GO p) (Q : Exit → Act → World → Prop) (hQ : ∀ a' w', (∃ u', a' = ⟨fr18 p u', []⟩ ∧ Below w.heap.size w w') → Q .normal a' w') : Code.wp Try.prog (headOf (behind 15 (Try.f7.body.getD .skip))) Q ⟨fr17 p u, []⟩ w := by
 have HQ : Hid (∀ a' w', (∃ u', a' = ⟨fr18 p u', []⟩ ∧ Below w.heap.size w w') → Q .normal a' w') := hQ
 clear hQ
 obtain ⟨hb, ob, nb, g, M, pn, pm, e, dcap, pn0, pc, pa, place, dif, sA, sB, sC, x0, x1, x2, x3, x4, x5, x6, x7, o0, o1, o2, o3, o4, o5, o6, o7, n0, n1, n2, n3, n4, n5, n6, n7, rl, A, B, C⟩ := p
 have HG : Hid (∀ W, Below w.heap.size w W → (W.cell? ⟨ob, 0, none⟩ = some (.int .i64 ((pm : Int) + 1)) ∧ W.cell? ⟨ob, 1, none⟩ = some (.int .u8 (o0.toNat : Int)) ∧ W.cell? ⟨ob, 2, none⟩ = some (.int .u8 (o1.toNat : Int)) ∧ W.cell? ⟨ob, 3, none⟩ = some (.int .u8 (o2.toNat : Int)) ∧ W.cell? ⟨ob, 4, none⟩ = some (.int .u8 (o3.toNat : Int)) ∧ W.cell? ⟨ob, 5, none⟩ = some (.int .u8 (o4.toNat : Int)) ∧ W.cell? ⟨ob, 6, none⟩ = some (.int .u8 (o5.toNat : Int)) ∧ W.cell? ⟨ob, 7, none⟩ = some (.int .u8 (o6.toNat : Int)) ∧ W.cell? ⟨ob, 8, none⟩ = some (.int .u8 (o7.toNat : Int))) ∧ W.cell? ⟨nb, 0, none⟩ = some (.int .i64 ((pn : Int) + 1)) ∧ W.cell? ⟨nb, 1, none⟩ = some (.int .u8 (n0.toNat : Int)) ∧ W.cell? ⟨nb, 2, none⟩ = some (.int .u8 (n1.toNat : Int)) ∧ W.cell? ⟨nb, 3, none⟩ = some (.int .u8 (n2.toNat : Int)) ∧ W.cell? ⟨nb, 4, none⟩ = some (.int .u8 (n3.toNat : Int)) ∧ W.cell? ⟨nb, 5, none⟩ = some (.int .u8 (n4.toNat : Int)) ∧ W.cell? ⟨nb, 6, none⟩ = some (.int .u8 (n5.toNat : Int)) ∧ W.cell? ⟨nb, 7, none⟩ = some (.int .u8 (n6.toNat : Int)) ∧ W.cell? ⟨nb, 8, none⟩ = some (.int .u8 (n7.toNat : Int))) := fun W hW => by
  have hG := H.below hW
  exact ⟨⟨RowV.cell? hG.ro 0, RowV.cell? hG.ro 1, RowV.cell? hG.ro 2, RowV.cell? hG.ro 3, RowV.cell? hG.ro 4, RowV.cell? hG.ro 5, RowV.cell? hG.ro 6, RowV.cell? hG.ro 7, RowV.cell? hG.ro 8⟩, RowV.cell? hG.ru 0, RowV.cell? hG.ru 1, RowV.cell? hG.ru 2, RowV.cell? hG.ru 3, RowV.cell? hG.ru 4, RowV.cell? hG.ru 5, RowV.cell? hG.ru 6, RowV.cell? hG.ru 7, RowV.cell? hG.ru 8⟩
 have HCI : Hid (∀ W, Below w.heap.size w W → Calls Try.prog 29 #[.agg #[.int .i64 ((pm : Int) + 1), .int .u8 (o0.toNat : Int), .int .u8 (o1.toNat : Int), .int .u8 (o2.toNat : Int), .int .u8 (o3.toNat : Int), .int .u8 (o4.toNat : Int), .int .u8 (o5.toNat : Int), .int .u8 (o6.toNat : Int), .int .u8 (o7.toNat : Int)], .agg #[.int .i64 ((pn : Int) + 1), .int .u8 (n0.toNat : Int), .int .u8 (n1.toNat : Int), .int .u8 (n2.toNat : Int), .int .u8 (n3.toNat : Int), .int .u8 (n4.toNat : Int), .int .u8 (n5.toNat : Int), .int .u8 (n6.toNat : Int), .int .u8 (n7.toNat : Int)], .slice sC.a sC.n sC.cap] W fun r w' => r = .returned (.bool true) ∧ Below W.heap.size W w') := fun W hW => (H.below hW).extC O
 clear H O
 dsimp only [fr17]
 conv => arg 2; whnf
 go_simp
 obtain ⟨⟨c0, c1, c2, c3, c4, c5, c6, c7, c8⟩, d0, d1, d2, d3, d4, d5, d6, d7, d8⟩ := HG.out _ (Below.refl _ _)
 go_wp2_with fail
 refine (HCI.out _ (Below.refl _ _)).mono ?_
 rintro r w8 ⟨rfl, hb8⟩
 have HB8 : Hid (Below w.heap.size w w8) := hb8
 clear c0 c1 c2 c3 c4 c5 c6 c7 c8 d0 d1 d2 d3 d4 d5 d6 d7 d8 hb8
 go_wp2
 exact HQ.out _ _ (frame_ex (by kernel_rfl) HB8.out)
set_option maxRecDepth 1000000 in
set_option maxHeartbeats 8000000 in
theorem g18 (p : GP) (u : Nat → Value) (w : World) (H : GB p w) (O : GO p) (Q : Exit → Act → World → Prop) (hQ : ∀ a' w', (∃ u', a' = ⟨fr19 p u', []⟩ ∧ Below w.heap.size w w') → Q .normal a' w') : Code.wp Try.prog (headOf (behind 16 (Try.f7.body.getD .skip))) Q ⟨fr18 p u, []⟩ w := by
 have HQ : Hid (∀ a' w', (∃ u', a' = ⟨fr19 p u', []⟩ ∧ Below w.heap.size w w') → Q .normal a' w') := hQ
 clear hQ
 obtain ⟨z0, z1, z2, z3, z4, z5, z6, z7, HEE, HDG⟩ := dig_nil
 have HDG : Hid (∀ W, Calls Try.prog 30 #[.slice none 0 0] W fun r w' => r = .returned (.agg #[.int .u8 (z0.toNat : Int), .int .u8 (z1.toNat : Int), .int .u8 (z2.toNat : Int), .int .u8 (z3.toNat : Int), .int .u8 (z4.toNat : Int), .int .u8 (z5.toNat : Int), .int .u8 (z6.toNat : Int), .int .u8 (z7.toNat : Int)]) ∧ Below W.heap.size W w') := HDG
 obtain ⟨hb, ob, nb, g, M, pn, pm, e, dcap, pn0, pc, pa, place, dif, sA, sB, sC, x0, x1, x2, x3, x4, x5, x6, x7, o0, o1, o2, o3, o4, o5, o6, o7, n0, n1, n2, n3, n4, n5, n6, n7, rl, A, B, C⟩ := p
 have HG : Hid (∀ W, Below w.heap.size w W → W.cell? ⟨nb, 0, none⟩ = some (.int .i64 ((pn : Int) + 1)) ∧ W.cell? ⟨nb, 1, none⟩ = some (.int .u8 (n0.toNat : Int)) ∧ W.cell? ⟨nb, 2, none⟩ = some (.int .u8 (n1.toNat : Int)) ∧ W.cell? ⟨nb, 3, none⟩ = some (.int .u8 (n2.toNat : Int)) ∧ W.cell? ⟨nb, 4, none⟩ = some (.int .u8 (n3.toNat : Int)) ∧ W.cell? ⟨nb, 5, none⟩ = some (.int .u8 (n4.toNat : Int)) ∧ W.cell? ⟨nb, 6, none⟩ = some (.int .u8 (n5.toNat : Int)) ∧ W.cell? ⟨nb, 7, none⟩ = some (.int .u8 (n6.toNat : Int)) ∧ W.cell? ⟨nb, 8, none⟩ = some (.int .u8 (n7.toNat : Int))) := fun W hW => by
  have hG := H.below hW
  exact ⟨RowV.cell? hG.ru 0, RowV.cell? hG.ru 1, RowV.cell? hG.ru 2, RowV.cell? hG.ru 3, RowV.cell? hG.ru 4, RowV.cell? hG.ru 5, RowV.cell? hG.ru 6, RowV.cell? hG.ru 7, RowV.cell? hG.ru 8⟩
 have HCZ : Hid (∀ W, Calls Try.prog 29 #[.agg #[.int .i64 0, .int .u8 (z0.toNat : Int), .int .u8 (z1.toNat : Int), .int .u8 (z2.toNat : Int), .int .u8 (z3.toNat : Int), .int .u8 (z4.toNat : Int), .int .u8 (z5.toNat : Int), .int .u8 (z6.toNat : Int), .int .u8 (z7.toNat : Int)], .agg #[.int .i64 ((pn : Int) + 1), .int .u8 (n0.toNat : Int), .int .u8 (n1.toNat : Int), .int .u8 (n2.toNat : Int), .int .u8 (n3.toNat : Int), .int .u8 (n4.toNat : Int), .int .u8 (n5.toNat : Int), .int .u8 (n6.toNat : Int), .int .u8 (n7.toNat : Int)], .slice none 0 0] W fun r w' => r = .returned (.bool true) ∧ Below W.heap.size W w') := fun W => GB.extZ O HEE
 clear H O HEE
 dsimp only [fr18]
 conv => arg 2; whnf
 go_simp
 obtain ⟨d0, d1, d2, d3, d4, d5, d6, d7, d8⟩ := HG.out _ (Below.refl _ _)
 go_region_held3 (fun W => W.cell? ⟨nb, 0, none⟩ = some (.int .i64 ((pn : Int) + 1)) ∧ W.cell? ⟨nb, 1, none⟩ = some (.int .u8 (n0.toNat : Int)) ∧ W.cell? ⟨nb, 2, none⟩ = some (.int .u8 (n1.toNat : Int)) ∧ W.cell? ⟨nb, 3, none⟩ = some (.int .u8 (n2.toNat : Int)) ∧ W.cell? ⟨nb, 4, none⟩ = some (.int .u8 (n3.toNat : Int)) ∧ W.cell? ⟨nb, 5, none⟩ = some (.int .u8 (n4.toNat : Int)) ∧ W.cell? ⟨nb, 6, none⟩ = some (.int .u8 (n5.toNat : Int)) ∧ W.cell? ⟨nb, 7, none⟩ = some (.int .u8 (n6.toNat : Int)) ∧ W.cell? ⟨nb, 8, none⟩ = some (.int .u8 (n7.toNat : Int))) (go_keep)
   ((first | (go_at_call 30; refine (HDG.out _).mono ?_; rintro r w11 ⟨rfl, hb11⟩; have HB11 : Hid (Below w.heap.size w w11) := (Below.refl _ _).drew.trans hb11; obtain ⟨m0, m1, m2, m3, m4, m5, m6, m7, m8⟩ := HG.out _ HB11.out) | (go_at_call 29; refine (HCZ.out _).mono ?_; rintro r w12 ⟨rfl, hb12⟩; (first | (have HB12 : Hid (Below w.heap.size w w12) := HB11.out.trans (hb12.mono HB11.out.size)) | (have HB12 : Hid (Below w.heap.size w w12) := HB11.out.drew.trans (hb12.mono HB11.out.size))); obtain ⟨p0, p1, p2, p3, p4, p5, p6, p7, p8⟩ := HG.out _ HB12.out)))
 all_goals
  go_wp2
  exact HQ.out _ _ (frame_ex (by kernel_rfl) HB12.out)
set_option maxRecDepth 1000000 in
set_option maxHeartbeats 8000000 in
theorem g19 (p : GP) (u : Nat → Value) (w : World) (Q : Exit → Act → World → Prop) (hQ : ∀ a' w', (∃ u', a' = ⟨fr15 p u', []⟩ ∧ Below w.heap.size w w') → Q .normal a' w') : Code.wp Try.prog (headOf (behind 17 (Try.f7.body.getD .skip))) Q ⟨fr19 p u, []⟩ w := by
 have HQ : Hid (∀ a' w', (∃ u', a' = ⟨fr15 p u', []⟩ ∧ Below w.heap.size w w') → Q .normal a' w') := hQ
 clear hQ
 obtain ⟨hb, ob, nb, g, M, pn, pm, e, dcap, pn0, pc, pa, place, dif, sA, sB, sC, x0, x1, x2, x3, x4, x5, x6, x7, o0, o1, o2, o3, o4, o5, o6, o7, n0, n1, n2, n3, n4, n5, n6, n7, rl, A, B, C⟩ := p
 dsimp only [fr19]
 conv => arg 2; whnf
 go_simp
 go_wp2_with fail
 exact HQ.out _ _ (frame_ex (by kernel_rfl) (Below.refl _ _))
end Go.Proofs.Ytekegfbjbainhaa


namespace Go.Proofs.Ytekegfbjbainhaa
open Go.RowKit
attribute [local go_sem ↓] Go.wp_at_zero Go.wp_at_succ
structure LsAt (wD : World) (sL : SlR) (ds : List (SlR × List (List UInt8))) (w : World) : Prop where
 bel : Below wD.heap.size wD w
 own : w.ownsRow wD.heap.size 73 1 (.slice sL.a sL.n sL.cap) ds.length (slsV ds)
 dg : ∀ x ∈ ds, DgL wD x.1 x.2
 len : ds.length ≤ 11
set_option maxRecDepth 1000000 in
set_option maxHeartbeats 8000000 in
theorem g25 (p : GP) (u : Nat → Value) (qb : Nat) (w : World) (H : GB p w) (Q : Exit → Act → World → Prop) (hQ : ∀ (sL : SlR) (a' : Act) (w' : World), (∃ u', a' = ⟨fr26 p qb sL u', []⟩ ∧ LsAt w sL [(p.sA, p.A), (p.sB, p.B), (p.sC, p.C)] w') → Q .normal a' w') : Code.wp Try.prog (headOf (behind 20 (Try.f7.body.getD .skip))) Q ⟨fr22 p qb u, []⟩ w := by
 have HQ : Hid (∀ (sL : SlR) (a' : Act) (w' : World), (∃ u', a' = ⟨fr26 p qb sL u', []⟩ ∧ LsAt w sL [(p.sA, p.A), (p.sB, p.B), (p.sC, p.C)] w') → Q .normal a' w') := hQ
 clear hQ
 obtain ⟨hb, ob, nb, g, M, pn, pm, e, dcap, pn0, pc, pa, place, dif, sA, sB, sC, x0, x1, x2, x3, x4, x5, x6, x7, o0, o1, o2, o3, o4, o5, o6, o7, n0, n1, n2, n3, n4, n5, n6, n7, rl, A, B, C⟩ := p
 have HDG : Hid (DgL w sA A ∧ DgL w sB B ∧ DgL w sC C) := ⟨H.dA, H.dB, H.dC⟩
 clear H
 dsimp only [fr22]
 conv => arg 2; whnf
 go_simp
 go_wp2_with fail
 refine HQ.out ⟨some ⟨w.heap.size, 0, none⟩, 3, 3⟩ _ _ (frame_ex (by kernel_rfl) ?_)
 refine ⟨(Below.refl _ _).alloc (Nat.le_refl _) _, owns_built w w.heap.size 73 1 3 (slsV [(sA, A), (sB, B), (sC, C)]) (Nat.le_refl _) rfl (by decide), ?_, by simp⟩
 intro x hx
 simp only [List.mem_cons, List.not_mem_nil, or_false] at hx
 rcases hx with rfl | rfl | rfl
 ·exact HDG.out.1
 ·exact HDG.out.2.1
 ·exact HDG.out.2.2
set_option maxRecDepth 1000000 in
set_option maxHeartbeats 8000000 in
theorem g26 (p : GP) (u : Nat → Value) (qb : Nat) (sL : SlR) (ds0 : List (SlR × List (List UInt8))) (wD w : World) (H : GB p wD) (O : GO p) (HL : LsAt wD sL ds0 w) (h3 : ds0.length = 3) (Q : Exit → Act → World → Prop) (hQ : ∀ (sL : SlR) (ds : List (SlR × List (List UInt8))) (a' : Act) (w' : World), (∃ u', a' = ⟨fr26 p qb sL u', []⟩ ∧ LsAt wD sL ds w') → Q .normal a' w') : Code.wp Try.prog (headOf (behind 21 (Try.f7.body.getD .skip))) Q ⟨fr26 p qb sL u, []⟩ w := by
 have HQ : Hid (∀ (sL : SlR) (ds : List (SlR × List (List UInt8))) (a' : Act) (w' : World), (∃ u', a' = ⟨fr26 p qb sL u', []⟩ ∧ LsAt wD sL ds w') → Q .normal a' w') := hQ
 clear hQ
 obtain ⟨hb, ob, nb, g, M, pn, pm, e, dcap, pn0, pc, pa, place, dif, sA, sB, sC, x0, x1, x2, x3, x4, x5, x6, x7, o0, o1, o2, o3, o4, o5, o6, o7, n0, n1, n2, n3, n4, n5, n6, n7, rl, A, B, C⟩ := p
 have HPT : Hid (PathsAt wD pa pn0) := H.pt
 have hpn : (pn0 : Int) ≤ 9223372036854775807 := by have h1 := O.pn; simp only at h1; omega
 have HLS : Hid (LsAt wD sL ds0 w ∧ ds0.length = 3) := ⟨HL, h3⟩
 clear H O HL h3
 dsimp only [fr26]
 conv => arg 2; whnf
 go_simp
 go_wp2
 go_loopw [36, 37] (fun lv i wx => ∃ (k : Nat) (v : SlR) (ds : List (SlR × List (List UInt8))), k ≤ pn0 ∧ k ≤ 8 ∧ i = .int .i64 (k : Int) ∧ lv = .slice v.a v.n v.cap ∧ Hid (LsAt wD v ds wx ∧ ds.length = 3 + k)) (fun _ i _ => 8 - (intOf i).toNat)
 case atStart => exact ⟨0, sL, ds0, by omega, by omega, rfl, rfl, HLS.out.1, by rw [HLS.out.2]⟩
 case round =>
  obtain ⟨k, v, ds, hkp, hk8, rfl, rfl, HX⟩ := hrel
  have hkI : (k : Int) ≤ 8 := by omega
  by_cases hlt : k < pn0 ∧ k < 8
  ·have hl1 : (k : Int) < pn0 := by omega
   have hl2 : (k : Int) < 8 := by omega
   obtain ⟨b, o, s1, L1, hpa, hbl, hc, hd⟩ := HPT.out k hlt.1
   subst hpa
   have c0 : wr.cell? ⟨b, o + k, none⟩ = some (.slice s1.a s1.n s1.cap) := (HX.out.1.bel.cell (p := ⟨b, o + k, none⟩) hbl).trans hc
   have HD1 : Hid (DgL wD s1 L1) := hd
   clear hc hd hbl hlt
   go_wp2_with (first
    | (at_builtin; have HBe : Hid (Below wr.heap.size wr (wr.alloc (.cells #[.slice s1.a s1.n s1.cap] 73))) := (Below.refl _ _).alloc (Nat.le_refl _) _; refine wp_appendV (by rfl) (.tmp 236) (.tmp 241) 72 (by rfl) wD.heap.size 73 _ 1 24 Try.underlying72 Try.infoDgs rfl (by decide) (.slice v.a v.n v.cap) ds.length (slsV ds) (by rfl) (owns_below HX.out.1.own HBe.out) (some ⟨wr.heap.size, 0, none⟩) 1 1 (slsV [(s1, L1)]) (by rfl) rfl (SlV.alloc_new wr (slsV [(s1, L1)]) _) (fun h => by cases h) (slsV_one _) (by have := HX.out.2; unfold maxLen; omega) (by have := HX.out.2; omega) (Nat.le_trans HX.out.1.bel.size HBe.out.size) ?_; intro v6 w6 ho6 hf6 hat6; obtain ⟨a6, c6, hv6, _⟩ := owns_form ho6; subst hv6; have HB6 : Hid (Below wD.heap.size wD w6) := (HX.out.1.bel.trans (HBe.out.mono HX.out.1.bel.size)).trans (hf6.below (Nat.le_trans HX.out.1.bel.size HBe.out.size) (fun q hq => (World.ownsRow.lt HX.out.1.own q hq).1)); have HO6 : Hid (w6.ownsRow wD.heap.size 73 1 (.slice a6 (ds.length + 1) c6) (ds ++ [(s1, L1)]).length (slsV (ds ++ [(s1, L1)]))) := by { unfold Hid slsV; rw [List.map_append, show (ds ++ [(s1, L1)]).length = ds.length + 1 from List.length_append]; exact ho6 }))
   refine ⟨⟨k + 1, ⟨a6, ds.length + 1, c6⟩, ds ++ [(s1, L1)], by omega, by omega, by go_num, rfl, ⟨HB6.out, HO6.out, ?_, by have := HX.out.2; simp; omega⟩, by have := HX.out.2; simp; omega⟩, by simp [intOf]; omega⟩
   intro s hs
   rcases List.mem_append.1 hs with hs | hs
   ·exact HX.out.1.dg s hs
   ·rw [List.mem_singleton.1 hs]; exact HD1.out
  ·by_cases hkp2 : k < pn0
   ·have hl1 : (k : Int) < pn0 := by omega
    have hl2 : ¬ (k : Int) < 8 := by omega
    go_wp2
    exact HQ.out v ds _ _ (frame_ex (by kernel_rfl) HX.out.1)
   ·have hl1 : ¬ (k : Int) < pn0 := by omega
    go_wp2
    exact HQ.out v ds _ _ (frame_ex (by kernel_rfl) HX.out.1)
end Go.Proofs.Ytekegfbjbainhaa
