/- The statement's own steps, as far as Digest goes. -/
import Derived.Test.YtekegfbjbainhaaGreatKDig
import Derived.Test.YtekegfbjbainhaaGreatKOwn
import Derived.Deep.RegionHeld3
import Derived.Deep.DrawnRows
import Derived.Stop.BytesEq
import Derived.Deep.RegionWith
import Derived.Deep.MidRow
namespace Go.Proofs.YtekegfbjbainhaaGreat
set_option linter.unusedVariables false
set_option linter.unusedSimpArgs false
open Go.RowKit

set_option maxRecDepth 100000 in
set_option maxHeartbeats 400000 in
theorem looks_nil (b o : Nat) (w : World) (h0 : w.cell? ⟨b, o, none⟩ = some (.slice none 0 0)) (h1 : w.cell? ⟨b, o + 1, none⟩ = some (.slice none 0 0)) (h2 : w.cell? ⟨b, o + 2, none⟩ = some (.slice none 0 0)) :
    Calls Tryz.prog 13 #[.pointer (some ⟨b, o, none⟩)] w fun e w' => e = .returned (.bool true) ∧ w' = w := by
  go_enter Tryz.func13, Tryz.ntmps13
  go_wp2
  go_rounds 1
  go_rounds 1
  go_rounds 1
  go_ret
  exact ⟨rfl, rfl⟩

set_option maxRecDepth 100000 in
set_option maxHeartbeats 800000 in
theorem free_digest (cs : List Value) (oa : Int) (s : ByteArray) (p : Value) (w : World) (k0 : cs[0]? = some (.int .i64 1)) (k1 : cs[1]? = some (.int .i64 oa)) (k4 : cs[4]? = some (.string s)) (hs : s.size ≤ 140737488351232) :
    Calls Tryz.prog 19 #[p, .agg cs.toArray] w fun e w' => e = .returned (.bool true) ∧ Below w.heap.size w w' := by
  go_enter Tryz.func19, Tryz.ntmps19
  go_wp2_with fail
  refine (lent_ok s _ _ hs).mono ?_
  rintro e w1 ⟨a, cap, rfl, hl1, hb1, hz1⟩
  simp only [World.size_alloc] at hb1 hz1 hl1
  go_wp2_with fail
  refine (digest_any a _ cap s.data.toList w1 (by simp) (by simp; unfold maxLen; omega) hl1.sl).mono ?_
  rintro e w2 ⟨rfl, hb2⟩
  obtain ⟨x0, x1, x2, x3, x4, x5, x6, x7, hx⟩ := digV_form s.data.toList
  have HX : Hid (digV s.data.toList = _) := hx
  rw [hx]
  clear hx
  have c4 : w2.cell? ⟨w.heap.size, 4, none⟩ = some (.string s) := by
    rw [hb2.cell (p := ⟨w.heap.size, 4, none⟩) (by have := hb1.size; simp at this; show w.heap.size < _; omega), hb1.cell (p := ⟨w.heap.size, 4, none⟩) (by show w.heap.size < _; omega)]
    simp [go_sem, k4]
  have z2 := hb2.size
  have z1 := hb1.size
  simp only [World.size_alloc] at z1
  have c4a : ∀ X : Obj, (w2.alloc X).cell? ⟨w.heap.size, 4, none⟩ = some (.string s) := fun X => by
    rw [← c4]; exact Below.cell (B := w2.heap.size) ((Below.refl _ _).alloc (Nat.le_refl _) _) (p := ⟨w.heap.size, 4, none⟩) (by show w.heap.size < _; omega)
  go_wp2_with fail
  refine (back_ok s a cap (w.heap.size + 1) _ hs ?_).mono ?_
  · exact (hl1.below hb2 (Nat.le_refl _)).below ((Below.refl _ _).alloc (Nat.le_refl _) _) (Nat.le_refl _)
  rintro e w3 ⟨rfl, hf3, hz3⟩
  simp only [World.size_alloc] at hz3
  have hlt := fun k (hk : a = some ⟨k, 0, none⟩) => hl1.lt hk
  have d4 : w3.cell? ⟨w.heap.size, 4, none⟩ = some (.string s) := by
    rw [← c4a]
    exact World.cell?_of_block (hf3.block _ (by show w.heap.size < _; simp; omega) (fun e => by have := hlt _ e; simp only at this; omega))
  have hd : RowV w3 w2.heap.size 36 [.int .u8 x0, .int .u8 x1, .int .u8 x2, .int .u8 x3, .int .u8 x4, .int .u8 x5, .int .u8 x6, .int .u8 x7] :=
    (RowV.new w2 36 _).of_block (hf3.block _ (by simp) (fun e => by have := hlt _ e; omega))
  have e0 := hd.cell 0 (by simp)
  have e1 := hd.cell 1 (by simp)
  have e2 := hd.cell 2 (by simp)
  have e3 := hd.cell 3 (by simp)
  have e4 := hd.cell 4 (by simp)
  have e5 := hd.cell 5 (by simp)
  have e6 := hd.cell 6 (by simp)
  have e7 := hd.cell 7 (by simp)
  simp only [List.getElem_cons_zero, List.getElem_cons_succ] at e0 e1 e2 e3 e4 e5 e6 e7
  have hcv := fun w => run_bytes_of_string (P := Tryz.prog) w 9 38 5 s Tryz.underlying9 Tryz.underlying38 Tryz.underlying5
  have hB3 : Hid (Below w.heap.size w w3) := by
    have h1 : Below w.heap.size w w2 := (((Below.refl _ _).alloc (Nat.le_refl _) _).trans (hb1.mono (by omega))).trans (hb2.mono (by omega))
    exact (h1.alloc (by omega) _).trans (hf3.below (by simp; omega) (fun k hk => by have := hlt _ hk; omega))
  clear c4 c4a hf3 hb2 hb1 hl1 hd hlt
  have heq : ∀ w, (Op.equalIn 10000 36 (Value.agg #[.int .u8 x0, .int .u8 x1, .int .u8 x2, .int .u8 x3, .int .u8 x4, .int .u8 x5, .int .u8 x6, .int .u8 x7]) (Value.agg #[.int .u8 x0, .int .u8 x1, .int .u8 x2, .int .u8 x3, .int .u8 x4, .int .u8 x5, .int .u8 x6, .int .u8 x7])).run Tryz.prog w = .ok true w := fun w => by
    have h := run_equalIn_bytes (P := Tryz.prog) w 9998 36 5 8 Tryz.underlying36 Tryz.underlying5 Tryz.sizeU8 (digB s.data.toList) (digB s.data.toList) rfl rfl
    rw [beq_self_eq_true] at h
    rw [← HX.out]
    exact h
  have g1 : w2.heap.size < w3.heap.size := by omega
  have g2 : w.heap.size < w3.heap.size := by omega
  clear hz3 hz1 z1 z2
  go_wp2
  go_region_with (first | (go_at_call 10; refine (refDigest_any _ _ _ s.data.toList _ (by simp) (by simp; unfold maxLen; omega) (by exact SlB.mk (by simp) (bytes_of_string _ _ _ _ _))).mono ?_; rintro e w4 ⟨rfl, hb4⟩; obtain ⟨hc4, _⟩ := bcell hb4; rw [HX.out]))
  all_goals
    go_wp2
    go_ret
    refine ⟨rfl, Below.trans ?_ (hb4.mono (by simp only [World.size_alloc, World.size_drew]; omega))⟩
    repeat' (first | (with_reducible exact hB3.out) | (with_reducible refine Below.drew ?_) | (with_reducible refine Below.alloc ?_ ?_ _) | omega | (simp only [World.size_alloc, World.size_drew]; omega))
end Go.Proofs.YtekegfbjbainhaaGreat
