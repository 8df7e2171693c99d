import Derived.Test.YtekegfbjbainhaaGreatRows
import Derived.Test.YtekegfbjbainhaaGreatKJoin1
import Derived.Deep.RegionHeld3
import Derived.Deep.DrawnRows
import Derived.Stop.BytesEq
import Derived.Deep.RegionWith
import Derived.Deep.MidRow
/- What the statements lend and take back ('lent', 'back'), walked. -/
namespace Go.Proofs.YtekegfbjbainhaaGreat
set_option linter.unusedVariables false
set_option linter.unusedSimpArgs false
open Go.RowKit

theorem Tryz.infoU8 : (Tryz.prog.info? 5).map (fun i => (i.zero, i.size, i.bytes)) = some (some (.int .u8 0), 1, 1) := by kernel_rfl
theorem Tryz.sizeU8 (w : World) : (Go.sizeOf 5).run Tryz.prog w = .ok 1 w := by kernel_rfl

theorem lent_nil (w : World) :
    Calls Tryz.prog 14 #[.string ⟨#[]⟩, .bool true] w fun e w' => e = .returned (.slice none 0 0) ∧ w' = w := by
  go_enter Tryz.func14, Tryz.ntmps14
  go_wp2
  go_ret
  exact ⟨rfl, rfl⟩

/-- What is lent of a text: its bytes, and eight of 77 behind them. -/
def lentL (s : ByteArray) : List UInt8 := s.data.toList ++ List.replicate 8 77

/-- The row while the spare places are filled. -/
def fillL (s : ByteArray) (j : Nat) : List UInt8 := s.data.toList ++ List.replicate j 77 ++ List.replicate (8 - j) 0
theorem fillL_set (s : ByteArray) (j : Nat) (h : j < 8) : (fillL s j).set (s.size + j) 77 = fillL s (j + 1) := by
  unfold fillL
  have e : 8 - j = (8 - (j + 1)) + 1 := by omega
  rw [e, List.replicate_succ, List.set_append_right _ _ (by simp)]
  simp only [List.length_append, Array.length_toList, ByteArray.size_data, List.length_replicate]
  rw [show s.size + j - (s.size + j) = 0 by omega, List.set_cons_zero, List.replicate_succ' (n := j)]
  simp

set_option maxRecDepth 100000 in
set_option maxHeartbeats 400000 in
theorem lent_any (s : ByteArray) (z : Bool) (w : World) (hs : s.size ≤ 140737488351232) (hz : (s.toList.isEmpty && z) = false) :
    Calls Tryz.prog 14 #[.string s, .bool z] w fun e w' => e = .returned (.slice (some ⟨w.heap.size, 0, none⟩) s.size (s.size + 8)) ∧ RowB w' w.heap.size (lentL s) ∧ Below w.heap.size w w' ∧ w'.heap.size = w.heap.size + 1 := by
  have hmk := fun w => run_make_row' (P := Tryz.prog) 38 5 (.int .u8 0) 1 Tryz.underlying38 Tryz.infoU8 rfl .i64 .i64 (s.size + 8) (by omega) (by omega) w
  rw [show ((s.size + 8 : Nat) : Int) = (s.size : Int) + 8 by omega] at hmk
  obtain ⟨W1, hcp, hrow, hbel, hsz⟩ : ∃ W1 : World, (Builtin.copy_ #[38, 9] 3 #[Value.slice (some ⟨w.heap.size, 0, none⟩) (s.size + 8) (s.size + 8), Value.string s]).run Tryz.prog
      (w.alloc (Obj.cells (madeCells #[Value.int IntKind.u8 0] (s.size + 8)) 5)) = .ok (goInt s.size) W1 ∧ RowB W1 w.heap.size (fillL s 0) ∧ Below w.heap.size w W1 ∧ W1.heap.size = w.heap.size + 1 := by
    have hr := RowB.made w (s.size + 8)
    refine ⟨_, run_copy_string _ _ _ _ 5 w.heap.size 0 _ _ s Tryz.underlying38 Tryz.sizeU8 (by omega) (fun j hj => ?_) (fun j hj => by rw [Nat.zero_add]; exact hr.frozen j), ?_, ?_, ?_⟩
    · rw [Nat.zero_add, hr.cell j (by simp; omega)]; rfl
    · have h2 := hr.setCells s.data.toList 0 _ _ (by simp)
      refine cast (congrArg (RowB _ _) ?_) h2
      simp [fillL]
    · exact below_setCells (Nat.le_refl _) _ _ _ ((Below.refl _ _).alloc (Nat.le_refl _) _)
    · rw [size_setCells]; simp
  have hcases : (s.toList.isEmpty = true ∧ z = false) ∨ s.toList.isEmpty = false := by
    cases h : s.toList.isEmpty <;> simp_all
  clear hz
  rcases hcases with ⟨hE, rfl⟩ | hE
  all_goals
    go_enter Tryz.func14, Tryz.ntmps14
    go_wp2
    go_loopw [6] (fun i wr => ∃ k : Nat, k ≤ 8 ∧ i = .int .i64 ((s.size : Int) + k) ∧ RowB wr w.heap.size (fillL s k) ∧ Below w.heap.size w wr ∧ wr.heap.size = w.heap.size + 1) (fun i _ => s.size + 8 - (intOf i).toNat)
    case atStart => exact ⟨0, by omega, by simp, hrow, hbel, hsz⟩
    case round =>
      obtain ⟨k, hk, rfl, hrow, hbel2, hsz2⟩ := hrel
      by_cases hlt : k < 8
      · have hcell := hrow.cell (s.size + k) (by simp [fillL]; omega)
        have hfz := hrow.frozen (s.size + k)
        go_wp2
        refine ⟨⟨k + 1, by omega, by go_num, ?_, hbel2.setCell (Nat.le_refl _) _, by simpa using hsz2⟩, by simp [intOf]; omega⟩
        rw [← fillL_set s k hlt]
        exact hrow.set (s.size + k) 77
      · have e8 : Hid (fillL s k = lentL s) := by
          unfold Hid fillL lentL
          rw [show k = 8 by omega]; simp
        go_wp2
        go_returns
        exact ⟨rfl, e8.out ▸ hrow, hbel2, hsz2⟩

theorem back_nil (w : World) :
    Calls Tryz.prog 16 #[.slice none 0 0, .string ⟨#[]⟩] w fun e w' => e = .returned (.bool true) ∧ w' = w := by
  have hn := fun w => run_eql_slice_nil (P := Tryz.prog) w 38 5 none 0 0 Tryz.underlying38
  go_enter Tryz.func16, Tryz.ntmps16
  go_wp2
  go_ret
  exact ⟨rfl, rfl⟩

/-- The row while it is written over. -/
def overL (s : ByteArray) (j : Nat) : List UInt8 := List.replicate j 78 ++ (lentL s).drop j
theorem lentL_length (s : ByteArray) : (lentL s).length = s.size + 8 := by simp [lentL]
theorem overL_length (s : ByteArray) (j : Nat) (h : j ≤ s.size + 8) : (overL s j).length = s.size + 8 := by simp [overL, lentL_length]; omega
theorem overL_set (s : ByteArray) (j : Nat) (h : j < s.size + 8) : (overL s j).set j 78 = overL s (j + 1) := by
  unfold overL
  rw [List.set_append_right _ _ (by simp), List.length_replicate, show j - j = 0 by omega, List.replicate_succ' (n := j), List.drop_eq_getElem_cons (by rw [lentL_length]; exact h), List.set_cons_zero]
  simp
theorem overL_at (s : ByteArray) (j : Nat) (h : j < s.size + 8) (h1 : ¬ j < s.size) : (overL s j)[j]'(by rw [overL_length _ _ (by omega)]; exact h) = 77 := by
  simp only [overL, lentL]
  rw [List.getElem_append_right (by simp)]
  simp only [List.length_replicate, List.getElem_drop]
  rw [List.getElem_append_right (by simp; omega)]
  exact List.getElem_replicate _

set_option maxRecDepth 100000 in
set_option maxHeartbeats 400000 in
theorem back_any (s : ByteArray) (b : Nat) (w : World) (hs : s.size ≤ 140737488351232) (hrow : RowB w b (lentL s)) :
    Calls Tryz.prog 16 #[.slice (some ⟨b, 0, none⟩) s.size (s.size + 8), .string s] w fun e w' => e = .returned (.bool true) ∧ Frame (fun k => k = b) w w' ∧ w'.heap.size = w.heap.size := by
  have hn := fun w => run_eql_slice_nil (P := Tryz.prog) w 38 5 (some ⟨b, 0, none⟩) s.size (s.size + 8) Tryz.underlying38
  have hcv := run_string_BAt (P := Tryz.prog) w 38 9 5 b 0 (s.size + 8) s.data.toList Tryz.underlying38 Tryz.underlying5 Tryz.underlying9
    (hrow.at 0 _ (fun i hi => by rw [Nat.zero_add, lentL, List.getElem?_append_left hi]; exact List.getElem?_eq_getElem hi))
  rw [byteArray_toList, Array.length_toList, ByteArray.size_data] at hcv
  go_enter Tryz.func16, Tryz.ntmps16
  go_wp2
  go_loopw [5, 7] (fun ok i wr => ∃ k : Nat, k ≤ s.size + 8 ∧ i = .int .i64 (k : Int) ∧ ok = .bool true ∧ RowB wr b (overL s k) ∧ Frame (fun k => k = b) w wr ∧ wr.heap.size = w.heap.size) (fun _ i _ => s.size + 8 - (intOf i).toNat)
  case atStart => exact ⟨0, by omega, by simp, by simp, by simpa [overL] using hrow, Frame.refl _ _, rfl⟩
  case round =>
    obtain ⟨k, hk, rfl, rfl, hrow2, hf, hsz⟩ := hrel
    by_cases hlt : k < s.size + 8
    · have hcell := hrow2.cell k (by rw [overL_length _ _ hk]; exact hlt)
      have hfz := hrow2.frozen k
      have HS : Hid (RowB (wr.setCell ⟨b, k, none⟩ (.int .u8 78)) b (overL s (k + 1))) := by
        rw [← overL_set s k hlt]; exact hrow2.set k 78
      have HF : Hid (Frame (fun k => k = b) w (wr.setCell ⟨b, k, none⟩ (.int .u8 78))) := hf.setCell rfl _
      by_cases h1 : k < s.size
      · go_wp2
        exact ⟨⟨k + 1, by omega, by go_num, by simp, HS.out, HF.out, by simpa using hsz⟩, by simp [intOf]; omega⟩
      · rw [overL_at s k hlt h1] at hcell
        go_wp2
        exact ⟨⟨k + 1, by omega, by go_num, by simp, HS.out, HF.out, by simpa using hsz⟩, by simp [intOf]; omega⟩
    · go_wp2
      go_returns
      exact ⟨rfl, hf, hsz⟩
/-- What 'lent' gave of a text, as it lies: nil, or a row of its own in block b. -/
def LentAt (w : World) (b : Nat) (s : ByteArray) (a : Option Addr) (cap : Nat) : Prop :=
  (a = none ∧ cap = 0 ∧ s = ⟨#[]⟩) ∨ (a = some ⟨b, 0, none⟩ ∧ cap = s.size + 8 ∧ RowB w b (lentL s))
theorem LentAt.sl {w : World} {b : Nat} {s : ByteArray} {a : Option Addr} {cap : Nat} (h : LentAt w b s a cap) : SlB w a s.data.toList := by
  rcases h with ⟨rfl, rfl, rfl⟩ | ⟨rfl, rfl, hr⟩
  · exact SlB.nil _ _
  · exact SlB.mk hr.lt (hr.at 0 _ (fun i hi => by rw [Nat.zero_add, lentL, List.getElem?_append_left hi]; exact List.getElem?_eq_getElem hi))
theorem LentAt.below {w w' : World} {b B : Nat} {s : ByteArray} {a : Option Addr} {cap : Nat} (h : LentAt w b s a cap) (hw : Below B w w') (hB : w.heap.size ≤ B) : LentAt w' b s a cap := by
  rcases h with h | ⟨ha, hc, hr⟩
  · exact Or.inl h
  · exact Or.inr ⟨ha, hc, hr.below (Nat.lt_of_lt_of_le hr.lt hB) hw⟩
theorem LentAt.lt {w : World} {b k : Nat} {s : ByteArray} {a : Option Addr} {cap : Nat} (h : LentAt w b s a cap) (ha : a = some ⟨k, 0, none⟩) : k = b ∧ b < w.heap.size := by
  rcases h with ⟨h1, _, _⟩ | ⟨h1, _, hr⟩
  · rw [h1] at ha; cases ha
  · rw [h1] at ha; cases ha; exact ⟨rfl, hr.lt⟩
theorem LentAt.frame {w w' : World} {b : Nat} {S : Nat → Prop} {s : ByteArray} {a : Option Addr} {cap : Nat} (h : LentAt w b s a cap) (hw : Frame S w w') (hb : ¬ S b) : LentAt w' b s a cap := by
  rcases h with h | ⟨ha, hc, hr⟩
  · exact Or.inl h
  · exact Or.inr ⟨ha, hc, RowV.of_block hr (hw.block b hr.lt hb)⟩

theorem lent_ok (s : ByteArray) (z : Bool) (w : World) (hs : s.size ≤ 140737488351232) :
    Calls Tryz.prog 14 #[.string s, .bool z] w fun e w' => ∃ a cap, e = .returned (.slice a s.size cap) ∧ LentAt w' w.heap.size s a cap ∧ Below w.heap.size w w' ∧ w'.heap.size ≤ w.heap.size + 1 := by
  by_cases hz : (s.toList.isEmpty && z) = true
  · simp only [Bool.and_eq_true, List.isEmpty_iff] at hz
    obtain ⟨h1, rfl⟩ := hz
    have e : s = ⟨#[]⟩ := by
      have h2 : s.data.toList = [] := by rw [← h1]; exact (Lib.toList_data s).symm
      rw [← byteArray_toList s, h2]
    subst e
    refine (lent_nil w).mono ?_
    rintro e w1 ⟨rfl, rfl⟩
    exact ⟨none, 0, rfl, Or.inl ⟨rfl, rfl, rfl⟩, Below.refl _ _, by omega⟩
  · refine (lent_any s z w hs (by simpa using hz)).mono ?_
    rintro e w1 ⟨rfl, hr, hb, hsz⟩
    exact ⟨_, _, rfl, Or.inr ⟨rfl, rfl, hr⟩, hb, by omega⟩

theorem back_ok (s : ByteArray) (a : Option Addr) (cap b : Nat) (w : World) (hs : s.size ≤ 140737488351232) (h : LentAt w b s a cap) :
    Calls Tryz.prog 16 #[.slice a s.size cap, .string s] w fun e w' => e = .returned (.bool true) ∧ Frame (fun k => a = some ⟨k, 0, none⟩) w w' ∧ w'.heap.size = w.heap.size := by
  rcases h with ⟨rfl, rfl, rfl⟩ | ⟨rfl, rfl, hr⟩
  · refine (back_nil w).mono ?_
    rintro e w1 ⟨rfl, rfl⟩
    exact ⟨rfl, Frame.refl _ _, rfl⟩
  · refine (back_any s b w hs hr).mono ?_
    rintro e w1 ⟨rfl, hf, hz⟩
    exact ⟨rfl, hf.mono (fun k _ hk => by rw [hk]), hz⟩

end Go.Proofs.YtekegfbjbainhaaGreat

/- The statement's own steps, as far as Digest goes. -/
namespace Go.Proofs.YtekegfbjbainhaaGreat
set_option linter.unusedVariables false
set_option linter.unusedSimpArgs false
open Go.RowKit

set_option maxRecDepth 100000 in
set_option maxHeartbeats 400000 in
theorem looks_nil (b o : Nat) (w : World) (h0 : w.cell? ⟨b, o, none⟩ = some (.slice none 0 0)) (h1 : w.cell? ⟨b, o + 1, none⟩ = some (.slice none 0 0)) (h2 : w.cell? ⟨b, o + 2, none⟩ = some (.slice none 0 0)) :
    Calls Tryz.prog 13 #[.pointer (some ⟨b, o, none⟩)] w fun e w' => e = .returned (.bool true) ∧ w' = w := by
  go_enter Tryz.func13, Tryz.ntmps13
  go_wp2
  go_rounds 1
  go_rounds 1
  go_rounds 1
  go_ret
  exact ⟨rfl, rfl⟩

set_option maxRecDepth 100000 in
set_option maxHeartbeats 800000 in
theorem free_digest (cs : List Value) (oa : Int) (s : ByteArray) (p : Value) (w : World) (k0 : cs[0]? = some (.int .i64 1)) (k1 : cs[1]? = some (.int .i64 oa)) (k4 : cs[4]? = some (.string s)) (hs : s.size ≤ 140737488351232) :
    Calls Tryz.prog 19 #[p, .agg cs.toArray] w fun e w' => e = .returned (.bool true) ∧ Below w.heap.size w w' := by
  go_enter Tryz.func19, Tryz.ntmps19
  go_wp2_with fail
  refine (lent_ok s _ _ hs).mono ?_
  rintro e w1 ⟨a, cap, rfl, hl1, hb1, hz1⟩
  simp only [World.size_alloc] at hb1 hz1 hl1
  go_wp2_with fail
  refine (digest_any a _ cap s.data.toList w1 (by simp) (by simp; unfold maxLen; omega) hl1.sl).mono ?_
  rintro e w2 ⟨rfl, hb2⟩
  obtain ⟨x0, x1, x2, x3, x4, x5, x6, x7, hx⟩ := digV_form s.data.toList
  have HX : Hid (digV s.data.toList = _) := hx
  rw [hx]
  clear hx
  have c4 : w2.cell? ⟨w.heap.size, 4, none⟩ = some (.string s) := by
    rw [hb2.cell (p := ⟨w.heap.size, 4, none⟩) (by have := hb1.size; simp at this; show w.heap.size < _; omega), hb1.cell (p := ⟨w.heap.size, 4, none⟩) (by show w.heap.size < _; omega)]
    simp [go_sem, k4]
  have z2 := hb2.size
  have z1 := hb1.size
  simp only [World.size_alloc] at z1
  have c4a : ∀ X : Obj, (w2.alloc X).cell? ⟨w.heap.size, 4, none⟩ = some (.string s) := fun X => by
    rw [← c4]; exact Below.cell (B := w2.heap.size) ((Below.refl _ _).alloc (Nat.le_refl _) _) (p := ⟨w.heap.size, 4, none⟩) (by show w.heap.size < _; omega)
  go_wp2_with fail
  refine (back_ok s a cap (w.heap.size + 1) _ hs ?_).mono ?_
  · exact (hl1.below hb2 (Nat.le_refl _)).below ((Below.refl _ _).alloc (Nat.le_refl _) _) (Nat.le_refl _)
  rintro e w3 ⟨rfl, hf3, hz3⟩
  simp only [World.size_alloc] at hz3
  have hlt := fun k (hk : a = some ⟨k, 0, none⟩) => hl1.lt hk
  have d4 : w3.cell? ⟨w.heap.size, 4, none⟩ = some (.string s) := by
    rw [← c4a]
    exact World.cell?_of_block (hf3.block _ (by show w.heap.size < _; simp; omega) (fun e => by have := hlt _ e; simp only at this; omega))
  have hd : RowV w3 w2.heap.size 36 [.int .u8 x0, .int .u8 x1, .int .u8 x2, .int .u8 x3, .int .u8 x4, .int .u8 x5, .int .u8 x6, .int .u8 x7] :=
    (RowV.new w2 36 _).of_block (hf3.block _ (by simp) (fun e => by have := hlt _ e; omega))
  have e0 := hd.cell 0 (by simp)
  have e1 := hd.cell 1 (by simp)
  have e2 := hd.cell 2 (by simp)
  have e3 := hd.cell 3 (by simp)
  have e4 := hd.cell 4 (by simp)
  have e5 := hd.cell 5 (by simp)
  have e6 := hd.cell 6 (by simp)
  have e7 := hd.cell 7 (by simp)
  simp only [List.getElem_cons_zero, List.getElem_cons_succ] at e0 e1 e2 e3 e4 e5 e6 e7
  have hcv := fun w => run_bytes_of_string (P := Tryz.prog) w 9 38 5 s Tryz.underlying9 Tryz.underlying38 Tryz.underlying5
  have hB3 : Hid (Below w.heap.size w w3) := by
    have h1 : Below w.heap.size w w2 := (((Below.refl _ _).alloc (Nat.le_refl _) _).trans (hb1.mono (by omega))).trans (hb2.mono (by omega))
    exact (h1.alloc (by omega) _).trans (hf3.below (by simp; omega) (fun k hk => by have := hlt _ hk; omega))
  clear c4 c4a hf3 hb2 hb1 hl1 hd hlt
  have heq : ∀ w, (Op.equalIn 10000 36 (Value.agg #[.int .u8 x0, .int .u8 x1, .int .u8 x2, .int .u8 x3, .int .u8 x4, .int .u8 x5, .int .u8 x6, .int .u8 x7]) (Value.agg #[.int .u8 x0, .int .u8 x1, .int .u8 x2, .int .u8 x3, .int .u8 x4, .int .u8 x5, .int .u8 x6, .int .u8 x7])).run Tryz.prog w = .ok true w := fun w => by
    have h := run_equalIn_bytes (P := Tryz.prog) w 9998 36 5 8 Tryz.underlying36 Tryz.underlying5 Tryz.sizeU8 (digB s.data.toList) (digB s.data.toList) rfl rfl
    rw [beq_self_eq_true] at h
    rw [← HX.out]
    exact h
  have g1 : w2.heap.size < w3.heap.size := by omega
  have g2 : w.heap.size < w3.heap.size := by omega
  clear hz3 hz1 z1 z2
  go_wp2
  go_region_with (first | (go_at_call 10; refine (refDigest_any _ _ _ s.data.toList _ (by simp) (by simp; unfold maxLen; omega) (by exact SlB.mk (by simp) (bytes_of_string _ _ _ _ _))).mono ?_; rintro e w4 ⟨rfl, hb4⟩; obtain ⟨hc4, _⟩ := bcell hb4; rw [HX.out]))
  all_goals
    go_wp2
    go_ret
    refine ⟨rfl, Below.trans ?_ (hb4.mono (by simp only [World.size_alloc, World.size_drew]; omega))⟩
    repeat' (first | (with_reducible exact hB3.out) | (with_reducible refine Below.drew ?_) | (with_reducible refine Below.alloc ?_ ?_ _) | omega | (simp only [World.size_alloc, World.size_drew]; omega))
end Go.Proofs.YtekegfbjbainhaaGreat
