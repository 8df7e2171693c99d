import Derived.Test.YtekegfbjbainhaaGreatKJoin4
import Derived.Lib.BitFns
set_option linter.unusedVariables false
set_option linter.unusedSimpArgs false

namespace Go.Proofs.YtekegfbjbainhaaGreat
open Go.RowKit
attribute [local go_sem ↓] Go.wp_at_zero Go.wp_at_succ
theorem ofB_any (a : Option Addr) (n cap : Nat) (l : List UInt8) (w : World) (hn : n = l.length) (hl : l.length ≤ maxLen) (hc : SlB w a l) :
  Calls Tryz.prog 67 #[.slice a n cap] w fun e w' => e = .returned (digV l) ∧ Below w.heap.size w w' := by
 subst hn
 refine (of_any a cap l w hl hc).mono ?_
 rintro e w' ⟨rfl, c1, c2, c3, rfl⟩
 exact ⟨rfl, (((Below.refl _ _).alloc (Nat.le_refl _) _).alloc (by simp) _).alloc (by simp; omega) _⟩
def lenT : List UInt8 := (([0, 1, 2, 2, 3, 3, 3, 3, 4, 4, 4, 4, 4, 4, 4, 4, 5, 5, 5, 5, 5, 5, 5, 5, 5, 5, 5, 5, 5, 5, 5, 5, 6, 6, 6, 6, 6, 6, 6, 6, 6, 6, 6, 6, 6, 6, 6, 6, 6, 6, 6, 6, 6, 6, 6, 6, 6, 6, 6, 6, 6, 6, 6, 6].append [7, 7, 7, 7, 7, 7, 7, 7, 7, 7, 7, 7, 7, 7, 7, 7, 7, 7, 7, 7, 7, 7, 7, 7, 7, 7, 7, 7, 7, 7, 7, 7, 7, 7, 7, 7, 7, 7, 7, 7, 7, 7, 7, 7, 7, 7, 7, 7, 7, 7, 7, 7, 7, 7, 7, 7, 7, 7, 7, 7, 7, 7, 7, 7]).append ([8, 8, 8, 8, 8, 8, 8, 8, 8, 8, 8, 8, 8, 8, 8, 8, 8, 8, 8, 8, 8, 8, 8, 8, 8, 8, 8, 8, 8, 8, 8, 8, 8, 8, 8, 8, 8, 8, 8, 8, 8, 8, 8, 8, 8, 8, 8, 8, 8, 8, 8, 8, 8, 8, 8, 8, 8, 8, 8, 8, 8, 8, 8, 8].append [8, 8, 8, 8, 8, 8, 8, 8, 8, 8, 8, 8, 8, 8, 8, 8, 8, 8, 8, 8, 8, 8, 8, 8, 8, 8, 8, 8, 8, 8, 8, 8, 8, 8, 8, 8, 8, 8, 8, 8, 8, 8, 8, 8, 8, 8, 8, 8, 8, 8, 8, 8, 8, 8, 8, 8, 8, 8, 8, 8, 8, 8, 8, 8]))
theorem lenT_eq : ∀ n : Fin 256, lenT[n.val]?.map (·.toNat) = some (Lib.bitLen n.val) := by decide +kernel
theorem wp_indexT {P : Program} {ops : Array Oper} {rest : List Oper} {o : Oper} {a : Act} {w : World} {Q : Exit → Act → World → Prop} (hgd : o.guard = none) (t : TypeId) (y : Operand) (l : List UInt8) (ho : o.op = .index t (.const (.string ⟨l.toArray⟩)) y)
  (x b : Nat) (hy : a.eval y = .int .u8 (x : Int)) (ht : P.underlying t = some .string) (hx : l[x]?.map (·.toNat) = some b) (h : wpList P ops Q rest (a.put o.dst (.int .u8 (b : Int))) w) : wpList P ops Q (o :: rest) a w := by
 refine wpList_plain hgd fun K hK => ?_
 cases hl : l[x]? with
 | none => simp [hl] at hx
 | some v =>
  rw [hl] at hx
  have hv : v.toNat = b := by simpa using hx
  have hb : (ByteArray.mk l.toArray)[x]? = some v := by
   obtain ⟨h1, h2⟩ := List.getElem?_eq_some_iff.1 hl
   have h3 : x < (ByteArray.mk l.toArray).size := by simpa [ByteArray.size] using h1
   have h4 : (ByteArray.mk l.toArray)[x]? = some ((ByteArray.mk l.toArray)[x]'h3) := getElem?_pos (ByteArray.mk l.toArray) x h3
   rw [h4]
   congr 1
  have hr : (Instr.index t (.string ⟨l.toArray⟩) (.int .u8 (x : Int))).run P w = .ok (.int .u8 (b : Int)) w := by
   have h0 : (0 : Int) ≤ x := by omega
   simp [Instr.index, asIntOf, run_underlying ht, hb, hv, Result.andThen]
  unfold Oper.wp execOp
  simp only [ho]
  have he : a.eval (.const (.string ⟨l.toArray⟩)) = .string ⟨l.toArray⟩ := rfl
  simp only [he, hy, Sem.run_bind, hr, Result.andThen_ok, Sem.run_pure]
  exact hK _ _ h
set_option maxRecDepth 100000 in
set_option maxHeartbeats 400000 in
theorem len64_any (x : Nat) (w : World) (hx : x < 256) :
  Calls Tryz.prog 158 #[.int .u64 (x : Int)] w fun e w' => e = .returned (.int .i64 (Lib.bitLen x : Int)) ∧ w' = w := by
 have h1 : ¬ (4294967296 : Int) ≤ x := by omega
 have h2 : ¬ (65536 : Int) ≤ x := by omega
 have h3 : ¬ (256 : Int) ≤ x := by omega
 have h4 : (x : Int) < 256 := by omega
 have h5 : (x : Int) % 256 = x := by omega
 have HT : Hid (lenT[x]?.map (·.toNat) = some (Lib.bitLen x)) := lenT_eq ⟨x, hx⟩
 have hle : Lib.bitLen x ≤ 8 := Lib.bitLen_le8 ⟨x, hx⟩
 generalize Lib.bitLen x = b at *
 have hbI : (b : Int) ≤ 8 := by omega
 go_enter Tryz.func158, Tryz.ntmps158
 go_wp2_with (refine wp_indexT (by rfl) 9 (.tmp 21) lenT (by rfl) x b (by rfl) Tryz.underlying9 HT.out ?_)
 go_ret
 exact ⟨rfl, rfl⟩
set_option maxRecDepth 100000 in
theorem len_any (x : Nat) (w : World) (hx : x < 256) :
  Calls Tryz.prog 147 #[.int .u64 (x : Int)] w fun e w' => e = .returned (.int .i64 (Lib.bitLen x : Int)) ∧ w' = w := by
 have HC : Hid (Calls _ _ _ _ _) := len64_any x w hx
 generalize Lib.bitLen x = b at *
 have h4 : (x : Int) < 256 := by omega
 clear hx
 go_enter Tryz.func147, Tryz.ntmps147
 go_wp2_with (go_at_call 158; refine HC.out.mono ?_; rintro e w1 ⟨rfl, hw1⟩; obtain rfl : w = w1 := hw1.symm)
 go_ret
 exact ⟨rfl, rfl⟩
theorem half_tab : ∀ n : Fin 201, 2 ≤ n.val → 1 ≤ Lib.bitLen (n.val - 1) ∧ Lib.bitLen (n.val - 1) ≤ 8 ∧ 2 ^ (Lib.bitLen (n.val - 1) - 1) = halfN n.val := by decide +kernel
set_option maxRecDepth 100000 in
set_option maxHeartbeats 400000 in
theorem first_any (n : Nat) (w : World) (hn2 : 2 ≤ n) (hn : n ≤ 200) :
  Calls Tryz.prog 128 #[.int .i64 (n : Int)] w fun e w' => e = .returned (.int .i64 (halfN n : Int)) ∧ w' = w := by
 obtain ⟨x, rfl⟩ : ∃ x, n = x + 1 := ⟨n - 1, by omega⟩
 have hT := half_tab ⟨x + 1, by omega⟩ hn2
 simp only [Nat.add_sub_cancel] at hT
 have HC : Hid (Calls _ _ _ _ _) := len_any x w (by omega)
 have hxI : ((x + 1 : Nat) : Int) - 1 = (x : Int) := by omega
 have hx2 : (x : Int) ≤ 200 := by omega
 have HX : Hid (((x + 1 : Nat) : Int) = (x : Int) + 1) := by unfold Hid; omega
 generalize halfN (x + 1) = h at *
 generalize Lib.bitLen x = b at *
 obtain ⟨hb1, hb2, hb3⟩ := hT
 obtain ⟨c, rfl⟩ : ∃ c, b = c + 1 := ⟨b - 1, by omega⟩
 simp only [Nat.add_sub_cancel] at hb3
 have hcI : ((c + 1 : Nat) : Int) - 1 = (c : Int) := by omega
 have hc7 : (c : Int) ≤ 7 := by omega
 have hc8 : c ≤ 7 := by omega
 have HW : Hid (wrap64 ((2 : Int) ^ c) = (h : Int)) := by
  unfold Hid
  rw [← hb3]
  have hq : ∀ q : Fin 8, wrap64 ((2 : Int) ^ q.val) = ((2 ^ q.val : Nat) : Int) := by decide +kernel
  exact hq ⟨c, by omega⟩
 clear hb1 hb2 hn2 hn hb3
 go_enter Tryz.func128, Tryz.ntmps128
 go_wp2_with (go_at_call 147; refine HC.out.mono ?_; rintro e w1 ⟨rfl, hw1⟩; obtain rfl : w = w1 := hw1.symm)
 go_ret
 exact ⟨by rw [← HW.out]; rfl, rfl⟩
set_option maxRecDepth 100000 in
set_option maxHeartbeats 400000 in
theorem sumOne_any (d : List UInt8) (w : World) (hd : d.length = 8) :
  Calls Tryz.prog 142 #[dV d] w fun e w' => e = .returned (dV (digB (0 :: d))) ∧ Below w.heap.size w w' := by
 have hb1 : OwnB (oneB (resD (boxD w d)) 0) w.heap.size (.slice (some ⟨w.heap.size + 1 + 1, 0, none⟩) 1 1) [0] := by
  have := OwnB.built (resD (boxD w d)) w.heap.size [0] (by simp; omega) (by simp [maxLen])
  simp only [World.size_alloc] at this
  exact this
 have hs1 : SlB (oneB (resD (boxD w d)) 0) (some ⟨w.heap.size, 0, none⟩) d := SlB.of_row (((RowV.new w 36 _).alloc _).alloc _)
 have hr1 : RowV (oneB (resD (boxD w d)) 0) (w.heap.size + 1) 36 z8 := by
  have := (resD_row (boxD w d)).alloc (.cells #[.int .u8 0] 5)
  simp only [World.size_alloc] at this
  exact this
 obtain ⟨dd, hdd⟩ : ∃ dd, dd = digB (0 :: d) := ⟨_, rfl⟩
 have hdl : dd.length = 8 := by rw [hdd]; rfl
 have hv : dV d = .agg (d.map u8c).toArray := rfl
 rw [← hdd, hv]
 have HDD : Hid (dd = digB (0 :: d)) := hdd
 clear hdd hv
 go_enter Tryz.func142, Tryz.ntmps142
 go_wp2_with (at_builtin; refine wp_appendB (by rfl) (.tmp 3) (.tmp 4) (by rfl) w.heap.size _ [0] (by rfl) hb1 (some ⟨w.heap.size, 0, none⟩) 8 8 d (by rfl) hd.symm hs1 (fun h => by cases h) (by simp [hd]) (by simp; omega) ?_; intro a' n' cap' w4 hn' ho' hs' hf' hat')
 refine (ofB_any a' _ cap' (0 :: d) w4 (by simp [hd]) (by simp [hd, maxLen]) hs').mono ?_
 rintro e w5 ⟨rfl, hb5⟩
 rw [digV_eq, ← HDD.out]
 have hR : RowV w5 (w.heap.size + 1) 36 z8 := by
  have h2 := hr1.of_block (hf'.block (w.heap.size + 1) (by simp) (by simp [Value.ownBlock]))
  exact h2.below h2.lt hb5
 have HB : Hid (Below w.heap.size w w5) := by
  have h3 := hf'.below (B := w.heap.size) (by simp; omega) (fun k hk => by simp [Value.ownBlock] at hk; omega)
  exact (((((Below.refl _ _).alloc (Nat.le_refl _) _).alloc (by simp) _).alloc (by simp; omega) _).trans h3).trans (hb5.mono (by have := h3.size; simp at this; omega))
 clear hf' hat' hs' ho' hb5 hs1 hb1 hr1
 go_wp2_with (refine wp_storeD (by rfl) (.tmp 2) (.tmp 6) (by rfl) (w.heap.size + 1) (by rfl) dd hdl (by rfl) hR (by rfl) ?_; intro w6 hR6 hf6 hz6)
 exact ret_dig (k := 2) rfl rfl hR6 hdl rfl ⟨rfl, HB.out.trans (hf6.below (by have := hR.lt; omega) (fun k hk => by omega))⟩
set_option maxRecDepth 100000 in
set_option maxHeartbeats 400000 in
theorem sumTwo_any (x y : List UInt8) (w : World) (hx : x.length = 8) (hy : y.length = 8) :
  Calls Tryz.prog 143 #[dV x, dV y] w fun e w' => e = .returned (dV (digB (1 :: (x ++ y)))) ∧ Below w.heap.size w w' := by
 have hb1 : OwnB (oneB (resD (boxD (boxD w x) y)) 1) w.heap.size (.slice (some ⟨w.heap.size + 1 + 1 + 1, 0, none⟩) 1 1) [1] := by
  have := OwnB.built (resD (boxD (boxD w x) y)) w.heap.size [1] (by simp; omega) (by simp [maxLen])
  simp only [World.size_alloc] at this
  exact this
 have hs1 : SlB (oneB (resD (boxD (boxD w x) y)) 1) (some ⟨w.heap.size, 0, none⟩) x := SlB.of_row ((((RowV.new w 36 _).alloc _).alloc _).alloc _)
 have hs2 : SlB (oneB (resD (boxD (boxD w x) y)) 1) (some ⟨w.heap.size + 1, 0, none⟩) y := by
  have := SlB.of_row (((RowV.new (boxD w x) 36 (y.map u8c)).alloc (.cells z8.toArray 36)).alloc (.cells #[.int .u8 1] 5))
  simp only [World.size_alloc] at this
  exact this
 have hr1 : RowV (oneB (resD (boxD (boxD w x) y)) 1) (w.heap.size + 1 + 1) 36 z8 := by
  have := (resD_row (boxD (boxD w x) y)).alloc (.cells #[.int .u8 1] 5)
  simp only [World.size_alloc] at this
  exact this
 obtain ⟨dd, hdd⟩ : ∃ dd, dd = digB (1 :: (x ++ y)) := ⟨_, rfl⟩
 have hdl : dd.length = 8 := by rw [hdd]; rfl
 have hvx : dV x = .agg (x.map u8c).toArray := rfl
 have hvy : dV y = .agg (y.map u8c).toArray := rfl
 rw [← hdd, hvx, hvy]
 have HDD : Hid (dd = digB (1 :: (x ++ y))) := hdd
 clear hdd hvx hvy
 go_enter Tryz.func143, Tryz.ntmps143
 go_wp2_with (first
  | (at_builtin; refine wp_appendB (by rfl) (.tmp 6) (.tmp 7) (by rfl) w.heap.size _ [1] (by rfl) hb1 (some ⟨w.heap.size, 0, none⟩) 8 8 x (by rfl) hx.symm hs1 (fun h => by cases h) (by simp [hx]) (by simp; omega) ?_; intro a' n' cap' w4 hn' ho' hs' hf' hat'; obtain rfl : n' = 9 := (by rw [hn', hx]; rfl); have hs2' := SlB.frame hs2 hf' (fun z hz => by cases hz; simp [Value.ownBlock]; omega); clear hn')
  | (at_builtin; refine wp_appendB (by rfl) (.tmp 9) (.tmp 10) (by rfl) w.heap.size _ ([1] ++ x) (by rfl) ho' (some ⟨w.heap.size + 1, 0, none⟩) 8 8 y (by rfl) hy.symm hs2' (fun h => by cases h) (by simp [hx, hy]) (by have := hf'.size; simp at this; omega) ?_; intro a'' n'' cap'' w5 hn'' ho'' hs'' hf'' hat''; obtain rfl : n'' = 17 := (by rw [hn'', hy]; simp [hx]); clear hn''))
 refine (ofB_any a'' _ cap'' (1 :: (x ++ y)) w5 (by simp [hx, hy]) (by simp [hx, hy, maxLen]) (by simpa using hs'')).mono ?_
 rintro e w6 ⟨rfl, hb6⟩
 rw [digV_eq, ← HDD.out]
 have hg : ∀ k, (Value.slice a' 9 cap').ownBlock = some k → w.heap.size + 1 + 1 + 1 ≤ k := fun k hk => by
  rcases hat' with h | h
  ·rw [h] at hk; simp [Value.ownBlock] at hk; omega
  ·rw [h] at hk; simp at hk; omega
 have hR : RowV w6 (w.heap.size + 1 + 1) 36 z8 := by
  have h2 := hr1.of_block (hf'.block (w.heap.size + 1 + 1) (by simp) (by simp [Value.ownBlock]))
  have h3 := h2.of_block (hf''.block (w.heap.size + 1 + 1) h2.lt (fun e => by have := hg _ e; omega))
  exact h3.below h3.lt hb6
 have HB : Hid (Below w.heap.size w w6) := by
  have h3 := hf'.below (B := w.heap.size) (by simp; omega) (fun k hk => by simp [Value.ownBlock] at hk; omega)
  have z3 := h3.size
  simp only [World.size_alloc] at z3
  have h4 := hf''.below (B := w.heap.size) (by omega) (fun k hk => by have := hg _ hk; omega)
  have z4 := h4.size
  exact (((((((Below.refl _ _).alloc (Nat.le_refl _) _).alloc (by simp) _).alloc (by simp; omega) _).alloc (by simp; omega) _).trans h3).trans h4).trans (hb6.mono (by omega))
 clear hf' hat' hs' ho' hb6 hs1 hb1 hr1 hs2 hs2' hf'' hat'' hs'' ho'' hg
 go_wp2_with (refine wp_storeD (by rfl) (.tmp 4) (.tmp 12) (by rfl) (w.heap.size + 1 + 1) (by rfl) dd hdl (by rfl) hR (by rfl) ?_; intro w7 hR7 hf7 hz7)
 exact ret_dig (k := 4) rfl rfl hR7 hdl rfl ⟨rfl, HB.out.trans (hf7.below (by have := hR.lt; omega) (fun k hk => by omega))⟩
set_option maxRecDepth 100000 in
set_option maxHeartbeats 1600000 in
theorem sumP_any : ∀ (f : Nat) (l : List (List UInt8)) (a : Option Addr) (cap : Nat) (w : World), l.length < f → l.length ≤ 200 → l.length ≤ cap → cap ≤ 9223372036854775807 → SlD w a l →
  Calls Tryz.prog 119 #[.slice a l.length cap] w fun e w' => e = .returned (dV (sumF f l)) ∧ Below w.heap.size w w'
 | 0, l, a, cap, w, hf, _, _, _, _ => absurd hf (Nat.not_lt_zero _)
 | f + 1, [], a, cap, w, hf, h200, hc, hcap, hs => by
  have hK := KeepD.start w
  obtain ⟨dd, hdd⟩ : ∃ dd, dd = sumF (f + 1) [] := ⟨_, rfl⟩
  have hdl : dd.length = 8 := by rw [hdd]; rfl
  rw [← hdd]
  have HDD : Hid (dd = digB []) := hdd
  clear hdd
  go_enter Tryz.func119, Tryz.ntmps119
  go_wp2_with fail
  refine (ofB_any none 0 0 [] _ rfl (by simp) (SlB.nil _ _)).mono ?_
  rintro e w5 ⟨rfl, hb5⟩
  rw [digV_eq, ← HDD.out]
  have hK5 := hK.next hb5
  go_wp2_with (refine wp_storeD (by rfl) (.tmp 2) (.tmp 8) (by rfl) w.heap.size (by rfl) dd hdl (by rfl) hK5.2 (by rfl) ?_; intro w6 hR6 hf6 hz6)
  exact ret_dig (k := 2) rfl rfl hR6 hdl rfl ⟨rfl, hK5.1.trans (hf6.below (by have := hK5.2.lt; omega) (fun k hk => by omega))⟩
 | f + 1, [d], a, cap, w, hf, h200, hc, hcap, hs => by
  have hK := KeepD.start w
  have hd : d.length = 8 := hs.2 d (by simp)
  obtain ⟨b, o, rfl, hb, _⟩ := hs.1 0 (by simp [digsC, hd])
  have hr : (resD w).rangeAt b o (d.map u8c) := fun j v hv => by
   obtain ⟨hj, hv⟩ := List.getElem?_eq_some_iff.1 hv
   obtain ⟨b', o', ha, hb', hc'⟩ := hs.1 j (by simpa [digsC] using hj)
   cases ha
   rw [World.cell?_alloc_lt _ _ _ (by exact hb'), hc']
   simp only [digsC, List.flatMap_cons, List.flatMap_nil, List.append_nil]
   rw [hv]
  have hcap1 : (1 : Int) ≤ cap := by simp at hc; omega
  obtain ⟨dd, hdd⟩ : ∃ dd, dd = sumF (f + 1) [d] := ⟨_, rfl⟩
  have hdl : dd.length = 8 := by rw [hdd]; rfl
  rw [← hdd]
  have HDD : Hid (dd = digB (0 :: d)) := hdd
  clear hdd
  go_enter Tryz.func119, Tryz.ntmps119
  go_wp2_with (refine wpList_load_mid (by rfl) 36 (.tmp 12) (by rfl) b o (by rfl) (d.map u8c) _ hr Tryz.underlying36 (by rfl) (by simpa [hd] using Tryz.infoDig) ?_)
  refine (sumOne_any d _ hd).mono ?_
  rintro e w5 ⟨rfl, hb5⟩
  rw [← HDD.out]
  have hK5 := hK.next hb5
  go_wp2_with (refine wp_storeD (by rfl) (.tmp 2) (.tmp 14) (by rfl) w.heap.size (by rfl) dd hdl (by rfl) hK5.2 (by rfl) ?_; intro w6 hR6 hf6 hz6)
  exact ret_dig (k := 2) rfl rfl hR6 hdl rfl ⟨rfl, hK5.1.trans (hf6.below (by have := hK5.2.lt; omega) (fun k hk => by omega))⟩
 | f + 1, x :: y :: r, a, cap, w, hf, h200, hc, hcap, hs => by
  have hK := KeepD.start w
  have hn2 : 2 ≤ (x :: y :: r).length := by simp
  have hhb := halfN_bd _ hn2
  obtain ⟨dd, hdd⟩ : ∃ dd, dd = sumF (f + 1) (x :: y :: r) := ⟨_, rfl⟩
  have hdl : dd.length = 8 := by rw [hdd]; rfl
  rw [← hdd]
  have HDD : Hid (dd = digB (1 :: (sumF f ((x :: y :: r).take (halfN (x :: y :: r).length)) ++ sumF f ((x :: y :: r).drop (halfN (x :: y :: r).length))))) := hdd
  clear hdd
  generalize (x :: y :: r) = l at *
  obtain ⟨b, o, rfl, hb, hcx⟩ := hs.1 0 (by rw [digsC_length _ hs.2]; omega)
  clear hcx
  have hhalf := first_any l.length
  have HH : Hid (∀ w : World, 2 ≤ l.length → l.length ≤ 200 → _) := hhalf
  clear hhalf
  generalize halfN l.length = k at *
  obtain ⟨hk1, hk2⟩ := hhb
  have e1 : (l.take k).length = k := by rw [List.length_take]; omega
  have e2 : (l.drop k).length = l.length - k := by rw [List.length_drop]
  have H1 : Hid (∀ W, KeepD w w.heap.size W → Calls Tryz.prog 119 #[.slice (some ⟨b, o, none⟩) k cap] W fun e w' => e = .returned (dV (sumF f (l.take k))) ∧ KeepD w w.heap.size w') := fun W hW => by
   have h := sumP_any f (l.take k) (some ⟨b, o, none⟩) cap W (by omega) (by omega) (by omega) hcap ((hs.below hW.1).take k (by omega))
   rw [e1] at h
   exact h.mono fun e w' ⟨he, hb'⟩ => ⟨he, hW.next hb'⟩
  have H2 : Hid (∀ W, KeepD w w.heap.size W → Calls Tryz.prog 119 #[.slice (some ⟨b, o + k * 8, none⟩) (l.length - k) (cap - k)] W fun e w' => e = .returned (dV (sumF f (l.drop k))) ∧ KeepD w w.heap.size w') := fun W hW => by
   have h := sumP_any f (l.drop k) (some ⟨b, o + k * 8, none⟩) (cap - k) W (by omega) (by omega) (by omega) (by omega) ((hs.below hW.1).drop k (by omega))
   rw [e2] at h
   exact h.mono fun e w' ⟨he, hb'⟩ => ⟨he, hW.next hb'⟩
  obtain ⟨f', rfl⟩ : ∃ f', f = f' + 1 := ⟨f - 1, by omega⟩
  have g1 : (sumF (f' + 1) (l.take k)).length = 8 := sumF_length _ _
  have g2 : (sumF (f' + 1) (l.drop k)).length = 8 := sumF_length _ _
  generalize sumF (f' + 1) (l.take k) = s1 at *
  generalize sumF (f' + 1) (l.drop k) = s2 at *
  obtain ⟨x0, x1, x2, x3, x4, x5, x6, x7, rfl⟩ := list8 dd hdl
  have hcapI : (l.length : Int) ≤ cap := by omega
  have hcapJ : (cap : Int) ≤ 9223372036854775807 := by omega
  have hkI1 : (1 : Int) ≤ k := by omega
  have hkI2 : (k : Int) < l.length := by omega
  have hln : ¬ (l.length : Int) = 0 := by omega
  have hne0 : ((l.length : Int) == 0) = false := by simpa using hln
  have hne1 : ((l.length : Int) == 1) = false := by simp; omega
  have hkc : ¬ cap = k := by omega
  clear hs e1 e2 hdl
  go_enter Tryz.func119, Tryz.ntmps119
  go_wp2_with fail
  refine (HH.out _ (by omega) (by omega)).mono ?_
  rintro e w1 ⟨rfl, rfl⟩
  have HV : Hid (dV [x0, x1, x2, x3, x4, x5, x6, x7] = .agg #[Value.int .u8 (x0.toNat : Int), Value.int .u8 (x1.toNat : Int), Value.int .u8 (x2.toNat : Int), Value.int .u8 (x3.toNat : Int), Value.int .u8 (x4.toNat : Int), Value.int .u8 (x5.toNat : Int), Value.int .u8 (x6.toNat : Int), Value.int .u8 (x7.toNat : Int)]) := rfl
  go_wp2
  go_region_with (first
   | (go_at_call_of 119 (Value.slice (some ⟨b, o, none⟩) k cap); refine (H1.out _ (by exact hK.drew)).mono ?_; rintro e w2 ⟨rfl, hK2⟩)
   | (go_at_call_of 119 (Value.slice (some ⟨b, o + k * 8, none⟩) (l.length - k) (cap - k)); refine (H2.out _ (by assumption)).mono ?_; rintro e w3 ⟨rfl, hK3⟩)
   | (go_at_call 143; refine (sumTwo_any s1 s2 _ g1 g2).mono ?_; rintro e w4 ⟨rfl, hb4⟩; rw [← HDD.out, HV.out]; have hK4 := KeepD.next hK3 hb4; have c0 : w4.cell? ⟨w.heap.size, 0, none⟩ = some (.int .u8 0) := hK4.2.cell 0 (by decide); have f0 : w4.frozen? ⟨w.heap.size, 0, none⟩ = false := hK4.2.frozen 0; have c1 : w4.cell? ⟨w.heap.size, 1, none⟩ = some (.int .u8 0) := hK4.2.cell 1 (by decide); have f1 : w4.frozen? ⟨w.heap.size, 1, none⟩ = false := hK4.2.frozen 1; have c2 : w4.cell? ⟨w.heap.size, 2, none⟩ = some (.int .u8 0) := hK4.2.cell 2 (by decide); have f2 : w4.frozen? ⟨w.heap.size, 2, none⟩ = false := hK4.2.frozen 2; have c3 : w4.cell? ⟨w.heap.size, 3, none⟩ = some (.int .u8 0) := hK4.2.cell 3 (by decide); have f3 : w4.frozen? ⟨w.heap.size, 3, none⟩ = false := hK4.2.frozen 3; have c4 : w4.cell? ⟨w.heap.size, 4, none⟩ = some (.int .u8 0) := hK4.2.cell 4 (by decide); have f4 : w4.frozen? ⟨w.heap.size, 4, none⟩ = false := hK4.2.frozen 4; have c5 : w4.cell? ⟨w.heap.size, 5, none⟩ = some (.int .u8 0) := hK4.2.cell 5 (by decide); have f5 : w4.frozen? ⟨w.heap.size, 5, none⟩ = false := hK4.2.frozen 5; have c6 : w4.cell? ⟨w.heap.size, 6, none⟩ = some (.int .u8 0) := hK4.2.cell 6 (by decide); have f6 : w4.frozen? ⟨w.heap.size, 6, none⟩ = false := hK4.2.frozen 6; have c7 : w4.cell? ⟨w.heap.size, 7, none⟩ = some (.int .u8 0) := hK4.2.cell 7 (by decide); have f7 : w4.frozen? ⟨w.heap.size, 7, none⟩ = false := hK4.2.frozen 7))
  all_goals
   go_wp2
   exact ret_dig (k := 2) (d := [x0, x1, x2, x3, x4, x5, x6, x7]) rfl rfl (by exact ((((((((hK4.2.set 0 _).set 1 _).set 2 _).set 3 _).set 4 _).set 5 _).set 6 _).set 7 _)) rfl rfl ⟨rfl, ((((((((hK4.1.setCell (by exact Nat.le_refl _) _).setCell (by exact Nat.le_refl _) _).setCell (by exact Nat.le_refl _) _).setCell (by exact Nat.le_refl _) _).setCell (by exact Nat.le_refl _) _).setCell (by exact Nat.le_refl _) _).setCell (by exact Nat.le_refl _) _).setCell (by exact Nat.le_refl _) _)⟩
end Go.Proofs.YtekegfbjbainhaaGreat


namespace Go.Proofs.YtekegfbjbainhaaGreat
open Go.RowKit
structure EnP where
 k : SlR
 v : SlR
 d : List UInt8
def enC (x : EnP) : List Value := x.k.val :: x.v.val :: x.d.map u8c
def ensC (l : List EnP) : List Value := l.flatMap enC
def zero8 : List UInt8 := [0, 0, 0, 0, 0, 0, 0, 0]
theorem enC_length (x : EnP) (h : x.d.length = 8) : (enC x).length = 10 := by simp [enC, h]
theorem ensC_length (l : List EnP) (h : ∀ x ∈ l, x.d.length = 8) : (ensC l).length = l.length * 10 := flat_length enC 10 l (fun x hx => enC_length x (h x hx))
theorem ensC_append (l m : List EnP) : ensC (l ++ m) = ensC l ++ ensC m := by simp [ensC]
theorem ensC_one (l : List EnP) : ∀ u ∈ ensC l, u.oneCell' = true := fun u hu => by
 obtain ⟨x, _, hx⟩ := List.mem_flatMap.1 hu
 simp only [enC, List.mem_cons, List.mem_map, SlR.val] at hx
 rcases hx with rfl | rfl | ⟨y, _, rfl⟩ <;> rfl
def SlE (w : World) (a : Option Addr) (l : List EnP) : Prop := SlV w a (ensC l)
theorem SlE.range {w : World} {a : Option Addr} {l : List EnP} (h : SlE w a l) (h8 : ∀ x ∈ l, x.d.length = 8) (i : Nat) (hi : i < l.length) : ∃ b o, a = some ⟨b, o, none⟩ ∧ b < w.heap.size ∧ w.rangeAt b (o + i * 10) (enC l[i]) := by
 have hm := enC_length l[i] (h8 _ (List.getElem_mem hi))
 have g := fun j (hj : j < 10) => flat_get enC 10 l (fun x hx => enC_length x (h8 x hx)) i hi j hj
 obtain ⟨b, o, ha, hb, c0⟩ := SlV.at h (g 0 (by omega))
 refine ⟨b, o, ha, hb, fun j v hv => ?_⟩
 have hj : j < 10 := by have := (List.getElem?_eq_some_iff.1 hv).1; omega
 obtain ⟨b1, o1, ha1, _, c1⟩ := SlV.at h ((g j hj).trans hv)
 rw [ha] at ha1
 cases ha1
 rw [Nat.add_assoc]; exact c1
structure EnOk (w : World) (x : EnP) (it : ItR) : Prop where
 key : BS w x.k it.key
 val : BS w x.v it.more
 dig : x.d = zero8
theorem EnOk.frame {w w' : World} {S : Nat → Prop} {x : EnP} {it : ItR} (h : EnOk w x it) (hf : Frame S w w') (h1 : ∀ y, x.k.a = some y → ¬ S y.block) (h2 : ∀ y, x.v.a = some y → ¬ S y.block) : EnOk w' x it := ⟨h.key.frame hf h1, h.val.frame hf h2, h.dig⟩
theorem EnOk.below {w w' : World} {x : EnP} {it : ItR} (h : EnOk w x it) (hf : Below w.heap.size w w') : EnOk w' x it := ⟨h.key.below hf, h.val.below hf, h.dig⟩
def Rising (l : List ItR) : Prop := l.Pairwise (fun x y => Op.bytesLess x.key y.key = true)
theorem less_trans : ∀ {a b c : List UInt8}, Op.bytesLess a b = true → Op.bytesLess b c = true → Op.bytesLess a c = true
 | _, _, [], h, k => by cases ‹List UInt8› <;> simp [Op.bytesLess] at k
 | _, [], _ :: _, h, k => by cases ‹List UInt8› <;> simp [Op.bytesLess] at h
 | [], _ :: _, _ :: _, h, k => by simp [Op.bytesLess]
 | x :: a, y :: b, z :: c, h, k => by
  simp only [Op.bytesLess, Bool.or_eq_true, decide_eq_true_eq, Bool.and_eq_true, beq_iff_eq] at h k ⊢
  rcases h with h | ⟨rfl, h⟩
  ·rcases k with k | ⟨rfl, k⟩
   ·exact Or.inl (UInt8.lt_trans h k)
   ·exact Or.inl h
  ·rcases k with k | ⟨rfl, k⟩
   ·exact Or.inl k
   ·exact Or.inr ⟨rfl, less_trans h k⟩
theorem less_irrefl : ∀ (a : List UInt8), Op.bytesLess a a = false
 | [] => rfl
 | x :: a => by simp [Op.bytesLess, less_irrefl a, UInt8.lt_irrefl]
theorem less_total : ∀ (a b : List UInt8), Op.bytesLess a b = false → a ≠ b → Op.bytesLess b a = true
 | [], [], _, h => absurd rfl h
 | [], _ :: _, h, _ => by simp [Op.bytesLess] at h
 | _ :: _, [], _, _ => by simp [Op.bytesLess]
 | x :: a, y :: b, h, hne => by
  simp only [Op.bytesLess, Bool.or_eq_false_iff, decide_eq_false_iff_not, Bool.and_eq_false_iff, Bool.or_eq_true, decide_eq_true_eq, Bool.and_eq_true, beq_iff_eq] at h ⊢
  obtain ⟨h1, h2⟩ := h
  by_cases e : x = y
  ·subst e
   refine Or.inr ⟨rfl, less_total a b ?_ (fun e => hne (by rw [e]))⟩
   rcases h2 with h2 | h2
   ·simp at h2
   ·exact h2
  ·exact Or.inl (UInt8.lt_of_le_of_ne (UInt8.not_lt.1 h1) (Ne.symm e))
theorem rising_place : ∀ (l : List ItR) (key : List UInt8), Rising l → ∀ i (h : i < l.length), lessK key l[i] = decide (i < placeN l key)
 | [], _, _, i, h => absurd h (Nat.not_lt_zero _)
 | x :: l, key, hr, i, h => by
  obtain ⟨h1, h2⟩ := List.pairwise_cons.1 hr
  have ih := rising_place l key h2
  unfold placeN at ih ⊢
  rw [List.takeWhile_cons]
  by_cases hx : lessK key x = true
  ·rw [if_pos hx]
   cases i with
   | zero => simp [hx]
   | succ j => simpa using ih j (by simpa using h)
  ·rw [if_neg hx]
   cases i with
   | zero => simpa using hx
   | succ j =>
    have hj : j < l.length := by simpa using h
    have hlt := h1 l[j] (List.getElem_mem hj)
    simp only [List.getElem_cons_succ, List.length_nil, Nat.not_lt_zero, decide_false]
    cases hc : lessK key l[j] with
    | false => rfl
    | true => exact absurd (less_trans hlt hc) hx
set_option maxRecDepth 100000 in
theorem findKey_any (x : EnP) (it : ItR) (sk : SlR) (key : List UInt8) (w : World) (hx : EnOk w x it) (hk : BS w sk key) :
  Calls Tryz.prog 62 #[.agg #[x.k.val, x.v.val, .int .u8 0, .int .u8 0, .int .u8 0, .int .u8 0, .int .u8 0, .int .u8 0, .int .u8 0, .int .u8 0], sk.val] w fun e w' => e = .returned (.int .i64 (Lib.compareBytes it.key key)) ∧ Below w.heap.size w w' := by
 have hB : Below w.heap.size w (w.alloc (.cells #[x.k.val, x.v.val, .int .u8 0, .int .u8 0, .int .u8 0, .int .u8 0, .int .u8 0, .int .u8 0, .int .u8 0, .int .u8 0] 74)) := (Below.refl _ _).alloc (Nat.le_refl _) _
 have HC : Hid (Calls _ _ _ _ _) := compare_any x.k sk it.key key _ (hx.key.below hB) (hk.below hB)
 have HB : Hid (Below _ _ _) := hB
 clear hB
 unfold SlR.val at *
 go_enter Tryz.func62, Tryz.ntmps62
 go_wp2_with (go_at_call 63; refine HC.out.mono ?_; rintro e w1 ⟨rfl, rfl⟩)
 go_ret
 exact ⟨rfl, HB.out⟩
end Go.Proofs.YtekegfbjbainhaaGreat


namespace Go.Proofs.YtekegfbjbainhaaGreat
open Go.RowKit
set_option maxRecDepth 100000 in
set_option maxHeartbeats 1000000 in
theorem bsearch_any (a : Option Addr) (cap n : Nat) (xs : List EnP) (its : List ItR) (sk : SlR) (key : List UInt8) (w : World) (hn : n = xs.length) (hl : its.length = xs.length) (h60 : xs.length ≤ 60) (hs : SlE w a xs)
  (hok : ∀ i (h1 : i < xs.length) (h2 : i < its.length), EnOk w xs[i] its[i]) (hr : Rising its) (hk : BS w sk key) :
  Calls Tryz.prog 61 #[.slice a n cap, sk.val, .func (.func 62) #[] #[]] w fun e w' => e = .returned (.tuple #[.int .i64 (placeN its key : Int), .bool (thereB its key)]) ∧ Below w.heap.size w w' := by
 have h8 : ∀ x ∈ xs, x.d.length = 8 := fun x hx => by
  obtain ⟨i, hi, rfl⟩ := List.getElem_of_mem hx
  rw [(hok i hi (by omega)).dig]; rfl
 have HP := rising_place its key hr
 have hple := placeN_le its key
 have hT : Hid (thereB its key = ((its[placeN its key]?).map (fun x => x.key == key)).getD false) := rfl
 generalize hpt : thereB its key = pt at *
 generalize hpp : placeN its key = pp at *
 have HQ : Hid (∀ (wr : World), Below w.heap.size w wr → ∀ h, h < n → ∃ b o kv vv c, a = some ⟨b, o, none⟩ ∧ wr.rangeAt b (o + h * 10) [kv, vv, .int .u8 0, .int .u8 0, .int .u8 0, .int .u8 0, .int .u8 0, .int .u8 0, .int .u8 0, .int .u8 0] ∧
   Calls Tryz.prog 62 #[.agg #[kv, vv, .int .u8 0, .int .u8 0, .int .u8 0, .int .u8 0, .int .u8 0, .int .u8 0, .int .u8 0, .int .u8 0], sk.val] wr (fun e w' => e = .returned (.int .i64 c) ∧ Below wr.heap.size wr w') ∧
   kv.cells = #[kv] ∧ vv.cells = #[vv] ∧ (c < 0 ↔ h < pp) ∧ (h = pp → pt = (c == 0))) := fun wr hB h h1 => by
  subst hn
  obtain ⟨b, o, ha, hb, hc⟩ := SlE.range hs h8 h h1
  refine ⟨b, o, xs[h].k.val, xs[h].v.val, Lib.compareBytes (its[h]'(by omega)).key key, ha, fun j v hv => ?_, ?_, rfl, rfl, ?_, ?_⟩
  ·rw [hB.cell (p := ⟨b, o + h * 10 + j, none⟩) hb]
   refine hc j v ?_
   unfold enC
   rw [(hok h h1 (by omega)).dig]
   exact hv
  ·exact findKey_any xs[h] (its[h]'(by omega)) sk key wr ((hok h h1 (by omega)).below hB) (hk.below hB)
  ·rw [cmp_neg]
   have := HP h (by omega)
   unfold lessK at this
   rw [this]; simp
  ·intro e
   subst e
   rw [hT.out, List.getElem?_eq_getElem (by omega)]
   simp only [Option.map_some, Option.getD_some]
   rw [Bool.eq_iff_iff]
   simp [cmp_zero]
 have HT0 : Hid (n = pp → pt = false) := fun e => by
  rw [hT.out, List.getElem?_eq_none (by omega)]; rfl
 have hple : pp ≤ n := by omega
 have h60 : n ≤ 60 := by omega
 clear hok hs hk HP hr h8 hpt hpp hT hn hl
 unfold SlR.val at *
 go_enter Tryz.func61, Tryz.ntmps61
 go_wp2
 go_loopw [9, 10, 11] (fun x y _ wr => ∃ i j : Nat, i ≤ pp ∧ pp ≤ j ∧ j ≤ n ∧ x = .int .i64 i ∧ y = .int .i64 j ∧ Below w.heap.size w wr) (fun x y _ _ => (intOf y).toNat - (intOf x).toNat)
 case atStart => exact ⟨0, n, by omega, hple, by omega, by simp, by simp, Below.refl _ _⟩
 case round =>
  obtain ⟨i, j, hi, hj, hjn, rfl, rfl, hB⟩ := hrel
  by_cases hlt : i < j
  ·have hltI : (i : Int) < j := by omega
   obtain ⟨h, hh⟩ : ∃ h : Nat, h = (i + j) / 2 := ⟨_, rfl⟩
   have hhI : ((i : Int) + j) / 2 = h := by omega
   have hh1 : h < n := by omega
   have hhi : i ≤ h := by omega
   have hhj : h < j := by omega
   have hh2 : (h : Int) < n := by omega
   have hh3 : (h : Int) ≤ 60 := by omega
   clear hh
   obtain ⟨b, o, kv, vv, c, rfl, hc, hcall, hkv, hvv, hneg, _⟩ := HQ.out wr hB h hh1
   have HC : Hid (Calls _ _ _ _ _) := hcall
   have HN : Hid (c < 0 ↔ h < pp) := hneg
   clear hcall hneg
   have c0 := hc 0 _ rfl
   have c1 := hc 1 _ rfl
   have c2 := hc 2 _ rfl
   have c3 := hc 3 _ rfl
   have c4 := hc 4 _ rfl
   have c5 := hc 5 _ rfl
   have c6 := hc 6 _ rfl
   have c7 := hc 7 _ rfl
   have c8 := hc 8 _ rfl
   have c9 := hc 9 _ rfl
   clear hc
   simp only [Nat.add_zero] at c0
   by_cases hc0 : c < 0
   ·have hlp := HN.out.1 hc0
    go_wp2_with (go_at_call 62; refine HC.out.mono ?_; rintro e w1 ⟨rfl, hb1⟩)
    refine ⟨⟨h + 1, j, by omega, by omega, by omega, by go_num, by simp, hB.trans (hb1.mono hB.size)⟩, ?_⟩
    simp [intOf]; omega
   ·have hlp : ¬ h < pp := fun x => hc0 (HN.out.2 x)
    go_wp2_with (go_at_call 62; refine HC.out.mono ?_; rintro e w1 ⟨rfl, hb1⟩)
    refine ⟨⟨i, h, by omega, by omega, by omega, by simp, by simp, hB.trans (hb1.mono hB.size)⟩, ?_⟩
    simp [intOf]; omega
  ·obtain rfl : i = j := by omega
   obtain rfl : i = pp := by omega
   clear hlt
   by_cases hin : i < n
   ·have hinI : (i : Int) < n := by omega
    obtain ⟨b, o, kv, vv, c, rfl, hc, hcall, hkv, hvv, _, hpt⟩ := HQ.out wr hB i hin
    have HC : Hid (Calls _ _ _ _ _) := hcall
    have HPT : Hid (pt = (c == 0)) := hpt rfl
    clear hcall hpt
    have c0 := hc 0 _ rfl
    have c1 := hc 1 _ rfl
    have c2 := hc 2 _ rfl
    have c3 := hc 3 _ rfl
    have c4 := hc 4 _ rfl
    have c5 := hc 5 _ rfl
    have c6 := hc 6 _ rfl
    have c7 := hc 7 _ rfl
    have c8 := hc 8 _ rfl
    have c9 := hc 9 _ rfl
    clear hc
    simp only [Nat.add_zero] at c0
    go_wp2_with (go_at_call 62; refine HC.out.mono ?_; rintro e w1 ⟨rfl, hb1⟩)
    go_ret2
    exact ⟨by rw [HPT.out]; rfl, hB.trans (hb1.mono hB.size)⟩
   ·have hinI : ¬ (i : Int) < n := by omega
    have HPT : Hid (pt = false) := HT0.out (by omega)
    go_wp2
    go_ret2
    exact ⟨by rw [HPT.out]; rfl, hB⟩
end Go.Proofs.YtekegfbjbainhaaGreat
