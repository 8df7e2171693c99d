
import Derived.Test.YtekegfbjbainhaaGreatKJoin15
import Derived.Great.Frames
set_option linter.unusedVariables false
set_option linter.unusedSimpArgs false
namespace Go.Proofs.YtekegfbjbainhaaGreat
open Go.RowKit
def comG (i j : Int) (x0 x1 x2 x3 x4 x5 x6 x7 s0 s1 s2 s3 s4 s5 s6 s7 : UInt8) : List Value := [.int .i64 i, .int .u8 (x0.toNat : Int), .int .u8 (x1.toNat : Int), .int .u8 (x2.toNat : Int), .int .u8 (x3.toNat : Int), .int .u8 (x4.toNat : Int), .int .u8 (x5.toNat : Int), .int .u8 (x6.toNat : Int), .int .u8 (x7.toNat : Int), .int .i64 j, .int .u8 (s0.toNat : Int), .int .u8 (s1.toNat : Int), .int .u8 (s2.toNat : Int), .int .u8 (s3.toNat : Int), .int .u8 (s4.toNat : Int), .int .u8 (s5.toNat : Int), .int .u8 (s6.toNat : Int), .int .u8 (s7.toNat : Int)]
theorem comG_one {i j : Int} {x0 x1 x2 x3 x4 x5 x6 x7 s0 s1 s2 s3 s4 s5 s6 s7 : UInt8} : ∀ v ∈ comG i j x0 x1 x2 x3 x4 x5 x6 x7 s0 s1 s2 s3 s4 s5 s6 s7, v.oneCell' = true := by
 intro v hv
 simp only [comG, List.mem_cons, List.not_mem_nil, or_false] at hv
 rcases hv with rfl | rfl | rfl | rfl | rfl | rfl | rfl | rfl | rfl | rfl | rfl | rfl | rfl | rfl | rfl | rfl | rfl | rfl <;> rfl
theorem Tryz.infoCommit : (Tryz.prog.info? 103).map (fun i => (i.zero, i.size, i.bytes)) = some (some (.agg zero18.toArray), 18, 32) := by kernel_rfl
theorem PairAt.pushDone {W W1 : World} {d : PairD} (h : PairAt W d) {done' : SlR} {C : List Value} (ho : W1.ownsRow 0 103 18 done'.val (d.dn + 1) (d.doneC ++ C)) (hf : Frame (fun k => d.done.val.ownBlock = some k) W W1) (hat : done'.val.ownBlock = d.done.val.ownBlock ∨ done'.val.ownBlock = some W.heap.size) :
  PairAt (W1.setCell ⟨d.pb, 2, none⟩ done'.val) { d with done := done', dn := d.dn + 1, doneC := d.doneC ++ C } ∧ (∀ k, PairD.F { d with done := done', dn := d.dn + 1, doneC := d.doneC ++ C } k → k < W.heap.size → d.F k) ∧ Frame d.F W (W1.setCell ⟨d.pb, 2, none⟩ done'.val) := by
 have hr1 : RowV W1 d.pb 94 [ptrV d.sb, ptrV d.rb, d.done.val] := RowV.of_block h.row (hf.block _ (RowV.lt h.row) (fun e => owns_ne h.hdone h.row (by decide) e))
 have hf2 : Frame (fun k => k = d.pb) W1 (W1.setCell ⟨d.pb, 2, none⟩ done'.val) := (Frame.refl (fun k => k = d.pb) _).setCell (p := ⟨d.pb, 2, none⟩) rfl _
 have hfo : Frame d.oF W (W1.setCell ⟨d.pb, 2, none⟩ done'.val) := Frame.into (hf.mono (fun k _ hk => Or.inr hk)) hf2 (fun k _ hk => Or.inl hk)
 obtain ⟨g1, g2⟩ := h.setDone (done := done') (dn := d.dn + 1) (doneC := d.doneC ++ C) (by simpa using RowV.set hr1 2 done'.val) (owns_frame ho hf2 (fun k hk e => owns_ne ho hr1 (by decide) (by rw [hk, e]))) hfo (fun k hk => hk) (fun k hk hlt => by
  rcases hat with e | e
  ·rw [← e]; exact hk
  ·rw [e] at hk; have := Option.some.inj hk; omega)
 exact ⟨g1, g2, hfo.mono (fun k _ hk => Or.inl hk)⟩
set_option maxRecDepth 100000 in
theorem bs18' (v0 v1 v2 v3 v4 v5 v6 v7 v8 v9 v10 v11 v12 v13 v14 v15 v16 v17 : Value) (W : World) : (Instr.buildSlice 92 1 #[(0, Value.agg #[v0, v1, v2, v3, v4, v5, v6, v7, v8, v9, v10, v11, v12, v13, v14, v15, v16, v17])]).run Tryz.prog W = .ok (.slice (some ⟨W.heap.size, 0, none⟩) 1 1) (W.alloc (.cells #[v0, v1, v2, v3, v4, v5, v6, v7, v8, v9, v10, v11, v12, v13, v14, v15, v16, v17] 103)) := by
 kernel_rfl
theorem bs18 (C : List Value) (hC : C.length = 18) (W : World) : (Instr.buildSlice 92 1 #[(0, Value.agg C.toArray)]).run Tryz.prog W = .ok (.slice (some ⟨W.heap.size, 0, none⟩) 1 1) (W.alloc (.cells C.toArray 103)) := by
 match C, hC with
 | [v0, v1, v2, v3, v4, v5, v6, v7, v8, v9, v10, v11, v12, v13, v14, v15, v16, v17], _ => exact bs18' v0 v1 v2 v3 v4 v5 v6 v7 v8 v9 v10 v11 v12 v13 v14 v15 v16 v17 W
theorem any_one {P : Program} {md : Region.Mode} {ops : Array Oper} {Q : Exit → Act → World → Prop} {i fuel : Nat} {o : Oper} {listed : Array Bool} {a : Act} {w : World} (hi : ops[i]? = some o) (hgd : o.guard = none) (hr : Region.ready md ops listed = [i])
  (h : ∀ K : Act → World → Prop, (∀ a w, wpAny P md ops Q fuel (listed.setIfInBounds i true) a w → K a w) → Oper.wp P o a w K Q) : wpAny P md ops Q (fuel + 1) listed a w :=
 wpAny_ready hr (List.cons_ne_nil _ _) (AllReady.cons hi (fun K hK => by rw [if_pos (by simp [Region.wanted, hgd])]; exact h K hK) AllReady.nil)
theorem any_two {P : Program} {md : Region.Mode} {ops : Array Oper} {Q : Exit → Act → World → Prop} {i j fuel : Nat} {o u : Oper} {listed : Array Bool} {a : Act} {w : World} (hi : ops[i]? = some o) (hgd : o.guard = none) (hj : ops[j]? = some u) (hgu : u.guard = none) (hr : Region.ready md ops listed = [i, j])
  (h : ∀ K : Act → World → Prop, (∀ a w, wpAny P md ops Q fuel (listed.setIfInBounds i true) a w → K a w) → Oper.wp P o a w K Q)
  (h' : ∀ K : Act → World → Prop, (∀ a w, wpAny P md ops Q fuel (listed.setIfInBounds j true) a w → K a w) → Oper.wp P u a w K Q) : wpAny P md ops Q (fuel + 1) listed a w :=
 wpAny_ready hr (List.cons_ne_nil _ _) (AllReady.cons hi (fun K hK => by rw [if_pos (by simp [Region.wanted, hgd])]; exact h K hK) (AllReady.cons hj (fun K hK => by rw [if_pos (by simp [Region.wanted, hgu])]; exact h' K hK) AllReady.nil))
theorem op_load1 {o : Oper} {a : Act} {w : World} {K : Act → World → Prop} {Q : Exit → Act → World → Prop} (x : Operand) (ho : o.op = .load 92 x)
  (b k : Nat) (v : Value) (hx : a.eval x = .pointer (some ⟨b, k, none⟩)) (hc : w.cell? ⟨b, k, none⟩ = some v)
  (h : K (a.put o.dst v) w) : Oper.wp Tryz.prog o a w K Q := by
 unfold Oper.wp execOp
 simp only [ho, hx]
 go_simp
 exact h
theorem op_store1 {o : Oper} {a : Act} {w : World} {K : Act → World → Prop} {Q : Exit → Act → World → Prop} (x y : Operand) (ho : o.op = .store 92 x y)
  (b k : Nat) (v : Value) (sa : Option Addr) (n c : Nat) (hx : a.eval x = .pointer (some ⟨b, k, none⟩)) (hy : a.eval y = .slice sa n c) (hc : w.cell? ⟨b, k, none⟩ = some v) (hf : w.frozen? ⟨b, k, none⟩ = false)
  (h : K (a.put o.dst undef) (w.setCell ⟨b, k, none⟩ (.slice sa n c))) : Oper.wp Tryz.prog o a w K Q := by
 unfold Oper.wp execOp
 simp only [ho, hx, hy]
 go_simp
 exact h
theorem op_buildR {o : Oper} {a : Act} {w : World} {K : Act → World → Prop} {Q : Exit → Act → World → Prop} (t e : TypeId) (x : Operand) (ho : o.op = .buildSlice t 1 #[(0, x)])
  (C : List Value) (hx : a.eval x = .agg C.toArray) (hb : ∀ W, (Instr.buildSlice t 1 #[(0, .agg C.toArray)]).run Tryz.prog W = .ok (.slice (some ⟨W.heap.size, 0, none⟩) 1 1) (W.alloc (.cells C.toArray e)))
  (h : K (a.put o.dst (.slice (some ⟨w.heap.size, 0, none⟩) 1 1)) (w.alloc (.cells C.toArray e))) : Oper.wp Tryz.prog o a w K Q := by
 unfold Oper.wp execOp
 simp only [ho, List.map_toArray, List.map_cons, List.map_nil, hx, Sem.run_bind, hb, Result.andThen_ok, Sem.run_pure]
 exact h
structure TailOk (md : Region.Mode) (ops : Array Oper) (M : Array Bool) : Prop where
 r7 : Region.ready md ops M = [7]
 f8 : Region.free md ops (M.setIfInBounds 7 true) 8 = true
 r8 : (Region.ready md ops (M.setIfInBounds 7 true)).contains 8 = true
 f9 : Region.free md ops ((M.setIfInBounds 7 true).setIfInBounds 8 true) 9 = true
 r9 : (Region.ready md ops ((M.setIfInBounds 7 true).setIfInBounds 8 true)).contains 9 = true
 r10 : Region.ready md ops (((M.setIfInBounds 7 true).setIfInBounds 8 true).setIfInBounds 9 true) = [10]
 rd : Region.ready md ops ((((M.setIfInBounds 7 true).setIfInBounds 8 true).setIfInBounds 9 true).setIfInBounds 10 true) = []
structure PushOps (ops : Array Oper) (D p q : Nat) (o0 o1 o2 o3 o4 o5 o6 o7 o8 o9 o10 : Oper) : Prop where
 e0 : ops[0]? = some o0
 e1 : ops[1]? = some o1
 e2 : ops[2]? = some o2
 e3 : ops[3]? = some o3
 e4 : ops[4]? = some o4
 e5 : ops[5]? = some o5
 e6 : ops[6]? = some o6
 e7 : ops[7]? = some o7
 e8 : ops[8]? = some o8
 e9 : ops[9]? = some o9
 e10 : ops[10]? = some o10
 d0 : o0.dst = some D
 d1 : o1.dst = some (D + 1)
 d2 : o2.dst = some (D + 2)
 d3 : o3.dst = some (D + 3)
 d4 : o4.dst = some (D + 4)
 d5 : o5.dst = some (D + 5)
 d6 : o6.dst = some (D + 6)
 d7 : o7.dst = some (D + 7)
 d8 : o8.dst = some (D + 8)
 d9 : o9.dst = some (D + 9)
 d10 : o10.dst = none
 g4 : o4.guard = none
 g5 : o5.guard = none
 g6 : o6.guard = none
 g7 : o7.guard = none
 g10 : o10.guard = none
 p4 : o4.op = .load 92 (.tmp (D + 3))
 p5 : o5.op = .load 103 (.tmp q)
 p6 : o6.op = .buildSlice 92 1 #[(0, .tmp (D + 5))]
 p7 : o7.op = .call { callee := .builtin .append, args := #[.tmp (D + 4), .tmp (D + 6)], argTypes := #[92, 92] }
 p10 : o10.op = .store 92 (.tmp (D + 9)) (.tmp (D + 7))
 sel : Region.noSelect ops = true
def finA (a : Act) (D : Nat) (pv fv s4 C6 b6 s7 : Value) : Act := (((((((((a.put (some D) pv).put (some (D + 1)) pv).put (some (D + 2)) pv).put (some (D + 3)) fv).put (some (D + 4)) s4).put (some (D + 5)) C6).put (some (D + 6)) b6).put (some (D + 7)) s7).put (some (D + 8)) pv).put (some (D + 9)) fv
theorem put_swap (a : Act) (i j : Nat) (v u : Value) (h : i ≠ j) : (a.put (some i) v).put (some j) u = (a.put (some j) u).put (some i) v := Act.put_comm a v u (fun d e1 e2 => h (by cases e1; cases e2; rfl))
theorem push_tail {md : Region.Mode} {ops : Array Oper} {Q : Exit → Act → World → Prop} {D p q : Nat} {o0 o1 o2 o3 o4 o5 o6 o7 o8 o9 o10 : Oper} (O : PushOps ops D p q o0 o1 o2 o3 o4 o5 o6 o7 o8 o9 o10) {M : Array Bool} (H : TailOk md ops M)
  (hQp : ∀ d v c a w, Q (.panic c) (a.put d v) w → Q (.panic c) a w) (b k : Nat) (s : SlR) (g : Nat) (C : List Value) (hC : C.length = 18) (hC1 : ∀ u ∈ C, u.oneCell' = true) (dn : Nat) (doneC : List Value) (hdn : dn ≤ 1000)
  (y8 : ∀ a : Act, a.eval (.tmp D) = .pointer (some ⟨b, 0, none⟩) → Yields Tryz.prog ops o8 (.pointer (some ⟨b, 0, none⟩)) a) (y9 : ∀ a : Act, a.eval (.tmp (D + 8)) = .pointer (some ⟨b, 0, none⟩) → Yields Tryz.prog ops o9 (.pointer (some ⟨b, k, none⟩)) a)
  (a : Act) (w : World) (hsz : D + 10 < a.tmps.size) (h0 : a.eval (.tmp D) = .pointer (some ⟨b, 0, none⟩)) (h4 : a.eval (.tmp (D + 4)) = s.val) (h6 : a.eval (.tmp (D + 6)) = .slice (some ⟨g, 0, none⟩) 1 1)
  (ho : w.ownsRow 0 103 18 s.val dn doneC) (hS : SlV w (some ⟨g, 0, none⟩) C)
  (hc : ∀ w6, Frame (fun x => s.val.ownBlock = some x) w w6 → ∃ v, w6.cell? ⟨b, k, none⟩ = some v ∧ w6.frozen? ⟨b, k, none⟩ = false)
  (h : ∀ (a6 : Option Addr) (n6 c6 : Nat) (w6 : World), w6.ownsRow 0 103 18 (.slice a6 n6 c6) (dn + 1) (doneC ++ C) → Frame (fun x => s.val.ownBlock = some x) w w6 → ((Value.slice a6 n6 c6).ownBlock = s.val.ownBlock ∨ (Value.slice a6 n6 c6).ownBlock = some w.heap.size) →
   Q .normal (((a.put (some (D + 7)) (.slice a6 n6 c6)).put (some (D + 8)) (.pointer (some ⟨b, 0, none⟩))).put (some (D + 9)) (.pointer (some ⟨b, k, none⟩))) (w6.setCell ⟨b, k, none⟩ (.slice a6 n6 c6))) :
  wpAny Tryz.prog md ops Q 4 M a w := by
 refine any_one O.e7 O.g7 H.r7 (fun K hK => ?_)
 refine op_appendV (.tmp (D + 4)) (.tmp (D + 6)) 92 O.p7 0 103 _ 18 32 Tryz.underlying92 Tryz.infoCommit rfl (by decide) s.val dn doneC h4 ho ⟨g, 0, none⟩ 1 1 C h6 (by rw [hC]) hS hC1 (by unfold maxLen; omega) (by omega) (Nat.zero_le _) ?_
 intro v6 w6 ho6 hf6 hat6
 obtain ⟨a6, c6, rfl, _⟩ := owns_form ho6
 refine hK _ _ ?_
 rw [O.d7]
 have hz : ∀ (d : Option Nat) (v : Value) (a : Act), (a.put d v).tmps.size = a.tmps.size := fun d v a => Act.size_put a d v
 refine wpAny_take (i := 8) (v := .pointer (some ⟨b, 0, none⟩)) O.e8 O.sel H.f8 H.r8 (fun c a w h => hQp _ _ c a w h) (y8 _ ?_) ?_
 ·rw [Act.eval_put_ne _ _ _ _ (by omega)]; exact h0
 rw [O.d8]
 refine wpAny_take (i := 9) (v := .pointer (some ⟨b, k, none⟩)) O.e9 O.sel H.f9 H.r9 (fun c a w h => hQp _ _ c a w h) (y9 _ ?_) ?_
 ·exact Act.eval_put_same _ _ _ (by rw [hz]; omega)
 rw [O.d9]
 refine any_one O.e10 O.g10 H.r10 (fun K hK => ?_)
 obtain ⟨v, hv1, hv2⟩ := hc w6 hf6
 refine op_store1 _ _ O.p10 b k v a6 (dn + 1) c6 ?_ ?_ hv1 hv2 ?_
 ·exact Act.eval_put_same _ _ _ (by rw [hz, hz]; omega)
 ·rw [Act.eval_put_ne _ _ _ _ (by omega), Act.eval_put_ne _ _ _ _ (by omega)]
  exact Act.eval_put_same _ _ _ (by omega)
 refine hK _ _ ?_
 rw [O.d10]
 exact wpAny_done H.rd (h a6 (dn + 1) c6 w6 ho6 hf6 hat6) _
structure PushOrd (md : Region.Mode) (ops : Array Oper) (L : Array Bool) : Prop where
 f0 : Region.free md ops L 0 = true
 r0 : (Region.ready md ops L).contains 0 = true
 f1 : Region.free md ops (L.setIfInBounds 0 true) 1 = true
 r1 : (Region.ready md ops (L.setIfInBounds 0 true)).contains 1 = true
 f2 : Region.free md ops ((L.setIfInBounds 0 true).setIfInBounds 1 true) 2 = true
 r2 : (Region.ready md ops ((L.setIfInBounds 0 true).setIfInBounds 1 true)).contains 2 = true
 f3 : Region.free md ops (((L.setIfInBounds 0 true).setIfInBounds 1 true).setIfInBounds 2 true) 3 = true
 r3 : (Region.ready md ops (((L.setIfInBounds 0 true).setIfInBounds 1 true).setIfInBounds 2 true)).contains 3 = true
 r45 : Region.ready md ops ((((L.setIfInBounds 0 true).setIfInBounds 1 true).setIfInBounds 2 true).setIfInBounds 3 true) = [4, 5]
 ra5 : Region.ready md ops (((((L.setIfInBounds 0 true).setIfInBounds 1 true).setIfInBounds 2 true).setIfInBounds 3 true).setIfInBounds 4 true) = [5]
 ra6 : Region.ready md ops ((((((L.setIfInBounds 0 true).setIfInBounds 1 true).setIfInBounds 2 true).setIfInBounds 3 true).setIfInBounds 4 true).setIfInBounds 5 true) = [6]
 ta : TailOk md ops (((((((L.setIfInBounds 0 true).setIfInBounds 1 true).setIfInBounds 2 true).setIfInBounds 3 true).setIfInBounds 4 true).setIfInBounds 5 true).setIfInBounds 6 true)
 rb46 : Region.ready md ops (((((L.setIfInBounds 0 true).setIfInBounds 1 true).setIfInBounds 2 true).setIfInBounds 3 true).setIfInBounds 5 true) = [4, 6]
 rb6 : Region.ready md ops ((((((L.setIfInBounds 0 true).setIfInBounds 1 true).setIfInBounds 2 true).setIfInBounds 3 true).setIfInBounds 5 true).setIfInBounds 4 true) = [6]
 tb : TailOk md ops (((((((L.setIfInBounds 0 true).setIfInBounds 1 true).setIfInBounds 2 true).setIfInBounds 3 true).setIfInBounds 5 true).setIfInBounds 4 true).setIfInBounds 6 true)
 rc4 : Region.ready md ops ((((((L.setIfInBounds 0 true).setIfInBounds 1 true).setIfInBounds 2 true).setIfInBounds 3 true).setIfInBounds 5 true).setIfInBounds 6 true) = [4]
 tc : TailOk md ops (((((((L.setIfInBounds 0 true).setIfInBounds 1 true).setIfInBounds 2 true).setIfInBounds 3 true).setIfInBounds 5 true).setIfInBounds 6 true).setIfInBounds 4 true)
theorem push_any {md : Region.Mode} {ops : Array Oper} {Q : Exit → Act → World → Prop} {D p q : Nat} {o0 o1 o2 o3 o4 o5 o6 o7 o8 o9 o10 : Oper} (O : PushOps ops D p q o0 o1 o2 o3 o4 o5 o6 o7 o8 o9 o10) {L : Array Bool} (H : PushOrd md ops L)
  (hQp : ∀ d v c a w, Q (.panic c) (a.put d v) w → Q (.panic c) a w) (b k : Nat) (s : SlR) (g : Nat) (C : List Value) (hC : C.length = 18) (hC1 : ∀ u ∈ C, u.oneCell' = true) (dn : Nat) (doneC : List Value) (hdn : dn ≤ 1000)
  (y0 : ∀ a : Act, a.eval (.tmp p) = .pointer (some ⟨b, 0, none⟩) → Yields Tryz.prog ops o0 (.pointer (some ⟨b, 0, none⟩)) a) (y1 : ∀ a : Act, a.eval (.tmp p) = .pointer (some ⟨b, 0, none⟩) → Yields Tryz.prog ops o1 (.pointer (some ⟨b, 0, none⟩)) a)
  (y2 : ∀ a : Act, a.eval (.tmp (D + 1)) = .pointer (some ⟨b, 0, none⟩) → Yields Tryz.prog ops o2 (.pointer (some ⟨b, 0, none⟩)) a) (y3 : ∀ a : Act, a.eval (.tmp (D + 2)) = .pointer (some ⟨b, 0, none⟩) → Yields Tryz.prog ops o3 (.pointer (some ⟨b, k, none⟩)) a)
  (y8 : ∀ a : Act, a.eval (.tmp D) = .pointer (some ⟨b, 0, none⟩) → Yields Tryz.prog ops o8 (.pointer (some ⟨b, 0, none⟩)) a) (y9 : ∀ a : Act, a.eval (.tmp (D + 8)) = .pointer (some ⟨b, 0, none⟩) → Yields Tryz.prog ops o9 (.pointer (some ⟨b, k, none⟩)) a)
  (a : Act) (w : World) (hsz : D + 10 < a.tmps.size) (hpD : p < D) (hqD : q < D) (hp : a.eval (.tmp p) = .pointer (some ⟨b, 0, none⟩)) (hq : a.eval (.tmp q) = .pointer (some ⟨g, 0, none⟩))
  (hR : RowV w g 103 C) (hc0 : w.cell? ⟨b, k, none⟩ = some s.val) (hb : b < w.heap.size) (ho : w.ownsRow 0 103 18 s.val dn doneC)
  (hc : ∀ w6, Frame (fun x => s.val.ownBlock = some x) (w.alloc (.cells C.toArray 103)) w6 → ∃ v, w6.cell? ⟨b, k, none⟩ = some v ∧ w6.frozen? ⟨b, k, none⟩ = false)
  (h : ∀ (a6 : Option Addr) (n6 c6 : Nat) (w6 : World), w6.ownsRow 0 103 18 (.slice a6 n6 c6) (dn + 1) (doneC ++ C) → Frame (fun x => s.val.ownBlock = some x) (w.alloc (.cells C.toArray 103)) w6 → ((Value.slice a6 n6 c6).ownBlock = s.val.ownBlock ∨ (Value.slice a6 n6 c6).ownBlock = some (w.alloc (.cells C.toArray 103)).heap.size) →
   Q .normal (finA a D (.pointer (some ⟨b, 0, none⟩)) (.pointer (some ⟨b, k, none⟩)) s.val (.agg C.toArray) (.slice (some ⟨w.heap.size, 0, none⟩) 1 1) (.slice a6 n6 c6)) (w6.setCell ⟨b, k, none⟩ (.slice a6 n6 c6))) :
  wpAny Tryz.prog md ops Q 11 L a w := by
 have hz : ∀ (d : Option Nat) (v : Value) (a : Act), (a.put d v).tmps.size = a.tmps.size := fun d v a => Act.size_put a d v
 have hinfo : (Tryz.prog.info? 103).map (·.size) = some C.length := by rw [hC]; exact Tryz.sizeCommit
 have hB : Below w.heap.size w (w.alloc (.cells C.toArray 103)) := (Below.refl _ _).alloc (Nat.le_refl _) _
 have hcA : (w.alloc (.cells C.toArray 103)).cell? ⟨b, k, none⟩ = some s.val := by rw [hB.cell (p := ⟨b, k, none⟩) hb]; exact hc0
 have hoA := owns_below ho hB
 have hSA : SlV (w.alloc (.cells C.toArray 103)) (some ⟨w.heap.size, 0, none⟩) C := SlV.alloc_new w _ _
 refine wpAny_take (i := 0) (v := .pointer (some ⟨b, 0, none⟩)) O.e0 O.sel H.f0 H.r0 (fun c a w h => hQp _ _ c a w h) (y0 _ hp) ?_
 rw [O.d0]
 refine wpAny_take (i := 1) (v := .pointer (some ⟨b, 0, none⟩)) O.e1 O.sel H.f1 H.r1 (fun c a w h => hQp _ _ c a w h) (y1 _ (by rw [Act.eval_put_ne _ _ _ _ (by omega)]; exact hp)) ?_
 rw [O.d1]
 refine wpAny_take (i := 2) (v := .pointer (some ⟨b, 0, none⟩)) O.e2 O.sel H.f2 H.r2 (fun c a w h => hQp _ _ c a w h) (y2 _ (Act.eval_put_same _ _ _ (by rw [hz]; omega))) ?_
 rw [O.d2]
 refine wpAny_take (i := 3) (v := .pointer (some ⟨b, k, none⟩)) O.e3 O.sel H.f3 H.r3 (fun c a w h => hQp _ _ c a w h) (y3 _ (Act.eval_put_same _ _ _ (by rw [hz, hz]; omega))) ?_
 rw [O.d3]
 obtain ⟨a3, ha3⟩ : ∃ x, x = (((a.put (some D) (.pointer (some ⟨b, 0, none⟩))).put (some (D + 1)) (.pointer (some ⟨b, 0, none⟩))).put (some (D + 2)) (.pointer (some ⟨b, 0, none⟩))).put (some (D + 3)) (.pointer (some ⟨b, k, none⟩)) := ⟨_, rfl⟩
 have z3 : a3.tmps.size = a.tmps.size := by rw [ha3, hz, hz, hz, hz]
 have v0 : a3.eval (.tmp D) = .pointer (some ⟨b, 0, none⟩) := by
  rw [ha3, Act.eval_put_ne _ _ _ _ (by omega), Act.eval_put_ne _ _ _ _ (by omega), Act.eval_put_ne _ _ _ _ (by omega)]; exact Act.eval_put_same _ _ _ (by omega)
 have v3 : a3.eval (.tmp (D + 3)) = .pointer (some ⟨b, k, none⟩) := by
  rw [ha3]; exact Act.eval_put_same _ _ _ (by rw [hz, hz, hz]; omega)
 have vq : a3.eval (.tmp q) = .pointer (some ⟨g, 0, none⟩) := by
  rw [ha3, Act.eval_put_ne _ _ _ _ (by omega), Act.eval_put_ne _ _ _ _ (by omega), Act.eval_put_ne _ _ _ _ (by omega), Act.eval_put_ne _ _ _ _ (by omega)]; exact hq
 have hfin : ∀ s4 C6 b6 s7, finA a D (.pointer (some ⟨b, 0, none⟩)) (.pointer (some ⟨b, k, none⟩)) s4 C6 b6 s7 = (((((a3.put (some (D + 4)) s4).put (some (D + 5)) C6).put (some (D + 6)) b6).put (some (D + 7)) s7).put (some (D + 8)) (.pointer (some ⟨b, 0, none⟩))).put (some (D + 9)) (.pointer (some ⟨b, k, none⟩)) := fun _ _ _ _ => by rw [ha3]; rfl
 simp only [hfin] at h
 rw [← ha3]
 clear ha3 hfin
 refine any_two O.e4 O.g4 O.e5 O.g5 H.r45 (fun K hK => ?_) (fun K hK => ?_)
 ·refine op_load1 _ O.p4 b k s.val v3 hc0 (hK _ _ ?_)
  rw [O.d4]
  refine any_one O.e5 O.g5 H.ra5 (fun K hK => ?_)
  refine wp_load_mid _ _ O.p5 g 0 (by rw [Act.eval_put_ne _ _ _ _ (by omega)]; exact vq) C _ hR.range Tryz.underlying103 rfl hinfo (hK _ _ ?_)
  rw [O.d5]
  refine any_one O.e6 O.g6 H.ra6 (fun K hK => ?_)
  refine op_buildR _ 103 _ O.p6 C (Act.eval_put_same _ _ _ (by rw [hz]; omega)) (bs18 C hC) (hK _ _ ?_)
  rw [O.d6]
  refine push_tail O H.ta hQp b k s w.heap.size C hC hC1 dn doneC hdn y8 y9 _ _ (by rw [hz, hz, hz]; omega) ?_ ?_ ?_ hoA hSA hc h
  ·rw [Act.eval_put_ne _ _ _ _ (by omega), Act.eval_put_ne _ _ _ _ (by omega), Act.eval_put_ne _ _ _ _ (by omega)]; exact v0
  ·rw [Act.eval_put_ne _ _ _ _ (by omega), Act.eval_put_ne _ _ _ _ (by omega)]; exact Act.eval_put_same _ _ _ (by omega)
  ·exact Act.eval_put_same _ _ _ (by rw [hz, hz]; omega)
 ·refine wp_load_mid _ _ O.p5 g 0 vq C _ hR.range Tryz.underlying103 rfl hinfo (hK _ _ ?_)
  rw [O.d5]
  refine any_two O.e4 O.g4 O.e6 O.g6 H.rb46 (fun K hK => ?_) (fun K hK => ?_)
  ·refine op_load1 _ O.p4 b k s.val (by rw [Act.eval_put_ne _ _ _ _ (by omega)]; exact v3) hc0 (hK _ _ ?_)
   rw [O.d4, put_swap _ _ _ _ _ (by omega)]
   refine any_one O.e6 O.g6 H.rb6 (fun K hK => ?_)
   refine op_buildR _ 103 _ O.p6 C (Act.eval_put_same _ _ _ (by rw [hz]; omega)) (bs18 C hC) (hK _ _ ?_)
   rw [O.d6]
   refine push_tail O H.tb hQp b k s w.heap.size C hC hC1 dn doneC hdn y8 y9 _ _ (by rw [hz, hz, hz]; omega) ?_ ?_ ?_ hoA hSA hc h
   ·rw [Act.eval_put_ne _ _ _ _ (by omega), Act.eval_put_ne _ _ _ _ (by omega), Act.eval_put_ne _ _ _ _ (by omega)]; exact v0
   ·rw [Act.eval_put_ne _ _ _ _ (by omega), Act.eval_put_ne _ _ _ _ (by omega)]; exact Act.eval_put_same _ _ _ (by omega)
   ·exact Act.eval_put_same _ _ _ (by rw [hz, hz]; omega)
  ·refine op_buildR _ 103 _ O.p6 C (Act.eval_put_same _ _ _ (by omega)) (bs18 C hC) (hK _ _ ?_)
   rw [O.d6]
   refine any_one O.e4 O.g4 H.rc4 (fun K hK => ?_)
   refine op_load1 _ O.p4 b k s.val (by rw [Act.eval_put_ne _ _ _ _ (by omega), Act.eval_put_ne _ _ _ _ (by omega)]; exact v3) hcA (hK _ _ ?_)
   rw [O.d4, put_swap _ (D + 6) (D + 4) _ _ (by omega), put_swap _ (D + 5) (D + 4) _ _ (by omega)]
   refine push_tail O H.tc hQp b k s w.heap.size C hC hC1 dn doneC hdn y8 y9 _ _ (by rw [hz, hz, hz]; omega) ?_ ?_ ?_ hoA hSA hc h
   ·rw [Act.eval_put_ne _ _ _ _ (by omega), Act.eval_put_ne _ _ _ _ (by omega), Act.eval_put_ne _ _ _ _ (by omega)]; exact v0
   ·rw [Act.eval_put_ne _ _ _ _ (by omega), Act.eval_put_ne _ _ _ _ (by omega)]; exact Act.eval_put_same _ _ _ (by omega)
   ·exact Act.eval_put_same _ _ _ (by rw [hz, hz]; omega)
end Go.Proofs.YtekegfbjbainhaaGreat
