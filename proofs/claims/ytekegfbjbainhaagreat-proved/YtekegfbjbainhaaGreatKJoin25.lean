import Derived.Test.YtekegfbjbainhaaGreatKLaws1
import Derived.Test.YtekegfbjbainhaaGreatKRef10
import Derived.Test.YtekegfbjbainhaaGreatKJoin8
/- append of more of a pattern onto a list that holds it: what stands then, and that the pattern stays wherever it stood. -/
namespace Go.Proofs.YtekegfbjbainhaaGreat
set_option linter.unusedVariables false
set_option linter.unusedSimpArgs false
open Go.RowKit

/-- The first k cells of a pattern. -/
def patL (pat : Nat → Value) (k : Nat) : List Value := (List.range k).map pat
theorem patL_length (pat : Nat → Value) (k : Nat) : (patL pat k).length = k := by simp [patL]
theorem patL_get (pat : Nat → Value) (k j : Nat) (h : j < k) : (patL pat k)[j]? = some (pat j) := by simp [patL, h]
theorem patL_add (pat : Nat → Value) (a b : Nat) : patL pat (a + b) = patL pat a ++ patL (fun j => pat (a + j)) b := by
  unfold patL
  rw [List.range_add, List.map_append, List.map_map]; rfl
/-- The pattern stays wherever it stood. -/
def PatKeep (pat : Nat → Value) (w w' : World) : Prop := ∀ b j, b < w.heap.size → w.cell? ⟨b, j, none⟩ = some (pat j) → w'.cell? ⟨b, j, none⟩ = some (pat j)
theorem PatKeep.trans {pat : Nat → Value} {a b c : World} (h : PatKeep pat a b) (k : PatKeep pat b c) (hs : a.heap.size ≤ b.heap.size) : PatKeep pat a c := fun g j hg hc => k g j (by omega) (h g j hg hc)
theorem PatKeep.below {pat : Nat → Value} {w w' : World} (h : Below w.heap.size w w') : PatKeep pat w w' := fun b j hb hc => by rw [h.cell (p := ⟨b, j, none⟩) hb]; exact hc

theorem run_appendP {P : Program} (w : World) (base : Nat) (t ty e : TypeId) (i : TypeInfo) (z : Value) (size bytes : Nat) (ht : P.underlying t = some (.slice e)) (hi : P.info? e = some i) (hz : i.zero = some z)
    (hsize : i.size = size) (hby : i.bytes = bytes) (hzs : z.cells.size = size) (hsz : 0 < size) (pat : Nat → Value) (v : Value) (n : Nat) (hown : w.ownsRow base e size v n (patL pat (n * size)))
    (a : Addr) (m c : Nat) (hnews : ∀ j u, (patL (fun j => pat (n * size + j)) (m * size))[j]? = some u → w.cell? (a.add j) = some u) (h1 : ∀ j, (pat j).oneCell' = true) (hm : 0 < m)
    (h63 : n + m ≤ maxLen) (hbytes : (n + m) * bytes ≤ 140737488355328) (hbase : base ≤ w.heap.size) :
    ∃ v' w', (Builtin.append_ #[t, t] ty #[v, .slice (some a) m c]).run P w = .ok v' w' ∧ w'.ownsRow base e size v' (n + m) (patL pat ((n + m) * size)) ∧ Frame (fun k => v.ownBlock = some k) w w' ∧ (v'.ownBlock = v.ownBlock ∨ v'.ownBlock = some w.heap.size) ∧ PatKeep pat w w' ∧ w'.ownsRow base e size v n (patL pat (n * size)) := by
  subst hsize
  subst hby
  have hsmall : n + m ≤ 9223372036854775807 := by simp only [maxLen] at h63; omega
  have hadd : patL pat ((n + m) * i.size) = patL pat (n * i.size) ++ patL (fun j => pat (n * i.size + j)) (m * i.size) := by rw [Nat.add_mul, patL_add]
  generalize hnw : patL (fun j => pat (n * i.size + j)) (m * i.size) = news at *
  have hl : news.length = m * i.size := by rw [← hnw, patL_length]
  have h1n : ∀ u ∈ news, u.oneCell' = true := fun u hu => by
    rw [← hnw] at hu
    obtain ⟨j, _, rfl⟩ := List.mem_map.1 hu
    exact h1 _
  have hlen : (patL pat (n * i.size) ++ news).length = (n + m) * i.size := by rw [List.length_append, patL_length, hl, Nat.add_mul]
  have grown : ∀ (old : Nat), old < n + m → ∀ (row : Option Nat),
      (w.drew.alloc (.cells ((patL pat (n * i.size)).toArray ++ news.toArray ++ Builtin.zeroCells z.cells (grownCap w (n + m) old e - (n + m))) e)).ownsRow base e i.size
        (.slice (some ⟨w.heap.size, 0, none⟩) (n + m) (grownCap w (n + m) old e)) (n + m) (patL pat (n * i.size) ++ news) ∧
      Below w.heap.size w (w.drew.alloc (.cells ((patL pat (n * i.size)).toArray ++ news.toArray ++ Builtin.zeroCells z.cells (grownCap w (n + m) old e - (n + m))) e)) := by
    intro old ho row
    have hge := grownCap_ge w (n + m) old e
    have hcm : grownCap w (n + m) old e ≤ maxLen := grownCap_le_maxLen w (n + m) old e h63
    refine ⟨⟨hlen, .inr ⟨w.heap.size, _, _, rfl, hbase, heap_alloc_new w.drew _, hge, hcm, ?_, ?_⟩⟩, ⟨rfl, rfl, rfl, by simp, fun k hk => Below.heap_alloc w.drew _ k hk⟩⟩
    · simp only [Array.size_append, List.size_toArray, size_zeroCells, hzs, patL_length, hl, ← Nat.add_mul]
      congr 1
      omega
    · simp only [Array.toList_append, List.append_assoc]
      rw [← List.append_assoc, ← hlen]
      exact List.take_left
  rw [hadd]
  rcases hown.2 with ⟨rfl, rfl⟩ | ⟨g, cap, cur, rfl, hbg, hg, hnc, hcm, hcs, htake⟩
  · have hr := run_append_nil (P := P) w t ty e i z ht hi hz a m c news hl hnews (by omega) (by omega) (by have hb := hbytes; simp only [Nat.zero_add] at hb; omega)
    have hgr := grown 0 (by omega) none
    have e0 : patL pat (0 * i.size) = [] := by simp [patL]
    rw [e0] at hgr hown ⊢
    simp only [Nat.zero_add, List.nil_append, Array.empty_append] at hgr ⊢
    exact ⟨_, _, hr, hgr.1, Frame.of_below_all hgr.2, Or.inr rfl, PatKeep.below hgr.2, World.ownsRow_nil _ _ _ _⟩
  · by_cases hroom : n + m ≤ cap
    · have hfit : n * i.size + news.length ≤ cur.size := by rw [hl, hcs, ← Nat.add_mul]; exact Nat.mul_le_mul_right _ hroom
      have hr := run_append_room (P := P) w t ty e i ht hi g n cap cur hg a m c news hl hnews h1n hroom hfit
      have hh := setRow_heap w g cur (cur.toList.take (n * i.size) ++ news ++ cur.toList.drop (n * i.size + news.length)).toArray e _ hg
      have hcl : (cur.toList.take (n * i.size) ++ news ++ cur.toList.drop (n * i.size + news.length)).length = cap * i.size := by
        simp only [List.length_append, List.length_take, List.length_drop, Array.length_toList]
        omega
      refine ⟨_, _, hr, ⟨hlen, .inr ⟨g, cap, _, rfl, hbg, hh, hroom, hcm, ?_, ?_⟩⟩, ⟨rfl, rfl, rfl, by simp, fun k _ hk => setRow_other w g k _ (fun e => hk (by simp [Value.ownBlock, e]))⟩, Or.inl rfl, ?_, ⟨hown.1, .inr ⟨g, cap, _, rfl, hbg, hh, hnc, hcm, ?_, ?_⟩⟩⟩
      · rw [List.size_toArray]; exact hcl
      · rw [htake, ← hlen]
        exact List.take_left
      · intro b j hb hc
        by_cases hbg' : b = g
        · subst hbg'
          rw [cell_setRow_same w b j cur _ e _ hg]
          have hc2 : cur[j]? = some (pat j) := by
            rw [← hc]
            simp [World.cell?, hg]
          rw [List.getElem?_toArray]
          have hjc : j < cur.size := (Array.getElem?_eq_some_iff.1 hc2).1
          rw [htake]
          by_cases hj1 : j < n * i.size
          · rw [List.append_assoc, List.getElem?_append_left (by rw [patL_length]; exact hj1)]
            exact patL_get pat _ j hj1
          · by_cases hj2 : j < n * i.size + news.length
            · rw [List.getElem?_append_left (by rw [List.length_append, patL_length]; exact hj2), List.getElem?_append_right (by rw [patL_length]; omega), patL_length, ← hnw, patL_get _ _ _ (by rw [hl] at hj2; omega)]
              rw [show n * i.size + (j - n * i.size) = j by omega]
            · rw [List.getElem?_append_right (by rw [List.length_append, patL_length]; omega), List.length_append, patL_length, List.getElem?_drop, show n * i.size + news.length + (j - (n * i.size + news.length)) = j by omega]
              rw [Array.getElem?_toList]; exact hc2
        · rw [cell_setRow_other w g _ ⟨b, j, none⟩ hbg']; exact hc
      · rw [List.size_toArray]; exact hcl
      · rw [htake, List.append_assoc]
        have := List.take_left (l₁ := patL pat (n * i.size)) (l₂ := news ++ cur.toList.drop (n * i.size + news.length))
        rw [patL_length] at this
        exact this
    · have holds : ∀ j u, (patL pat (n * i.size))[j]? = some u → w.cell? ((⟨g, 0, none⟩ : Addr).add j) = some u := hown.cells (g := g) rfl
      have hr := run_append_grow (P := P) w t ty e i z ht hi hz ⟨g, 0, none⟩ n cap (patL pat (n * i.size)) hown.1 holds a m c news hl hnews (by omega) (by omega) (growslice_fits (by omega) hbytes)
      have hgr := grown cap (by omega) none
      exact ⟨_, _, hr, hgr.1, Frame.of_below_all hgr.2, Or.inr rfl, PatKeep.below hgr.2, owns_below hown hgr.2⟩

/-- append(v, x, ..) of more of the pattern. -/
theorem wp_appendPat {P : Program} {w : World} {ops : Array Oper} {rest : List Oper} {o : Oper} {a : Act} {Q : Exit → Act → World → Prop} (hgd : o.guard = none) (s x : Operand) (t : TypeId)
    (ho : o.op = .call { callee := .builtin .append, args := #[s, x], argTypes := #[t, t] })
    (base : Nat) (e : TypeId) (z : Value) (size bytes : Nat) (ht : P.underlying t = some (.slice e)) (hi : (P.info? e).map (fun i => (i.zero, i.size, i.bytes)) = some (some z, size, bytes)) (hzs : z.cells.size = size) (hsz : 0 < size)
    (pat : Nat → Value) (v : Value) (n : Nat) (hs : a.eval s = v) (hown : w.ownsRow base e size v n (patL pat (n * size)))
    (ad : Addr) (m c : Nat) (hx : a.eval x = .slice (some ad) m c) (hnews : SlV w (some ad) (patL (fun j => pat (n * size + j)) (m * size))) (h1 : ∀ j, (pat j).oneCell' = true) (hm : 0 < m)
    (h63 : n + m ≤ maxLen) (hbytes : (n + m) * bytes ≤ 140737488355328) (hbase : base ≤ w.heap.size)
    (h : ∀ a' c' w', w'.ownsRow base e size (.slice a' (n + m) c') (n + m) (patL pat ((n + m) * size)) → Frame (fun k => v.ownBlock = some k) w w' → ((Value.slice a' (n + m) c').ownBlock = v.ownBlock ∨ (Value.slice a' (n + m) c').ownBlock = some w.heap.size) → PatKeep pat w w' → w'.ownsRow base e size v n (patL pat (n * size)) → wpList P ops Q rest (a.put o.dst (.slice a' (n + m) c')) w') :
    wpList P ops Q (o :: rest) a w := by
  obtain ⟨i, hi0, hz, hsize, hby⟩ := info_parts hi
  obtain ⟨v', w', hr, h2, h3, h4, h5, h6⟩ := run_appendP (P := P) w base t o.type e i z size bytes ht hi0 hz hsize hby hzs hsz pat v n hown ad m c (fun j u hj => by
    obtain ⟨hj1, hj2⟩ := List.getElem?_eq_some_iff.1 hj
    obtain ⟨b, k, ha, _, hc⟩ := hnews j hj1
    cases ha
    rw [addr_add, hc, hj2]) h1 hm h63 hbytes hbase
  obtain ⟨a', c', rfl, _⟩ := owns_form h2
  refine wpList_plain hgd fun K hK => ?_
  unfold Oper.wp execOp
  simp only [ho, resolve, invoke, builtin, Sem.run_bind, Sem.run_pure, Result.andThen_ok, List.map_toArray, List.map_cons, List.map_nil, hs, hx, hr]
  exact hK _ _ (h a' c' w' h2 h3 h4 h5 h6)
end Go.Proofs.YtekegfbjbainhaaGreat

/- Lists of bytes that came out, over which their owner writes: looked at, and written over, walked. -/
namespace Go.Proofs.YtekegfbjbainhaaGreat
set_option linter.unusedVariables false
set_option linter.unusedSimpArgs false
open Go.RowKit

/-- A slice that holds a pattern. -/
def PatSl (w : World) (pat : Nat → Value) (size : Nat) (s : SlR) : Prop := ∀ j, j < s.n * size → ∃ g, s.a = some ⟨g, 0, none⟩ ∧ g < w.heap.size ∧ w.cell? ⟨g, j, none⟩ = some (pat j)
theorem PatSl.keep {w w' : World} {pat : Nat → Value} {size : Nat} {s : SlR} (h : PatSl w pat size s) (hk : PatKeep pat w w') (hz : w.heap.size ≤ w'.heap.size) : PatSl w' pat size s := fun j hj => by
  obtain ⟨g, h1, h2, h3⟩ := h j hj
  exact ⟨g, h1, by omega, hk g j h2 h3⟩
theorem PatSl.frame {w w' : World} {S : Nat → Prop} {pat : Nat → Value} {size : Nat} {s : SlR} (h : PatSl w pat size s) (hf : Frame S w w') (hS : ∀ k, s.val.ownBlock = some k → ¬ S k) : PatSl w' pat size s := fun j hj => by
  obtain ⟨g, h1, h2, h3⟩ := h j hj
  refine ⟨g, h1, Nat.lt_of_lt_of_le h2 hf.size, ?_⟩
  rw [World.cell?_of_block (w := w) (w' := w') (a := ⟨g, j, none⟩) (hf.block g h2 (hS g (by unfold SlR.val; rw [h1]; rfl)))]
  exact h3
theorem PatSl.own {w : World} {pat : Nat → Value} {base e size n : Nat} {s : SlR} (h : w.ownsRow base e size s.val n (patL pat (n * size))) : PatSl w pat size s := fun j hj => by
  have hn := (owns_cap (a := s.a) (n' := s.n) (cap := s.cap) h).1
  obtain ⟨hs, _⟩ := SlV.ofOwn (s := s) h
  obtain ⟨b, o, ha, hb, hc⟩ := hs j (by rw [patL_length, ← hn]; exact hj)
  rcases (owns_cap (a := s.a) (n' := s.n) (cap := s.cap) h).2.2.2 with ⟨e1, _⟩ | ⟨g, e1, _, _⟩
  · rw [ha] at e1; cases e1
  · rw [ha] at e1
    cases e1
    refine ⟨b, ha, hb, ?_⟩
    rw [Nat.zero_add] at hc
    rw [hc]
    simp [patL]
/-- A mark as a byte. -/
def patB (m : Nat) : Nat → Value := fun _ => .int .u8 ((m : Int) % 251)

set_option maxRecDepth 100000 in
set_option maxHeartbeats 400000 in
theorem allBytes_any (s : SlR) (m : Nat) (w : World) (h : PatSl w (patB m) 1 s) (hn : s.n ≤ 140737488355328) (hm : m ≤ 140737488355328) :
    Calls Tryz.prog 57 #[s.val, .int .i64 (m : Int)] w fun e w' => e = .returned (.bool true) ∧ w' = w := by
  have hmI : (m : Int) ≤ 140737488355328 := by omega
  have hnI : (s.n : Int) ≤ 140737488355328 := by omega
  have HP : Hid (PatSl w (patB m) 1 s) := h
  clear h
  unfold SlR.val
  go_enter Tryz.func57, Tryz.ntmps57
  go_wp2
  go_loop [5] (fun i => ∃ k : Nat, k ≤ s.n ∧ i = .int .i64 k) (fun i => s.n - (intOf i).toNat)
  case atStart => exact ⟨0, by omega, rfl⟩
  case round =>
    obtain ⟨k, hk, rfl⟩ := hrel
    by_cases hlt : k < s.n
    · have hltI : (k : Int) < s.n := by omega
      obtain ⟨g, ha, hg, hc⟩ := HP.out k (by omega)
      have hc' : w.cell? ⟨g, k, none⟩ = some (.int .u8 ((m : Int) % 251)) := hc
      rw [ha]
      clear hc
      go_wp2
      go_round
      case rel => exact ⟨k + 1, by omega, by go_num⟩
      case measure => simp [intOf]; omega
    · have hltI : ¬ (k : Int) < s.n := by omega
      go_wp2
      go_ret
      exact ⟨rfl, rfl⟩

/-- A list that came out, as its owner keeps it. -/
structure BkR where
  l : SlR
  one : SlR
  two : SlR
  three : SlR
def bkC (r : BkR) (m : Nat) : List Value := [r.l.val, r.one.val, r.two.val, r.three.val, .int .i64 (m : Int)]
def bkF (r : BkR) (k : Nat) : Prop := r.l.val.ownBlock = some k ∨ r.one.val.ownBlock = some k ∨ r.two.val.ownBlock = some k ∨ r.three.val.ownBlock = some k
structure BkOk (w : World) (pat : Nat → Value) (size : Nat) (r : BkR) : Prop where
  l : PatSl w pat size r.l
  one : PatSl w pat size r.one
  two : PatSl w pat size r.two
  three : PatSl w pat size r.three
  nl : r.l.n ≤ 100000000000010
  n1 : r.one.n ≤ 100000000000010
  n2 : r.two.n ≤ 100000000000010
  n3 : r.three.n ≤ 100000000000010
  lt : ∀ k, bkF r k → k < w.heap.size
theorem BkOk.frame {w w' : World} {S : Nat → Prop} {pat : Nat → Value} {size : Nat} {r : BkR} (h : BkOk w pat size r) (hf : Frame S w w') (hS : ∀ k, bkF r k → ¬ S k) : BkOk w' pat size r :=
  ⟨h.l.frame hf (fun k hk => hS k (Or.inl hk)), h.one.frame hf (fun k hk => hS k (Or.inr (Or.inl hk))), h.two.frame hf (fun k hk => hS k (Or.inr (Or.inr (Or.inl hk)))), h.three.frame hf (fun k hk => hS k (Or.inr (Or.inr (Or.inr hk)))), h.nl, h.n1, h.n2, h.n3, fun k hk => Nat.lt_of_lt_of_le (h.lt k hk) hf.size⟩
theorem BkOk.below {w w' : World} {pat : Nat → Value} {size : Nat} {r : BkR} (h : BkOk w pat size r) (hb : Below w.heap.size w w') : BkOk w' pat size r := h.frame (Frame.of_below_all (S := fun _ => False) hb) (fun _ _ e => e)

set_option maxRecDepth 100000 in
set_option maxHeartbeats 1000000 in
theorem still_any (r : BkR) (m : Nat) (w : World) (h : BkOk w (patB m) 1 r) (hm : m ≤ 140737488355328) :
    Calls Tryz.prog 24 #[.agg (bkC r m).toArray] w fun e w' => e = .returned (.bool true) ∧ Below w.heap.size w w' := by
  have hb : Below w.heap.size w (w.alloc (.cells #[.slice r.l.a r.l.n r.l.cap, .slice r.one.a r.one.n r.one.cap, .slice r.two.a r.two.n r.two.cap, .slice r.three.a r.three.n r.three.cap, .int .i64 (m : Int)] 60)) := (Below.refl _ _).alloc (Nat.le_refl _) _
  have h' := h.below hb
  have H1 : Hid (Calls _ _ _ _ _) := allBytes_any r.l m _ h'.l (by have := h.nl; omega) hm
  have H2 : Hid (Calls _ _ _ _ _) := allBytes_any r.one m _ h'.one (by have := h.n1; omega) hm
  have H3 : Hid (Calls _ _ _ _ _) := allBytes_any r.two m _ h'.two (by have := h.n2; omega) hm
  have H4 : Hid (Calls _ _ _ _ _) := allBytes_any r.three m _ h'.three (by have := h.n3; omega) hm
  clear h h' hb
  unfold bkC
  unfold SlR.val at H1 H2 H3 H4 ⊢
  go_enter Tryz.func24, Tryz.ntmps24
  go_wp2_with fail
  refine H1.out.mono ?_
  rintro e w1 ⟨rfl, rfl⟩
  go_wp2_with fail
  refine H2.out.mono ?_
  rintro e w1 ⟨rfl, rfl⟩
  go_wp2_with fail
  refine H3.out.mono ?_
  rintro e w1 ⟨rfl, rfl⟩
  go_wp2_with fail
  refine H4.out.mono ?_
  rintro e w1 ⟨rfl, rfl⟩
  go_wp2
  go_ret
  exact ⟨rfl, by go_grown⟩
end Go.Proofs.YtekegfbjbainhaaGreat

/- A list that came out is written over, walked. -/
namespace Go.Proofs.YtekegfbjbainhaaGreat
set_option linter.unusedVariables false
set_option linter.unusedSimpArgs false
open Go.RowKit

theorem Tryz.sizeBytes : (Tryz.prog.info? 60).map (·.size) = some 5 := by kernel_rfl
/-- A row while it is written over. -/
theorem pat_set (pat : Nat → Value) (xs : List Value) (k : Nat) (h : k < xs.length) : (patL pat k ++ xs.drop k).set k (pat k) = patL pat (k + 1) ++ xs.drop (k + 1) := by
  rw [List.set_append_right _ _ (by rw [patL_length]; exact Nat.le_refl _), patL_length, Nat.sub_self, List.drop_eq_getElem_cons h, List.set_cons_zero, patL_add]
  simp [patL]

theorem bk_one {a b c d : Option Addr} {n1 n2 n3 n4 c1 c2 c3 c4 : Nat} {x : Int} {u : Value} (hu : u ∈ [Value.slice a n1 c1, .slice b n2 c2, .slice c n3 c3, .slice d n4 c4, .int .i64 x]) : u.oneCell' = true := by
  simp only [List.mem_cons, List.not_mem_nil, or_false] at hu
  rcases hu with rfl | rfl | rfl | rfl | rfl <;> rfl
/-- More of the mark, laid ready. -/
theorem mark_more {W : World} {base k m : Nat} {v : Value} (q : Nat) (h : W.ownsRow base 5 1 v k (patL (patB m) (k * 1))) : (W.alloc (.cells (List.replicate q (Value.int .u8 ((m : Int) % 251))).toArray 5)).ownsRow base 5 1 v k (patL (patB m) (k * 1)) ∧ SlV (W.alloc (.cells (List.replicate q (Value.int .u8 ((m : Int) % 251))).toArray 5)) (some ⟨W.heap.size, 0, none⟩) (patL (fun j => patB m (k * 1 + j)) (q * 1)) := by
  refine ⟨h.alloc _, ?_⟩
  have e : patL (fun j => patB m (k * 1 + j)) (q * 1) = List.replicate q (Value.int .u8 ((m : Int) % 251)) := by
    unfold patL patB
    apply List.ext_getElem
    · simp
    · intro i h1 h2; simp
  rw [e]
  exact SlV.alloc_new W _ _

set_option maxRecDepth 100000 in
set_option maxHeartbeats 2000000 in
theorem ownBytes_any (v : SlR) (L : List UInt8) (base m : Nat) (w : World) (ho : OwnB w base v.val L) (hL : L.length ≤ 100000000000000) (hm : m ≤ 140737488355328) (hb : base ≤ w.heap.size) :
    Calls Tryz.prog 34 #[v.val, .int .i64 (m : Int)] w fun e w' => ∃ r : BkR, e = .returned (.agg (bkC r m).toArray) ∧ BkOk w' (patB m) 1 r ∧ Frame (fun k => v.val.ownBlock = some k) w w' ∧ (∀ k, bkF r k → v.val.ownBlock = some k ∨ w.heap.size < k) := by
  have hcp := owns_cap (a := v.a) (n' := v.n) (cap := v.cap) ho
  obtain ⟨va, vn, vc⟩ := v
  unfold SlR.val at ho ⊢
  simp only at ho hcp ⊢
  obtain ⟨h1, h2, h3, h4⟩ := hcp
  subst h1
  have hmI : (m : Int) ≤ 140737488355328 := by omega
  have hA : Below w.heap.size w (w.alloc (.cells #[.slice none 0 0, .slice none 0 0, .slice none 0 0, .slice none 0 0, .int .i64 0] 60)) := (Below.refl _ _).alloc (Nat.le_refl _) _
  have HR0 : Hid (RowV (w.alloc (.cells #[.slice none 0 0, .slice none 0 0, .slice none 0 0, .slice none 0 0, .int .i64 0] 60)) w.heap.size 60 [.slice none 0 0, .slice none 0 0, .slice none 0 0, .slice none 0 0, .int .i64 0]) := RowV.new w _ _
  have HO0 : Hid ((w.alloc (.cells #[.slice none 0 0, .slice none 0 0, .slice none 0 0, .slice none 0 0, .int .i64 0] 60)).ownsRow base 5 1 (.slice va L.length vc) L.length (L.map u8c)) := owns_below ho hA
  have HFR0 : Hid (Frame (fun k => (Value.slice va L.length vc).ownBlock = some k) w (w.alloc (.cells #[.slice none 0 0, .slice none 0 0, .slice none 0 0, .slice none 0 0, .int .i64 0] 60))) := Frame.of_below_all hA
  have HVL : Hid (∀ k, (Value.slice va L.length vc).ownBlock = some k → base ≤ k ∧ k < w.heap.size) := ho.lt
  have hnI : (L.length : Int) ≤ 100000000000000 := by omega
  have HAD : Hid (va = none ∧ L.length = 0 ∧ vc = 0 ∨ ∃ g, va = some ⟨g, 0, none⟩ ∧ base ≤ g ∧ g < w.heap.size) := h4
  have HB : Hid (base ≤ w.heap.size) := hb
  have HL : Hid (L.length ≤ 100000000000000) := hL
  have HXL : Hid ((L.map u8c).length = L.length) := by unfold Hid; simp
  have HDR : Hid ((L.map u8c).drop L.length = []) := by unfold Hid; exact List.drop_eq_nil_of_le (by simp)
  generalize L.map u8c = xs at *
  generalize L.length = n at *
  clear hA ho h2 h3 h4 hb hL
  go_enter Tryz.func34, Tryz.ntmps34
  go_wp2
  go_loopw [6] (fun i wr => ∃ k : Nat, k ≤ n ∧ i = .int .i64 k ∧ Hid (wr.ownsRow base 5 1 (.slice va n vc) n (patL (patB m) k ++ xs.drop k)) ∧ Hid (Frame (fun k => (Value.slice va n vc).ownBlock = some k) w wr) ∧ Hid (RowV wr w.heap.size 60 [.slice none 0 0, .slice none 0 0, .slice none 0 0, .slice none 0 0, .int .i64 0])) (fun i _ => n - (intOf i).toNat)
  case atStart => exact ⟨0, by omega, by simp, by unfold Hid; simpa [patL] using HO0.out, HFR0, HR0⟩
  case round =>
    obtain ⟨k, hk, rfl, HO, HF, HR⟩ := hrel
    by_cases hlt : k < n
    · have hltI : (k : Int) < n := by omega
      obtain ⟨g, hva, hbg, hgw⟩ : ∃ g, va = some ⟨g, 0, none⟩ ∧ base ≤ g ∧ g < w.heap.size := by
        rcases HAD.out with ⟨_, h0, _⟩ | h
        · omega
        · exact h
      subst hva
      have hc := World.ownsRow.cellAt HO.out k (by omega)
      have hkx : k < xs.length := by have := HXL.out; omega
      rw [List.getElem?_append_right (by rw [patL_length]; exact Nat.le_refl _), patL_length, Nat.sub_self, List.getElem?_drop, Nat.add_zero, List.getElem?_eq_getElem hkx] at hc
      have hf := World.ownsRow.frozenAt HO.out k
      have HO' : Hid ((wr.setCell ⟨g, k, none⟩ (patB m k)).ownsRow base 5 1 (.slice (some ⟨g, 0, none⟩) n vc) n (patL (patB m) (k + 1) ++ xs.drop (k + 1))) := by
        have := (World.ownsRow.stored HO.out k (patB m k)).1
        rw [pat_set _ _ _ hkx] at this
        exact this
      have HF' : Hid (Frame (fun k => (Value.slice (some ⟨g, 0, none⟩) n vc).ownBlock = some k) w (wr.setCell ⟨g, k, none⟩ (patB m k))) := HF.out.setCell (p := ⟨g, k, none⟩) rfl _
      have HR' : Hid (RowV (wr.setCell ⟨g, k, none⟩ (patB m k)) w.heap.size 60 [.slice none 0 0, .slice none 0 0, .slice none 0 0, .slice none 0 0, .int .i64 0]) := HR.out.other (by show w.heap.size ≠ g; omega) _
      unfold patB at HO' HF' HR'
      clear hbg hgw
      go_wp2
      refine ⟨⟨k + 1, by omega, by go_num, ?_, HF'.out, HR'.out⟩, by simp [intOf]; omega⟩
      exact HO'.out
    · obtain rfl : k = n := by omega
      have hltI : ¬ (k : Int) < k := by omega
      have HO1 : Hid (wr.ownsRow base 5 1 (.slice va k vc) k (patL (patB m) (k * 1))) := by
        have := HO.out
        rw [HDR.out, List.append_nil] at this
        unfold Hid; rw [Nat.mul_one]; exact this
      have H1 : Hid (∀ j, (patB m j).oneCell' = true) := fun j => rfl
      clear HO
      have HKR : Hid (∀ W W', RowV W w.heap.size 60 [.slice none 0 0, .slice none 0 0, .slice none 0 0, .slice none 0 0, .int .i64 0] → Frame (fun k_1 => (Value.slice va k vc).ownBlock = some k_1) W W' → RowV W' w.heap.size 60 [.slice none 0 0, .slice none 0 0, .slice none 0 0, .slice none 0 0, .int .i64 0]) := fun W W' h hf => h.of_block (hf.block _ h.lt (fun e => by have := (HVL.out _ e).2; omega))
      have HBW : Hid (base ≤ wr.heap.size) := Nat.le_trans HB.out HF.out.size
      go_wp2_with (first
        | (at_builtin; obtain ⟨ox1, sx1⟩ := mark_more 1 HO1.out; refine wp_appendPat (by rfl) (.tmp 23) (.tmp 25) 38 (by rfl) base 5 _ 1 1 Tryz.underlying38 Tryz.infoU8 rfl (by decide) (patB m) (.slice va k vc) k (by rfl) ox1 ⟨wr.heap.size, 0, none⟩ 1 1 (by rfl) sx1 H1.out (by decide) (by have := HL.out; unfold maxLen; omega) (by have := HL.out; omega) (by have := HBW.out; simp; omega) ?_; intro a2 c2 w2 ho2 hf2 hat2 hk2 hv2)
        | (at_builtin; obtain ⟨ox2, sx2⟩ := mark_more 2 hv2; refine wp_appendPat (by rfl) (.tmp 27) (.tmp 30) 38 (by rfl) base 5 _ 1 1 Tryz.underlying38 Tryz.infoU8 rfl (by decide) (patB m) (.slice va k vc) k (by rfl) ox2 ⟨w2.heap.size, 0, none⟩ 2 2 (by rfl) sx2 H1.out (by decide) (by have := HL.out; unfold maxLen; omega) (by have := HL.out; omega) (by have := (Nat.le_trans HBW.out (Nat.le_trans (by simp) hf2.size) : base ≤ w2.heap.size); simp; omega) ?_; intro a3 c3 w3 ho3 hf3 hat3 hk3 hv3)
        | (at_builtin; obtain ⟨ox3, sx3⟩ := mark_more 3 hv3; refine wp_appendPat (by rfl) (.tmp 32) (.tmp 36) 38 (by rfl) base 5 _ 1 1 Tryz.underlying38 Tryz.infoU8 rfl (by decide) (patB m) (.slice va k vc) k (by rfl) ox3 ⟨w3.heap.size, 0, none⟩ 3 3 (by rfl) sx3 H1.out (by decide) (by have := HL.out; unfold maxLen; omega) (by have := HL.out; omega) (by have := (Nat.le_trans HBW.out (Nat.le_trans (Nat.le_trans (by simp) hf2.size) (Nat.le_trans (by simp) hf3.size)) : base ≤ w3.heap.size); simp; omega) ?_; intro a4 c4 w4 ho4 hf4 hat4 hk4 hv4; have hR4 := HKR.out _ _ (RowV.alloc (HKR.out _ _ (RowV.alloc (HKR.out _ _ (RowV.alloc HR.out _) hf2) _) hf3) _) hf4)
        | (refine wp_storeR (by rfl) 60 (.tmp 4) (.tmp 43) (by rfl) w.heap.size (by rfl) [.slice va k vc, .slice a2 (k + 1) c2, .slice a3 (k + 2) c3, .slice a4 (k + 3) c4, .int .i64 (m : Int)] (by rfl) hR4 rfl Tryz.sizeBytes (fun u hu => bk_one hu) ?_; intro w5 hR5 hf5 hz5))
      have hwr := HR.out.lt
      have z2 := hf2.size
      have z3 := hf3.size
      have z4 := hf4.size
      simp only [World.size_alloc] at z2 z3 z4
      have hb2 : Below w2.heap.size w2 (w2.alloc (.cells #[Value.int .u8 ((m : Int) % 251), Value.int .u8 ((m : Int) % 251)] 5)) := (Below.refl _ _).alloc (Nat.le_refl _) _
      have hb3 : Below w3.heap.size w3 (w3.alloc (.cells #[Value.int .u8 ((m : Int) % 251), Value.int .u8 ((m : Int) % 251), Value.int .u8 ((m : Int) % 251)] 5)) := (Below.refl _ _).alloc (Nat.le_refl _) _
      have hbw : Below wr.heap.size wr (wr.alloc (.cells #[Value.int .u8 ((m : Int) % 251)] 5)) := (Below.refl _ _).alloc (Nat.le_refl _) _
      have k23 : PatKeep (patB m) w2 w3 := (PatKeep.below hb2).trans hk3 hb2.size
      have k34 : PatKeep (patB m) w3 w4 := (PatKeep.below hb3).trans hk4 hb3.size
      have k24 : PatKeep (patB m) w2 w4 := k23.trans k34 (by omega)
      have g1 : ∀ k_1, (Value.slice a2 (k + 1) c2).ownBlock = some k_1 → (Value.slice va k vc).ownBlock = some k_1 ∨ w.heap.size < k_1 := fun q hq => by
        rcases hat2 with e | e
        · exact Or.inl (by rw [← e]; exact hq)
        · rw [e] at hq; have := Option.some.inj hq; simp at this; exact Or.inr (by omega)
      have g2 : ∀ k_1, (Value.slice a3 (k + 2) c3).ownBlock = some k_1 → (Value.slice va k vc).ownBlock = some k_1 ∨ w.heap.size < k_1 := fun q hq => by
        rcases hat3 with e | e
        · exact Or.inl (by rw [← e]; exact hq)
        · rw [e] at hq; have := Option.some.inj hq; simp at this; exact Or.inr (by omega)
      have g3 : ∀ k_1, (Value.slice a4 (k + 3) c4).ownBlock = some k_1 → (Value.slice va k vc).ownBlock = some k_1 ∨ w.heap.size < k_1 := fun q hq => by
        rcases hat4 with e | e
        · exact Or.inl (by rw [← e]; exact hq)
        · rw [e] at hq; have := Option.some.inj hq; simp at this; exact Or.inr (by omega)
      have hne : ∀ q, ((Value.slice va k vc).ownBlock = some q ∨ w.heap.size < q) → ¬ q = w.heap.size := fun q hq e => by
        rcases hq with h | h
        · have := (HVL.out q h).2; omega
        · omega
      have hfw : Frame (fun k_1 => (Value.slice va k vc).ownBlock = some k_1) w w4 := (((((HF.out.alloc _).trans hf2).alloc _).trans hf3).alloc _).trans hf4
      have hl60 := HL.out
      refine ret_agg (k := 4) (cs := bkC ⟨⟨va, k, vc⟩, ⟨a2, k + 1, c2⟩, ⟨a3, k + 2, c3⟩, ⟨a4, k + 3, c4⟩⟩ m) rfl rfl hR5 Tryz.underlying60 rfl Tryz.sizeBytes rfl ⟨⟨⟨va, k, vc⟩, ⟨a2, k + 1, c2⟩, ⟨a3, k + 2, c3⟩, ⟨a4, k + 3, c4⟩⟩, rfl, ⟨?_, ?_, ?_, ?_, by simp only; omega, by simp only; omega, by simp only; omega, by simp only; omega, ?_⟩, ?_, ?_⟩
      · exact (PatSl.own (s := ⟨va, k, vc⟩) hv4).frame hf5 (fun q hq => hne q (Or.inl hq))
      · exact ((PatSl.own (s := ⟨a2, k + 1, c2⟩) ho2).keep k24 (by omega)).frame hf5 (fun q hq => hne q (g1 q hq))
      · exact ((PatSl.own (s := ⟨a3, k + 2, c3⟩) ho3).keep k34 (by omega)).frame hf5 (fun q hq => hne q (g2 q hq))
      · exact (PatSl.own (s := ⟨a4, k + 3, c4⟩) ho4).frame hf5 (fun q hq => hne q (g3 q hq))
      · intro q hq
        have z5 := hf5.size
        rcases hq with hq | hq | hq | hq
        · have := (hv4.lt q hq).2; omega
        · have := (ho2.lt q hq).2; omega
        · have := (ho3.lt q hq).2; omega
        · have := (ho4.lt q hq).2; omega
      · exact Frame.inside hfw hf5 (fun q hlt' e => by omega)
      · intro q hq
        rcases hq with hq | hq | hq | hq
        · exact Or.inl hq
        · exact g1 q hq
        · exact g2 q hq
        · exact g3 q hq
end Go.Proofs.YtekegfbjbainhaaGreat
