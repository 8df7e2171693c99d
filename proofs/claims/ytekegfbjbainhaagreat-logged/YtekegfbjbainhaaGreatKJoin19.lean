import Derived.Test.YtekegfbjbainhaaGreatKLog9
import Derived.BigQuiet
import Derived.Test.YtekegfbjbainhaaGreatKJoin1
import Derived.Test.YtekegfbjbainhaaGreatKRef10
import Derived.Test.YtekegfbjbainhaaGreatKJoin6
import Derived.Deep.RegionLaw
import Derived.Deep.DrawnRows
import Derived.Test.YtekegfbjbainhaaGreatKJoin15
import Derived.Test.YtekegfbjbainhaaGreatKJoin4
import Derived.Deep.RegionHeld3
import Derived.Deep.DeepCutAuto
import Derived.Test.YtekegfbjbainhaaGreatKJoin3
import Derived.BigRegion
import Derived.Test.YtekegfbjbainhaaGreatKJoin11
import Derived.Test.YtekegfbjbainhaaGreatKJoin14
import Derived.Deep.CutBlock
set_option linter.unusedVariables false
set_option linter.unusedSimpArgs false

namespace Go.Proofs.YtekegfbjbainhaaGreat
open Go.RowKit
attribute [local go_sem ↓] Go.wp_at_zero Go.wp_at_succ
theorem SlD.at {w : World} {a : Option Addr} {l : List (List UInt8)} (h : SlD w a l) (k : Nat) (hk : k < l.length) : ∃ b o, a = some ⟨b, o, none⟩ ∧ b < w.heap.size ∧ w.rangeAt b (o + k * 8) (l[k].map u8c) := by
 have hlen := digsC_length l h.2
 obtain ⟨b, o, ha, hb, _⟩ := h.1 (k * 8) (by omega)
 subst ha
 have hd := h.drop k (by omega)
 refine ⟨b, o, rfl, hb, fun j v hv => ?_⟩
 obtain ⟨hj, hv⟩ := List.getElem?_eq_some_iff.1 hv
 have h8 : l[k].length = 8 := h.2 _ (List.getElem_mem hk)
 have e : l.drop k = l[k] :: l.drop (k + 1) := List.drop_eq_getElem_cons hk
 rw [e] at hd
 have hj' : j < (digsC (l[k] :: l.drop (k + 1))).length := by
  rw [digsC_length _ hd.2]; simp at hj ⊢; omega
 obtain ⟨b', o', ha, hb', hc'⟩ := hd.1 j hj'
 cases ha
 rw [hc', ← hv]
 congr 1
 simp only [digsC, List.flatMap_cons]
 rw [List.getElem_append_left (by simpa using hj)]
set_option maxRecDepth 100000 in
set_option maxHeartbeats 1600000 in
theorem samePath_any (l : List (List UInt8)) (a b : Option Addr) (ca cb : Nat) (w : World) (hA : SlD w a l) (hB : SlD w b l) (hl : l.length ≤ 9223372036854775807) :
  Calls Tryz.prog 52 #[.slice a l.length ca, .slice b l.length cb] w fun e w' => e = .returned (.bool true) ∧ ∃ m, w' = w.drewN m := by
 have hlI : (l.length : Int) ≤ 9223372036854775807 := by omega
 have hne : ((l.length : Int) != (l.length : Int)) = false := by simp
 go_enter Tryz.func52, Tryz.ntmps52
 go_wp2
 go_loopw [5] (fun i wr => ∃ (k m : Nat), k ≤ l.length ∧ i = .int .i64 k ∧ wr = w.drewN m) (fun i _ => l.length - (intOf i).toNat)
 case atStart => exact ⟨0, 0, by omega, by simp, rfl⟩
 case round =>
  obtain ⟨k, m, hk, rfl, rfl⟩ := hrel
  by_cases hlt : k < l.length
  ·obtain ⟨b1, o1, rfl, hb1, hr1⟩ := hA.at k hlt
   obtain ⟨b2, o2, rfl, hb2, hr2⟩ := hB.at k hlt
   obtain ⟨x0, x1, x2, x3, x4, x5, x6, x7, hx⟩ := list8 l[k] (hA.2 _ (List.getElem_mem hlt))
   rw [hx] at hr1 hr2
   have heq : ∀ W, (Op.equalIn 10000 36 (.agg #[Value.int .u8 (x0.toNat : Int), Value.int .u8 (x1.toNat : Int), Value.int .u8 (x2.toNat : Int), Value.int .u8 (x3.toNat : Int), Value.int .u8 (x4.toNat : Int), Value.int .u8 (x5.toNat : Int), Value.int .u8 (x6.toNat : Int), Value.int .u8 (x7.toNat : Int)]) (.agg #[Value.int .u8 (x0.toNat : Int), Value.int .u8 (x1.toNat : Int), Value.int .u8 (x2.toNat : Int), Value.int .u8 (x3.toNat : Int), Value.int .u8 (x4.toNat : Int), Value.int .u8 (x5.toNat : Int), Value.int .u8 (x6.toNat : Int), Value.int .u8 (x7.toNat : Int)])).run Tryz.prog W = .ok true W := fun W => by
    have h := eqD_run x0 x1 x2 x3 x4 x5 x6 x7 x0 x1 x2 x3 x4 x5 x6 x7 W
    rw [beq_self_eq_true] at h
    exact h
   have hkI : (k : Int) < l.length := by omega
   have p0 : w.cell? ⟨b1, o1 + k * 8, none⟩ = some (.int .u8 (x0.toNat : Int)) := hr1 0 _ rfl
   have q0 : w.cell? ⟨b2, o2 + k * 8, none⟩ = some (.int .u8 (x0.toNat : Int)) := hr2 0 _ rfl
   have p1 : w.cell? ⟨b1, o1 + k * 8 + 1, none⟩ = some (.int .u8 (x1.toNat : Int)) := hr1 1 _ rfl
   have q1 : w.cell? ⟨b2, o2 + k * 8 + 1, none⟩ = some (.int .u8 (x1.toNat : Int)) := hr2 1 _ rfl
   have p2 : w.cell? ⟨b1, o1 + k * 8 + 2, none⟩ = some (.int .u8 (x2.toNat : Int)) := hr1 2 _ rfl
   have q2 : w.cell? ⟨b2, o2 + k * 8 + 2, none⟩ = some (.int .u8 (x2.toNat : Int)) := hr2 2 _ rfl
   have p3 : w.cell? ⟨b1, o1 + k * 8 + 3, none⟩ = some (.int .u8 (x3.toNat : Int)) := hr1 3 _ rfl
   have q3 : w.cell? ⟨b2, o2 + k * 8 + 3, none⟩ = some (.int .u8 (x3.toNat : Int)) := hr2 3 _ rfl
   have p4 : w.cell? ⟨b1, o1 + k * 8 + 4, none⟩ = some (.int .u8 (x4.toNat : Int)) := hr1 4 _ rfl
   have q4 : w.cell? ⟨b2, o2 + k * 8 + 4, none⟩ = some (.int .u8 (x4.toNat : Int)) := hr2 4 _ rfl
   have p5 : w.cell? ⟨b1, o1 + k * 8 + 5, none⟩ = some (.int .u8 (x5.toNat : Int)) := hr1 5 _ rfl
   have q5 : w.cell? ⟨b2, o2 + k * 8 + 5, none⟩ = some (.int .u8 (x5.toNat : Int)) := hr2 5 _ rfl
   have p6 : w.cell? ⟨b1, o1 + k * 8 + 6, none⟩ = some (.int .u8 (x6.toNat : Int)) := hr1 6 _ rfl
   have q6 : w.cell? ⟨b2, o2 + k * 8 + 6, none⟩ = some (.int .u8 (x6.toNat : Int)) := hr2 6 _ rfl
   have p7 : w.cell? ⟨b1, o1 + k * 8 + 7, none⟩ = some (.int .u8 (x7.toNat : Int)) := hr1 7 _ rfl
   have q7 : w.cell? ⟨b2, o2 + k * 8 + 7, none⟩ = some (.int .u8 (x7.toNat : Int)) := hr2 7 _ rfl
   clear hr1 hr2 hx
   go_wp2
   go_quiet (fail)
   go_wp2
   refine ⟨⟨k + 1, m + nq, by omega, by go_num, rfl⟩, by simp [intOf]; omega⟩
  ·have hge : ¬ (k : Int) < l.length := by omega
   go_wp2
   go_ret
   exact ⟨rfl, m, rfl⟩
end Go.Proofs.YtekegfbjbainhaaGreat


namespace Go.Proofs.YtekegfbjbainhaaGreat
open Go.RowKit
def patL (pat : Nat → Value) (k : Nat) : List Value := (List.range k).map pat
theorem patL_length (pat : Nat → Value) (k : Nat) : (patL pat k).length = k := by simp [patL]
theorem patL_get (pat : Nat → Value) (k j : Nat) (h : j < k) : (patL pat k)[j]? = some (pat j) := by simp [patL, h]
theorem patL_add (pat : Nat → Value) (a b : Nat) : patL pat (a + b) = patL pat a ++ patL (fun j => pat (a + j)) b := by
 unfold patL
 rw [List.range_add, List.map_append, List.map_map]; rfl
def PatKeep (pat : Nat → Value) (w w' : World) : Prop := ∀ b j, b < w.heap.size → w.cell? ⟨b, j, none⟩ = some (pat j) → w'.cell? ⟨b, j, none⟩ = some (pat j)
theorem PatKeep.trans {pat : Nat → Value} {a b c : World} (h : PatKeep pat a b) (k : PatKeep pat b c) (hs : a.heap.size ≤ b.heap.size) : PatKeep pat a c := fun g j hg hc => k g j (by omega) (h g j hg hc)
theorem PatKeep.below {pat : Nat → Value} {w w' : World} (h : Below w.heap.size w w') : PatKeep pat w w' := fun b j hb hc => by rw [h.cell (p := ⟨b, j, none⟩) hb]; exact hc
theorem run_appendP {P : Program} (w : World) (base : Nat) (t ty e : TypeId) (i : TypeInfo) (z : Value) (size bytes : Nat) (ht : P.underlying t = some (.slice e)) (hi : P.info? e = some i) (hz : i.zero = some z)
  (hsize : i.size = size) (hby : i.bytes = bytes) (hzs : z.cells.size = size) (hsz : 0 < size) (pat : Nat → Value) (v : Value) (n : Nat) (hown : w.ownsRow base e size v n (patL pat (n * size)))
  (a : Addr) (m c : Nat) (hnews : ∀ j u, (patL (fun j => pat (n * size + j)) (m * size))[j]? = some u → w.cell? (a.add j) = some u) (h1 : ∀ j, (pat j).oneCell' = true) (hm : 0 < m)
  (h63 : n + m ≤ maxLen) (hbytes : (n + m) * bytes ≤ 140737488355328) (hbase : base ≤ w.heap.size) :
  ∃ v' w', (Builtin.append_ #[t, t] ty #[v, .slice (some a) m c]).run P w = .ok v' w' ∧ w'.ownsRow base e size v' (n + m) (patL pat ((n + m) * size)) ∧ Frame (fun k => v.ownBlock = some k) w w' ∧ (v'.ownBlock = v.ownBlock ∨ v'.ownBlock = some w.heap.size) ∧ PatKeep pat w w' ∧ w'.ownsRow base e size v n (patL pat (n * size)) := by
 subst hsize
 subst hby
 have hsmall : n + m ≤ 9223372036854775807 := by simp only [maxLen] at h63; omega
 have hadd : patL pat ((n + m) * i.size) = patL pat (n * i.size) ++ patL (fun j => pat (n * i.size + j)) (m * i.size) := by rw [Nat.add_mul, patL_add]
 generalize hnw : patL (fun j => pat (n * i.size + j)) (m * i.size) = news at *
 have hl : news.length = m * i.size := by rw [← hnw, patL_length]
 have h1n : ∀ u ∈ news, u.oneCell' = true := fun u hu => by
  rw [← hnw] at hu
  obtain ⟨j, _, rfl⟩ := List.mem_map.1 hu
  exact h1 _
 have hlen : (patL pat (n * i.size) ++ news).length = (n + m) * i.size := by rw [List.length_append, patL_length, hl, Nat.add_mul]
 have grown : ∀ (old : Nat), old < n + m → ∀ (row : Option Nat),
   (w.drew.alloc (.cells ((patL pat (n * i.size)).toArray ++ news.toArray ++ Builtin.zeroCells z.cells (grownCap w (n + m) old e - (n + m))) e)).ownsRow base e i.size
    (.slice (some ⟨w.heap.size, 0, none⟩) (n + m) (grownCap w (n + m) old e)) (n + m) (patL pat (n * i.size) ++ news) ∧
   Below w.heap.size w (w.drew.alloc (.cells ((patL pat (n * i.size)).toArray ++ news.toArray ++ Builtin.zeroCells z.cells (grownCap w (n + m) old e - (n + m))) e)) := by
  intro old ho row
  have hge := grownCap_ge w (n + m) old e
  have hcm : grownCap w (n + m) old e ≤ maxLen := grownCap_le_maxLen w (n + m) old e h63
  refine ⟨⟨hlen, .inr ⟨w.heap.size, _, _, rfl, hbase, heap_alloc_new w.drew _, hge, hcm, ?_, ?_⟩⟩, ⟨rfl, rfl, rfl, by simp, fun k hk => Below.heap_alloc w.drew _ k hk⟩⟩
  ·simp only [Array.size_append, List.size_toArray, size_zeroCells, hzs, patL_length, hl, ← Nat.add_mul]
   congr 1
   omega
  ·simp only [Array.toList_append, List.append_assoc]
   rw [← List.append_assoc, ← hlen]
   exact List.take_left
 rw [hadd]
 rcases hown.2 with ⟨rfl, rfl⟩ | ⟨g, cap, cur, rfl, hbg, hg, hnc, hcm, hcs, htake⟩
 ·have hr := run_append_nil (P := P) w t ty e i z ht hi hz a m c news hl hnews (by omega) (by omega) (by have hb := hbytes; simp only [Nat.zero_add] at hb; omega)
  have hgr := grown 0 (by omega) none
  have e0 : patL pat (0 * i.size) = [] := by simp [patL]
  rw [e0] at hgr hown ⊢
  simp only [Nat.zero_add, List.nil_append, Array.empty_append] at hgr ⊢
  exact ⟨_, _, hr, hgr.1, Frame.of_below_all hgr.2, Or.inr rfl, PatKeep.below hgr.2, World.ownsRow_nil _ _ _ _⟩
 ·by_cases hroom : n + m ≤ cap
  ·have hfit : n * i.size + news.length ≤ cur.size := by rw [hl, hcs, ← Nat.add_mul]; exact Nat.mul_le_mul_right _ hroom
   have hr := run_append_room (P := P) w t ty e i ht hi g n cap cur hg a m c news hl hnews h1n hroom hfit
   have hh := setRow_heap w g cur (cur.toList.take (n * i.size) ++ news ++ cur.toList.drop (n * i.size + news.length)).toArray e _ hg
   have hcl : (cur.toList.take (n * i.size) ++ news ++ cur.toList.drop (n * i.size + news.length)).length = cap * i.size := by
    simp only [List.length_append, List.length_take, List.length_drop, Array.length_toList]
    omega
   refine ⟨_, _, hr, ⟨hlen, .inr ⟨g, cap, _, rfl, hbg, hh, hroom, hcm, ?_, ?_⟩⟩, ⟨rfl, rfl, rfl, by simp, fun k _ hk => setRow_other w g k _ (fun e => hk (by simp [Value.ownBlock, e]))⟩, Or.inl rfl, ?_, ⟨hown.1, .inr ⟨g, cap, _, rfl, hbg, hh, hnc, hcm, ?_, ?_⟩⟩⟩
   ·rw [List.size_toArray]; exact hcl
   ·rw [htake, ← hlen]
    exact List.take_left
   ·intro b j hb hc
    by_cases hbg' : b = g
    ·subst hbg'
     rw [cell_setRow_same w b j cur _ e _ hg]
     have hc2 : cur[j]? = some (pat j) := by
      rw [← hc]
      simp [World.cell?, hg]
     rw [List.getElem?_toArray]
     have hjc : j < cur.size := (Array.getElem?_eq_some_iff.1 hc2).1
     rw [htake]
     by_cases hj1 : j < n * i.size
     ·rw [List.append_assoc, List.getElem?_append_left (by rw [patL_length]; exact hj1)]
      exact patL_get pat _ j hj1
     ·by_cases hj2 : j < n * i.size + news.length
      ·rw [List.getElem?_append_left (by rw [List.length_append, patL_length]; exact hj2), List.getElem?_append_right (by rw [patL_length]; omega), patL_length, ← hnw, patL_get _ _ _ (by rw [hl] at hj2; omega)]
       rw [show n * i.size + (j - n * i.size) = j by omega]
      ·rw [List.getElem?_append_right (by rw [List.length_append, patL_length]; omega), List.length_append, patL_length, List.getElem?_drop, show n * i.size + news.length + (j - (n * i.size + news.length)) = j by omega]
       rw [Array.getElem?_toList]; exact hc2
    ·rw [cell_setRow_other w g _ ⟨b, j, none⟩ hbg']; exact hc
   ·rw [List.size_toArray]; exact hcl
   ·rw [htake, List.append_assoc]
    have := List.take_left (l₁ := patL pat (n * i.size)) (l₂ := news ++ cur.toList.drop (n * i.size + news.length))
    rw [patL_length] at this
    exact this
  ·have holds : ∀ j u, (patL pat (n * i.size))[j]? = some u → w.cell? ((⟨g, 0, none⟩ : Addr).add j) = some u := hown.cells (g := g) rfl
   have hr := run_append_grow (P := P) w t ty e i z ht hi hz ⟨g, 0, none⟩ n cap (patL pat (n * i.size)) hown.1 holds a m c news hl hnews (by omega) (by omega) (growslice_fits (by omega) hbytes)
   have hgr := grown cap (by omega) none
   exact ⟨_, _, hr, hgr.1, Frame.of_below_all hgr.2, Or.inr rfl, PatKeep.below hgr.2, owns_below hown hgr.2⟩
theorem wp_appendPat {P : Program} {w : World} {ops : Array Oper} {rest : List Oper} {o : Oper} {a : Act} {Q : Exit → Act → World → Prop} (hgd : o.guard = none) (s x : Operand) (t : TypeId)
  (ho : o.op = .call { callee := .builtin .append, args := #[s, x], argTypes := #[t, t] })
  (base : Nat) (e : TypeId) (z : Value) (size bytes : Nat) (ht : P.underlying t = some (.slice e)) (hi : (P.info? e).map (fun i => (i.zero, i.size, i.bytes)) = some (some z, size, bytes)) (hzs : z.cells.size = size) (hsz : 0 < size)
  (pat : Nat → Value) (v : Value) (n : Nat) (hs : a.eval s = v) (hown : w.ownsRow base e size v n (patL pat (n * size)))
  (ad : Addr) (m c : Nat) (hx : a.eval x = .slice (some ad) m c) (hnews : SlV w (some ad) (patL (fun j => pat (n * size + j)) (m * size))) (h1 : ∀ j, (pat j).oneCell' = true) (hm : 0 < m)
  (h63 : n + m ≤ maxLen) (hbytes : (n + m) * bytes ≤ 140737488355328) (hbase : base ≤ w.heap.size)
  (h : ∀ a' c' w', w'.ownsRow base e size (.slice a' (n + m) c') (n + m) (patL pat ((n + m) * size)) → Frame (fun k => v.ownBlock = some k) w w' → ((Value.slice a' (n + m) c').ownBlock = v.ownBlock ∨ (Value.slice a' (n + m) c').ownBlock = some w.heap.size) → PatKeep pat w w' → w'.ownsRow base e size v n (patL pat (n * size)) → wpList P ops Q rest (a.put o.dst (.slice a' (n + m) c')) w') :
  wpList P ops Q (o :: rest) a w := by
 obtain ⟨i, hi0, hz, hsize, hby⟩ := info_parts hi
 obtain ⟨v', w', hr, h2, h3, h4, h5, h6⟩ := run_appendP (P := P) w base t o.type e i z size bytes ht hi0 hz hsize hby hzs hsz pat v n hown ad m c (fun j u hj => by
  obtain ⟨hj1, hj2⟩ := List.getElem?_eq_some_iff.1 hj
  obtain ⟨b, k, ha, _, hc⟩ := hnews j hj1
  cases ha
  rw [addr_add, hc, hj2]) h1 hm h63 hbytes hbase
 obtain ⟨a', c', rfl, _⟩ := owns_form h2
 refine wpList_plain hgd fun K hK => ?_
 unfold Oper.wp execOp
 simp only [ho, resolve, invoke, builtin, Sem.run_bind, Sem.run_pure, Result.andThen_ok, List.map_toArray, List.map_cons, List.map_nil, hs, hx, hr]
 exact hK _ _ (h a' c' w' h2 h3 h4 h5 h6)
end Go.Proofs.YtekegfbjbainhaaGreat


namespace Go.Proofs.YtekegfbjbainhaaGreat
open Go.RowKit
def PatSl (w : World) (pat : Nat → Value) (size : Nat) (s : SlR) : Prop := ∀ j, j < s.n * size → ∃ g, s.a = some ⟨g, 0, none⟩ ∧ g < w.heap.size ∧ w.cell? ⟨g, j, none⟩ = some (pat j)
theorem PatSl.keep {w w' : World} {pat : Nat → Value} {size : Nat} {s : SlR} (h : PatSl w pat size s) (hk : PatKeep pat w w') (hz : w.heap.size ≤ w'.heap.size) : PatSl w' pat size s := fun j hj => by
 obtain ⟨g, h1, h2, h3⟩ := h j hj
 exact ⟨g, h1, by omega, hk g j h2 h3⟩
theorem PatSl.frame {w w' : World} {S : Nat → Prop} {pat : Nat → Value} {size : Nat} {s : SlR} (h : PatSl w pat size s) (hf : Frame S w w') (hS : ∀ k, s.val.ownBlock = some k → ¬ S k) : PatSl w' pat size s := fun j hj => by
 obtain ⟨g, h1, h2, h3⟩ := h j hj
 refine ⟨g, h1, Nat.lt_of_lt_of_le h2 hf.size, ?_⟩
 rw [World.cell?_of_block (w := w) (w' := w') (a := ⟨g, j, none⟩) (hf.block g h2 (hS g (by unfold SlR.val; rw [h1]; rfl)))]
 exact h3
theorem PatSl.own {w : World} {pat : Nat → Value} {base e size n : Nat} {s : SlR} (h : w.ownsRow base e size s.val n (patL pat (n * size))) : PatSl w pat size s := fun j hj => by
 have hn := (owns_cap (a := s.a) (n' := s.n) (cap := s.cap) h).1
 obtain ⟨hs, _⟩ := SlV.ofOwn (s := s) h
 obtain ⟨b, o, ha, hb, hc⟩ := hs j (by rw [patL_length, ← hn]; exact hj)
 rcases (owns_cap (a := s.a) (n' := s.n) (cap := s.cap) h).2.2.2 with ⟨e1, _⟩ | ⟨g, e1, _, _⟩
 ·rw [ha] at e1; cases e1
 ·rw [ha] at e1
  cases e1
  refine ⟨b, ha, hb, ?_⟩
  rw [Nat.zero_add] at hc
  rw [hc]
  simp [patL]
def patB (m : Nat) : Nat → Value := fun _ => .int .u8 ((m : Int) % 251)
set_option maxRecDepth 100000 in
set_option maxHeartbeats 400000 in
theorem allBytes_any (s : SlR) (m : Nat) (w : World) (h : PatSl w (patB m) 1 s) (hn : s.n ≤ 140737488355328) (hm : m ≤ 140737488355328) :
  Calls Tryz.prog 57 #[s.val, .int .i64 (m : Int)] w fun e w' => e = .returned (.bool true) ∧ w' = w := by
 have hmI : (m : Int) ≤ 140737488355328 := by omega
 have hnI : (s.n : Int) ≤ 140737488355328 := by omega
 have HP : Hid (PatSl w (patB m) 1 s) := h
 clear h
 unfold SlR.val
 go_enter Tryz.func57, Tryz.ntmps57
 go_wp2
 go_loop [5] (fun i => ∃ k : Nat, k ≤ s.n ∧ i = .int .i64 k) (fun i => s.n - (intOf i).toNat)
 case atStart => exact ⟨0, by omega, rfl⟩
 case round =>
  obtain ⟨k, hk, rfl⟩ := hrel
  by_cases hlt : k < s.n
  ·have hltI : (k : Int) < s.n := by omega
   obtain ⟨g, ha, hg, hc⟩ := HP.out k (by omega)
   have hc' : w.cell? ⟨g, k, none⟩ = some (.int .u8 ((m : Int) % 251)) := hc
   rw [ha]
   clear hc
   go_wp2
   go_round
   case rel => exact ⟨k + 1, by omega, by go_num⟩
   case measure => simp [intOf]; omega
  ·have hltI : ¬ (k : Int) < s.n := by omega
   go_wp2
   go_ret
   exact ⟨rfl, rfl⟩
structure BkR where
 l : SlR
 one : SlR
 two : SlR
 three : SlR
def bkC (r : BkR) (m : Nat) : List Value := [r.l.val, r.one.val, r.two.val, r.three.val, .int .i64 (m : Int)]
def bkF (r : BkR) (k : Nat) : Prop := r.l.val.ownBlock = some k ∨ r.one.val.ownBlock = some k ∨ r.two.val.ownBlock = some k ∨ r.three.val.ownBlock = some k
structure BkOk (w : World) (pat : Nat → Value) (size : Nat) (r : BkR) : Prop where
 l : PatSl w pat size r.l
 one : PatSl w pat size r.one
 two : PatSl w pat size r.two
 three : PatSl w pat size r.three
 nl : r.l.n ≤ 100000000000010
 n1 : r.one.n ≤ 100000000000010
 n2 : r.two.n ≤ 100000000000010
 n3 : r.three.n ≤ 100000000000010
 lt : ∀ k, bkF r k → k < w.heap.size
theorem BkOk.frame {w w' : World} {S : Nat → Prop} {pat : Nat → Value} {size : Nat} {r : BkR} (h : BkOk w pat size r) (hf : Frame S w w') (hS : ∀ k, bkF r k → ¬ S k) : BkOk w' pat size r :=
 ⟨h.l.frame hf (fun k hk => hS k (Or.inl hk)), h.one.frame hf (fun k hk => hS k (Or.inr (Or.inl hk))), h.two.frame hf (fun k hk => hS k (Or.inr (Or.inr (Or.inl hk)))), h.three.frame hf (fun k hk => hS k (Or.inr (Or.inr (Or.inr hk)))), h.nl, h.n1, h.n2, h.n3, fun k hk => Nat.lt_of_lt_of_le (h.lt k hk) hf.size⟩
theorem BkOk.below {w w' : World} {pat : Nat → Value} {size : Nat} {r : BkR} (h : BkOk w pat size r) (hb : Below w.heap.size w w') : BkOk w' pat size r := h.frame (Frame.of_below_all (S := fun _ => False) hb) (fun _ _ e => e)
set_option maxRecDepth 100000 in
set_option maxHeartbeats 1000000 in
theorem still_any (r : BkR) (m : Nat) (w : World) (h : BkOk w (patB m) 1 r) (hm : m ≤ 140737488355328) :
  Calls Tryz.prog 24 #[.agg (bkC r m).toArray] w fun e w' => e = .returned (.bool true) ∧ Below w.heap.size w w' := by
 have hb : Below w.heap.size w (w.alloc (.cells #[.slice r.l.a r.l.n r.l.cap, .slice r.one.a r.one.n r.one.cap, .slice r.two.a r.two.n r.two.cap, .slice r.three.a r.three.n r.three.cap, .int .i64 (m : Int)] 60)) := (Below.refl _ _).alloc (Nat.le_refl _) _
 have h' := h.below hb
 have H1 : Hid (Calls _ _ _ _ _) := allBytes_any r.l m _ h'.l (by have := h.nl; omega) hm
 have H2 : Hid (Calls _ _ _ _ _) := allBytes_any r.one m _ h'.one (by have := h.n1; omega) hm
 have H3 : Hid (Calls _ _ _ _ _) := allBytes_any r.two m _ h'.two (by have := h.n2; omega) hm
 have H4 : Hid (Calls _ _ _ _ _) := allBytes_any r.three m _ h'.three (by have := h.n3; omega) hm
 clear h h' hb
 unfold bkC
 unfold SlR.val at H1 H2 H3 H4 ⊢
 go_enter Tryz.func24, Tryz.ntmps24
 go_wp2_with fail
 refine H1.out.mono ?_
 rintro e w1 ⟨rfl, rfl⟩
 go_wp2_with fail
 refine H2.out.mono ?_
 rintro e w1 ⟨rfl, rfl⟩
 go_wp2_with fail
 refine H3.out.mono ?_
 rintro e w1 ⟨rfl, rfl⟩
 go_wp2_with fail
 refine H4.out.mono ?_
 rintro e w1 ⟨rfl, rfl⟩
 go_wp2
 go_ret
 exact ⟨rfl, by go_grown⟩
end Go.Proofs.YtekegfbjbainhaaGreat


namespace Go.Proofs.YtekegfbjbainhaaGreat
open Go.RowKit
theorem Tryz.sizeBytes : (Tryz.prog.info? 60).map (·.size) = some 5 := by kernel_rfl
theorem pat_set (pat : Nat → Value) (xs : List Value) (k : Nat) (h : k < xs.length) : (patL pat k ++ xs.drop k).set k (pat k) = patL pat (k + 1) ++ xs.drop (k + 1) := by
 rw [List.set_append_right _ _ (by rw [patL_length]; exact Nat.le_refl _), patL_length, Nat.sub_self, List.drop_eq_getElem_cons h, List.set_cons_zero, patL_add]
 simp [patL]
theorem bk_one {a b c d : Option Addr} {n1 n2 n3 n4 c1 c2 c3 c4 : Nat} {x : Int} {u : Value} (hu : u ∈ [Value.slice a n1 c1, .slice b n2 c2, .slice c n3 c3, .slice d n4 c4, .int .i64 x]) : u.oneCell' = true := by
 simp only [List.mem_cons, List.not_mem_nil, or_false] at hu
 rcases hu with rfl | rfl | rfl | rfl | rfl <;> rfl
end Go.Proofs.YtekegfbjbainhaaGreat


namespace Go.Proofs.YtekegfbjbainhaaGreat
open Go.RowKit
def bksF : Nat → List BkR → List Value
 | _, [] => []
 | i, r :: rs => bkC r i ++ bksF (i + 1) rs
theorem bksF_length : ∀ (i : Nat) (rs : List BkR), (bksF i rs).length = rs.length * 5
 | _, [] => rfl
 | i, r :: rs => by simp [bksF, bksF_length (i + 1) rs, bkC]; omega
theorem bksF_snoc : ∀ (i : Nat) (rs : List BkR) (r : BkR), bksF i (rs ++ [r]) = bksF i rs ++ bkC r (i + rs.length)
 | i, [], r => by simp [bksF]
 | i, x :: rs, r => by
  have := bksF_snoc (i + 1) rs r
  simp only [List.cons_append, bksF, this, List.append_assoc, List.length_cons]
  rw [show i + 1 + rs.length = i + (rs.length + 1) by omega]
theorem bksF_get : ∀ (i : Nat) (rs : List BkR) (k : Nat) (h : k < rs.length) (j : Nat), j < 5 → (bksF i rs)[k * 5 + j]? = (bkC rs[k] (i + k))[j]?
 | i, [], k, h, j, hj => absurd h (Nat.not_lt_zero _)
 | i, r :: rs, 0, h, j, hj => by
  simp only [bksF, Nat.zero_mul, Nat.zero_add, Nat.add_zero, List.getElem_cons_zero]
  rw [List.getElem?_append_left (by simpa [bkC] using hj)]
 | i, r :: rs, k + 1, h, j, hj => by
  have := bksF_get (i + 1) rs k (by simpa using h) j hj
  simp only [bksF, List.getElem_cons_succ]
  rw [List.getElem?_append_right (by simp [bkC]; omega)]
  rw [show (k + 1) * 5 + j - (bkC r i).length = k * 5 + j by simp [bkC]; omega, this, show i + 1 + k = i + (k + 1) by omega]
structure BkAt (w : World) (bs : SlR) (rs : List BkR) : Prop where
 own : w.ownsRow 0 60 5 bs.val rs.length (bksF 0 rs)
 ok : ∀ i (h : i < rs.length), BkOk w (patB i) 1 rs[i]
 apart : ∀ r ∈ rs, ∀ k, bkF r k → bs.val.ownBlock ≠ some k
def bookF (bs : SlR) (rs : List BkR) (k : Nat) : Prop := bs.val.ownBlock = some k ∨ ∃ r ∈ rs, bkF r k
theorem BkAt.frame {w w' : World} {S : Nat → Prop} {bs : SlR} {rs : List BkR} (h : BkAt w bs rs) (hf : Frame S w w') (hS : ∀ k, bookF bs rs k → ¬ S k) : BkAt w' bs rs :=
 ⟨owns_frame h.own hf (fun k hk => hS k (Or.inl hk)), fun i hi => (h.ok i hi).frame hf (fun k hk => hS k (Or.inr ⟨rs[i], List.getElem_mem hi, hk⟩)), h.apart⟩
theorem BkAt.lt {w : World} {bs : SlR} {rs : List BkR} (h : BkAt w bs rs) : ∀ k, bookF bs rs k → k < w.heap.size := fun k hk => by
 rcases hk with hk | ⟨r, hr, hk⟩
 ·exact (h.own.lt k hk).2
 ·obtain ⟨i, hi, rfl⟩ := List.getElem_of_mem hr
  exact (h.ok i hi).lt k hk
theorem BkAt.nil (w : World) : BkAt w ⟨none, 0, 0⟩ [] := ⟨World.ownsRow_nil _ _ _ _, fun i h => absurd h (Nat.not_lt_zero _), fun r hr => (by cases hr)⟩
attribute [local go_sem ↓] Go.wp_at_zero Go.wp_at_succ
end Go.Proofs.YtekegfbjbainhaaGreat


namespace Go.Proofs.YtekegfbjbainhaaGreat
open Go.RowKit
end Go.Proofs.YtekegfbjbainhaaGreat


namespace Go.Proofs.YtekegfbjbainhaaGreat
open Go.RowKit
end Go.Proofs.YtekegfbjbainhaaGreat


namespace Go.Proofs.YtekegfbjbainhaaGreat
open Go.RowKit
end Go.Proofs.YtekegfbjbainhaaGreat


namespace Go.Proofs.YtekegfbjbainhaaGreat
open Go.RowKit
attribute [local go_sem ↓] Go.wp_at_zero Go.wp_at_succ
end Go.Proofs.YtekegfbjbainhaaGreat


namespace Go.Proofs.YtekegfbjbainhaaGreat
open Go.RowKit
attribute [local go_sem ↓] Go.wp_at_zero Go.wp_at_succ
end Go.Proofs.YtekegfbjbainhaaGreat


namespace Go.Proofs.YtekegfbjbainhaaGreat
open Go.RowKit
end Go.Proofs.YtekegfbjbainhaaGreat


namespace Go.Proofs.YtekegfbjbainhaaGreat
open Go.RowKit
end Go.Proofs.YtekegfbjbainhaaGreat


namespace Go.Proofs.YtekegfbjbainhaaGreat
open Go.RowKit
end Go.Proofs.YtekegfbjbainhaaGreat


namespace Go.Proofs.YtekegfbjbainhaaGreat
open Go.RowKit
end Go.Proofs.YtekegfbjbainhaaGreat


namespace Go.Proofs.YtekegfbjbainhaaGreat
open Go.RowKit
end Go.Proofs.YtekegfbjbainhaaGreat


namespace Go.Proofs.YtekegfbjbainhaaGreat
open Go.RowKit
attribute [local go_sem ↓] Go.wp_at_zero Go.wp_at_succ
end Go.Proofs.YtekegfbjbainhaaGreat


namespace Go.Proofs.YtekegfbjbainhaaGreat
open Go.RowKit
attribute [local go_sem ↓] Go.wp_at_zero Go.wp_at_succ
end Go.Proofs.YtekegfbjbainhaaGreat


namespace Go.Proofs.YtekegfbjbainhaaGreat
open Go.RowKit
end Go.Proofs.YtekegfbjbainhaaGreat


namespace Go.Proofs.YtekegfbjbainhaaGreat
open Go.RowKit
end Go.Proofs.YtekegfbjbainhaaGreat


namespace Go.Proofs.YtekegfbjbainhaaGreat
open Go.RowKit
end Go.Proofs.YtekegfbjbainhaaGreat


namespace Go.Proofs.YtekegfbjbainhaaGreat
open Go.RowKit
end Go.Proofs.YtekegfbjbainhaaGreat


namespace Go.Proofs.YtekegfbjbainhaaGreat
open Go.RowKit
attribute [local go_sem ↓] Go.wp_at_zero Go.wp_at_succ
end Go.Proofs.YtekegfbjbainhaaGreat


namespace Go.Proofs.YtekegfbjbainhaaGreat
open Go.RowKit
end Go.Proofs.YtekegfbjbainhaaGreat
