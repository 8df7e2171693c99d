import Derived.Test.YtekegfbjbainhaaKJoin2
import Derived.Deep.DrawnRows
import Derived.Lib.Bytealg
set_option linter.unusedVariables false
set_option linter.unusedSimpArgs false

namespace Go.Proofs.Ytekegfbjbainhaa
open Go.RowKit
attribute [local go_sem ↓] Go.wp_at_zero Go.wp_at_succ
def KeepD (w : World) (b : Nat) (W : World) : Prop := Below w.heap.size w W ∧ RowV W b 45 z8
theorem KeepD.start (w : World) : KeepD w w.heap.size (resD w) := ⟨(Below.refl _ _).alloc (Nat.le_refl _) _, resD_row w⟩
theorem KeepD.drew {w W : World} {b : Nat} (h : KeepD w b W) : KeepD w b W.drew := ⟨h.1.drew, h.2⟩
theorem KeepD.next {w W W' : World} {b : Nat} (h : KeepD w b W) (hb : Below W.heap.size W W') : KeepD w b W' := ⟨h.1.trans (hb.mono h.1.size), h.2.below h.2.lt hb⟩
theorem SlV.sub {w : World} {b o k n : Nat} {cs ds : List Value} (h : SlV w (some ⟨b, o, none⟩) cs) (hd : ∀ i (hi : i < ds.length), cs[k + i]? = some ds[i]) : SlV w (some ⟨b, o + k, none⟩) ds := fun i hi => by
 obtain ⟨h1, h2⟩ := List.getElem?_eq_some_iff.1 (hd i hi)
 obtain ⟨b', o', ha, hb, hc⟩ := h (k + i) h1
 cases ha
 exact ⟨b, o + k, rfl, hb, by rw [Nat.add_assoc, hc, h2]⟩
def SlD (w : World) (a : Option Addr) (l : List (List UInt8)) : Prop := SlV w a (digsC l) ∧ ∀ d ∈ l, d.length = 8
theorem SlD.take {w : World} {a : Option Addr} {l : List (List UInt8)} (h : SlD w a l) (k : Nat) (hk : k ≤ l.length) : SlD w a (l.take k) := by
 refine ⟨fun i hi => ?_, fun d hd => h.2 d (List.mem_of_mem_take hd)⟩
 have e := digsC_take l h.2 k hk
 have hi' : i < ((digsC l).take (k * 8)).length := by rw [e]; exact hi
 obtain ⟨b, o, ha, hb, hc⟩ := h.1 i (by rw [List.length_take] at hi'; omega)
 refine ⟨b, o, ha, hb, ?_⟩
 rw [hc]
 congr 1
 have : (digsC (l.take k))[i]? = ((digsC l).take (k * 8))[i]? := by rw [e]
 rw [List.getElem?_eq_getElem hi, List.getElem?_eq_getElem hi', List.getElem_take] at this
 exact (Option.some.inj this).symm
theorem SlD.drop {w : World} {b o : Nat} {l : List (List UInt8)} (h : SlD w (some ⟨b, o, none⟩) l) (k : Nat) (hk : k ≤ l.length) : SlD w (some ⟨b, o + k * 8, none⟩) (l.drop k) := by
 refine ⟨SlV.sub (n := 0) h.1 (fun i hi => ?_), fun d hd => h.2 d (List.mem_of_mem_drop hd)⟩
 have e := digsC_drop l h.2 k hk
 rw [← List.getElem?_drop, e]
 exact List.getElem?_eq_getElem hi
theorem SlD.below {w w' : World} {a : Option Addr} {l : List (List UInt8)} (h : SlD w a l) (hb : Below w.heap.size w w') : SlD w' a l := ⟨h.1.below_all hb, h.2⟩
end Go.Proofs.Ytekegfbjbainhaa


namespace Go.Proofs.Ytekegfbjbainhaa
open Go.RowKit
theorem step_appendV {P : Program} {ops : Array Oper} {w : World} {o : Oper} {a : Act} {K : Act → World → Prop} {Q : Exit → Act → World → Prop} {E : Prop} (hgd : o.guard = none) (s x : Operand) (t : TypeId)
  (ho : o.op = .call { callee := .builtin .append, args := #[s, x], argTypes := #[t, t] })
  (base : Nat) (e : TypeId) (z : Value) (size bytes : Nat) (ht : P.underlying t = some (.slice e)) (hi : (P.info? e).map (fun i => (i.zero, i.size, i.bytes)) = some (some z, size, bytes)) (hzs : z.cells.size = size) (hsz : 0 < size)
  (v : Value) (n : Nat) (xs : List Value) (hs : a.eval s = v) (hown : w.ownsRow base e size v n xs)
  (ad : Addr) (m c : Nat) (news : List Value) (hx : a.eval x = .slice (some ad) m c) (hl : news.length = m * size) (hnews : SlV w (some ad) news) (h1 : ∀ u ∈ news, u.oneCell' = true)
  (h63 : n + m ≤ maxLen) (hbytes : (n + m) * bytes ≤ 140737488355328) (hbase : base ≤ w.heap.size)
  (h : ∀ a' n' cap' w', w'.ownsRow base e size (.slice a' n' cap') (n + m) (xs ++ news) → Frame (fun k => v.ownBlock = some k) w w' → ((Value.slice a' n' cap').ownBlock = v.ownBlock ∨ (Value.slice a' n' cap').ownBlock = some w.heap.size) → K (a.put o.dst (.slice a' n' cap')) w') :
  if Region.wanted o (yielded ops a.tmps) = true then Oper.wp P o a w K Q else E := by
 have hw : Region.wanted o (yielded ops a.tmps) = true := by simp [Region.wanted, hgd]
 rw [if_pos hw]
 refine op_appendV s x t ho base e z size bytes ht hi hzs hsz v n xs hs hown ad m c news hx hl hnews h1 h63 hbytes hbase ?_
 intro v' w' ho' hf hat
 obtain ⟨a', cap', rfl, _⟩ := owns_form ho'
 exact h a' _ cap' w' ho' hf hat
theorem Try.infoDigs : (Try.prog.info? 45).map (fun i => (i.zero, i.size, i.bytes)) = some (some (.agg #[.int .u8 0, .int .u8 0, .int .u8 0, .int .u8 0, .int .u8 0, .int .u8 0, .int .u8 0, .int .u8 0]), 8, 8) := by kernel_rfl
theorem Try.sizeCommit : (Try.prog.info? 49).map (·.size) = some 18 := by kernel_rfl
theorem ret_agg2 {fn : Func} {R : Ending → World → Prop} {a : Act} {w : World} {k k2 b T : Nat} {cs : List Value} {v2 : Value} {d : TypeDesc} (hf : fn.results = #[ResultVar.cell k T, ResultVar.tmp k2]) (ha : a.tmps.getD k undef = .pointer (some ⟨b, 0, none⟩)) (ha2 : a.tmps.getD k2 undef = v2)
  (hR : RowV w b T cs) (hu : Try.prog.underlying T = some d) (hd : d.isRow = true) (hi : (Try.prog.info? T).map (·.size) = some cs.length) (hdf : a.defers = []) (h : R (.returned (.tuple #[.agg cs.toArray, v2])) w) : bodyPost Try.prog fn R .ret a w := by
 refine bodyPost_ret (v := .tuple #[.agg cs.toArray, v2]) ?_ hdf h
 have hl := run_loadVar_mid (P := Try.prog) w b 0 T cs d hR.range hu hd hi
 have ha' : a.tmps[k]?.getD undef = .pointer (some ⟨b, 0, none⟩) := by rw [← ha]; simp [Array.getD_eq_getD_getElem?]
 have ha2' : a.tmps[k2]?.getD undef = v2 := by rw [← ha2]; simp [Array.getD_eq_getD_getElem?]
 unfold results
 rw [hf]
 simp [ha', ha2', hl, asAddr]
def commitC (epoch : Nat) (root : List UInt8) (size : Nat) (sum : List UInt8) : List Value := [.int .i64 (epoch : Int)] ++ root.map u8c ++ [.int .i64 (size : Int)] ++ sum.map u8c
def zero18 : List Value := [.int .i64 0, .int .u8 0, .int .u8 0, .int .u8 0, .int .u8 0, .int .u8 0, .int .u8 0, .int .u8 0, .int .u8 0, .int .i64 0, .int .u8 0, .int .u8 0, .int .u8 0, .int .u8 0, .int .u8 0, .int .u8 0, .int .u8 0, .int .u8 0]
end Go.Proofs.Ytekegfbjbainhaa


namespace Go.Proofs.Ytekegfbjbainhaa
open Go.RowKit
attribute [local go_sem ↓] Go.wp_at_zero Go.wp_at_succ
theorem partedN_pos (level : Nat) (l : List ItR) : 1 ≤ (partedN level l).length := (partF_length level l []).1
theorem grownF_length : ∀ (f level : Nat) (l : List ItR), 1 ≤ f → 1 ≤ (grownF f level l).length ∧ (grownF f level l).length ≤ f
 | 0, _, _, h => absurd h (by omega)
 | f + 1, level, l, _ => by
  unfold grownF
  split
  ·simp
  ·cases f with
   | zero => simp [grownF]
   | succ f' => have := grownF_length (f' + 1) (level + 1) (nextF level 0 (partedN level l)) (by omega); simp; omega
def rootLevel (l : List ItR) : Nat := (grownN l).length - 1
def rootPage (l : List ItR) : List ItR := ((grownN l)[(grownN l).length - 1]?.getD []).headD []
def rootB (l : List ItR) : List UInt8 := digB (codeB (rootLevel l) (rootPage l))
theorem rootB_length (l : List ItR) : (rootB l).length = 8 := rfl
end Go.Proofs.Ytekegfbjbainhaa


namespace Go.Proofs.Ytekegfbjbainhaa
open Go.RowKit
structure BS (w : World) (s : SlR) (l : List UInt8) : Prop where
 sl : SlB w s.a l
 n : s.n = l.length
 nil : s.a = none → s.cap = 0
 lt : ∀ x, s.a = some x → x.block < w.heap.size
theorem BS.frame {w w' : World} {S : Nat → Prop} {s : SlR} {l : List UInt8} (h : BS w s l) (hf : Frame S w w') (hS : ∀ x, s.a = some x → ¬ S x.block) : BS w' s l := ⟨h.sl.frame hf hS, h.n, h.nil, fun x hx => Nat.lt_of_lt_of_le (h.lt x hx) hf.size⟩
theorem BS.below {w w' : World} {s : SlR} {l : List UInt8} (h : BS w s l) (hf : Below w.heap.size w w') : BS w' s l := ⟨h.sl.below hf (Nat.le_refl _), h.n, h.nil, fun x hx => Nat.lt_of_lt_of_le (h.lt x hx) hf.size⟩
set_option maxRecDepth 100000 in
theorem isKey_any (a : Option Addr) (n cap : Nat) (w : World) (hn : n ≤ maxLen) :
  Calls Try.prog 36 #[.slice a n cap] w fun e w' => e = .returned (.bool (decide (1 ≤ n) && decide (n ≤ 12))) ∧ w' = w := by
 unfold maxLen at hn
 by_cases h1 : 1 ≤ n
 ·by_cases h2 : n ≤ 12
  ·have h1' : (1 : Int) ≤ n := by omega
   have h2' : (n : Int) ≤ 12 := by omega
   go_enter Try.func36, Try.ntmps36
   go_wp2
   go_ret
   exact ⟨by simp [h1, h2], rfl⟩
  ·have h1' : (1 : Int) ≤ n := by omega
   have h2' : ¬ (n : Int) ≤ 12 := by omega
   go_enter Try.func36, Try.ntmps36
   go_wp2
   go_ret
   exact ⟨by simp [h1, h2], rfl⟩
 ·have h1' : ¬ (1 : Int) ≤ n := by omega
  go_enter Try.func36, Try.ntmps36
  go_wp2
  go_ret
  exact ⟨by simp [h1], rfl⟩
set_option maxRecDepth 100000 in
theorem isValue_any (a : Option Addr) (n cap : Nat) (w : World) (hn : n ≤ maxLen) :
  Calls Try.prog 53 #[.slice a n cap] w fun e w' => e = .returned (.bool (decide (n ≤ 12))) ∧ w' = w := by
 unfold maxLen at hn
 by_cases h2 : n ≤ 12
 ·have h2' : (n : Int) ≤ 12 := by omega
  go_enter Try.func53, Try.ntmps53
  go_wp2
  go_ret
  exact ⟨by simp [h2], rfl⟩
 ·have h2' : ¬ (n : Int) ≤ 12 := by omega
  go_enter Try.func53, Try.ntmps53
  go_wp2
  go_ret
  exact ⟨by simp [h2], rfl⟩
theorem run_loadBytes {P : Program} {w : World} (b : Nat) : ∀ (l : List UInt8) (o : Nat) (acc : ByteArray), (∀ i (h : i < l.length), w.cell? ⟨b, o + i, none⟩ = some (.int .u8 (l[i].toNat : Int))) →
  (Extern.Bytes.loadBytes ⟨b, o, none⟩ l.length acc).run P w = .ok ⟨acc.data ++ l.toArray⟩ w
 | [], o, acc, h => by simp [Extern.Bytes.loadBytes]
 | x :: l, o, acc, h => by
  have h0 := h 0 (by simp)
  have ih := run_loadBytes (P := P) (w := w) b l (o + 1) (acc.push x) (fun i hi => by
   have := h (i + 1) (by simpa using hi)
   rw [show o + 1 + i = o + (i + 1) by omega]
   simpa using this)
  simp only [Nat.add_zero, List.getElem_cons_zero] at h0
  have hx : ((x.toNat : Int)).toNat.toUInt8 = x := by simp
  have ha : (Addr.add ⟨b, o, none⟩ 1) = ⟨b, o + 1, none⟩ := rfl
  have hl : (Go.load ⟨b, o, none⟩).run P w = .ok (.int .u8 (x.toNat : Int)) w := by
   simp [h0]
  simp only [List.length_cons, Extern.Bytes.loadBytes, Sem.run_bind, hl, Result.andThen, hx, ha, ih]
  congr 2
  simp [ByteArray.push]
theorem run_bytesOf {P : Program} {w : World} {s : SlR} {l : List UInt8} (h : BS w s l) : (Extern.Bytes.bytesOf s.val).run P w = .ok ⟨l.toArray⟩ w := by
 obtain ⟨a, n, cap⟩ := s
 obtain ⟨hs, hn, hnil, _⟩ := h
 simp only at hs hn hnil
 subst hn
 cases a with
 | none =>
  cases l with
  | nil => simp [SlR.val, Extern.Bytes.bytesOf]; rfl
  | cons y r => obtain ⟨b, o, ha, _⟩ := hs 0 (by simp); cases ha
 | some x =>
  simp only [SlR.val, Extern.Bytes.bytesOf]
  cases l with
  | nil => simp [Extern.Bytes.loadBytes]; rfl
  | cons y r =>
   obtain ⟨b, o, ha, _⟩ := hs 0 (by simp)
   cases ha
   rw [run_loadBytes b (y :: r) o _ (fun i hi => by
    obtain ⟨b', o', ha', _, hc⟩ := hs i hi
    cases ha'; exact hc)]
   congr 2
   simp [ByteArray.empty, ByteArray.emptyWithCapacity]
   try rfl
theorem run_compare {P : Program} {w : World} {s t : SlR} {l m : List UInt8} (h : BS w s l) (k : BS w t m) :
  (Extern.BytealgCompare.compare #[s.val, t.val]).run P w = .ok (.int .i64 (Lib.compareBytes l m)) w := by
 change Sem.run P (do pure (goInt (Extern.BytealgCompare.cmp (← Extern.Bytes.bytesOf s.val) (← Extern.Bytes.bytesOf t.val)))) w = _
 simp only [Sem.run_bind, Sem.run_pure, Result.andThen, run_bytesOf h, run_bytesOf k]
 rw [Lib.cmp_eq]
 rfl
theorem cmp_neg : ∀ (l m : List UInt8), (Lib.compareBytes l m < 0) ↔ Op.bytesLess l m = true
 | [], [] => by simp [Lib.compareBytes, Op.bytesLess]
 | [], _ :: _ => by simp [Lib.compareBytes, Op.bytesLess]
 | _ :: _, [] => by simp [Lib.compareBytes, Op.bytesLess]
 | a :: l, b :: m => by
  have ih := cmp_neg l m
  unfold Lib.compareBytes Op.bytesLess
  by_cases h1 : a < b
  ·simp [h1]
  ·by_cases h2 : b < a
   ·have hne : ¬ a = b := fun e => by subst e; exact UInt8.lt_irrefl _ h2
    simp [h1, h2, hne]
   ·have he : a = b := UInt8.le_antisymm (UInt8.not_lt.1 h2) (UInt8.not_lt.1 h1)
    subst he
    simp [h1, ih]
theorem cmp_zero : ∀ (l m : List UInt8), (Lib.compareBytes l m = 0) ↔ l = m
 | [], [] => by simp [Lib.compareBytes]
 | [], _ :: _ => by simp [Lib.compareBytes]
 | _ :: _, [] => by simp [Lib.compareBytes]
 | a :: l, b :: m => by
  have ih := cmp_zero l m
  unfold Lib.compareBytes
  by_cases h1 : a < b
  ·have hne : ¬ a = b := fun e => by subst e; exact UInt8.lt_irrefl _ h1
   simp [h1, hne]
  ·by_cases h2 : b < a
   ·have hne : ¬ a = b := fun e => by subst e; exact UInt8.lt_irrefl _ h2
    simp [h1, h2, hne]
   ·have he : a = b := UInt8.le_antisymm (UInt8.not_lt.1 h2) (UInt8.not_lt.1 h1)
    subst he
    simp [h1, ih]
theorem cmp_bd : ∀ (l m : List UInt8), -1 ≤ Lib.compareBytes l m ∧ Lib.compareBytes l m ≤ 1
 | [], [] => by simp [Lib.compareBytes]
 | [], _ :: _ => by simp [Lib.compareBytes]
 | _ :: _, [] => by simp [Lib.compareBytes]
 | a :: l, b :: m => by
  have ih := cmp_bd l m
  unfold Lib.compareBytes
  split
  ·simp
  ·split
   ·simp
   ·exact ih
set_option maxRecDepth 100000 in
theorem compare_any (s t : SlR) (l m : List UInt8) (w : World) (h : BS w s l) (k : BS w t m) :
  Calls Try.prog 44 #[s.val, t.val] w fun e w' => e = .returned (.int .i64 (Lib.compareBytes l m)) ∧ w' = w := by
 have hc := run_compare (P := Try.prog) h k
 unfold SlR.val at hc ⊢
 go_enter Try.func44, Try.ntmps44
 go_wp2
 rw [run_callFunc_extern Try.func65 (by kernel_rfl) (by kernel_rfl) (by kernel_rfl) (e := Extern.BytealgCompare.compare) (by kernel_rfl), hc]
 simp only [Result.andThen]
 rw [Oper.upon_value]
 go_wp2
 go_ret
 exact ⟨rfl, rfl⟩
end Go.Proofs.Ytekegfbjbainhaa


namespace Go.Proofs.Ytekegfbjbainhaa
open Go.RowKit
structure EnP where
 k : SlR
 v : SlR
 d : List UInt8
def enC (x : EnP) : List Value := x.k.val :: x.v.val :: x.d.map u8c
def ensC (l : List EnP) : List Value := l.flatMap enC
def zero8 : List UInt8 := [0, 0, 0, 0, 0, 0, 0, 0]
theorem enC_length (x : EnP) (h : x.d.length = 8) : (enC x).length = 10 := by simp [enC, h]
theorem ensC_length (l : List EnP) (h : ∀ x ∈ l, x.d.length = 8) : (ensC l).length = l.length * 10 := flat_length enC 10 l (fun x hx => enC_length x (h x hx))
theorem ensC_append (l m : List EnP) : ensC (l ++ m) = ensC l ++ ensC m := by simp [ensC]
theorem ensC_one (l : List EnP) : ∀ u ∈ ensC l, u.oneCell' = true := fun u hu => by
 obtain ⟨x, _, hx⟩ := List.mem_flatMap.1 hu
 simp only [enC, List.mem_cons, List.mem_map, SlR.val] at hx
 rcases hx with rfl | rfl | ⟨y, _, rfl⟩ <;> rfl
def SlE (w : World) (a : Option Addr) (l : List EnP) : Prop := SlV w a (ensC l)
theorem SlE.range {w : World} {a : Option Addr} {l : List EnP} (h : SlE w a l) (h8 : ∀ x ∈ l, x.d.length = 8) (i : Nat) (hi : i < l.length) : ∃ b o, a = some ⟨b, o, none⟩ ∧ b < w.heap.size ∧ w.rangeAt b (o + i * 10) (enC l[i]) := by
 have hm := enC_length l[i] (h8 _ (List.getElem_mem hi))
 have g := fun j (hj : j < 10) => flat_get enC 10 l (fun x hx => enC_length x (h8 x hx)) i hi j hj
 obtain ⟨b, o, ha, hb, c0⟩ := SlV.at h (g 0 (by omega))
 refine ⟨b, o, ha, hb, fun j v hv => ?_⟩
 have hj : j < 10 := by have := (List.getElem?_eq_some_iff.1 hv).1; omega
 obtain ⟨b1, o1, ha1, _, c1⟩ := SlV.at h ((g j hj).trans hv)
 rw [ha] at ha1
 cases ha1
 rw [Nat.add_assoc]; exact c1
structure EnOk (w : World) (x : EnP) (it : ItR) : Prop where
 key : BS w x.k it.key
 val : BS w x.v it.more
 dig : x.d = zero8
theorem EnOk.frame {w w' : World} {S : Nat → Prop} {x : EnP} {it : ItR} (h : EnOk w x it) (hf : Frame S w w') (h1 : ∀ y, x.k.a = some y → ¬ S y.block) (h2 : ∀ y, x.v.a = some y → ¬ S y.block) : EnOk w' x it := ⟨h.key.frame hf h1, h.val.frame hf h2, h.dig⟩
theorem EnOk.below {w w' : World} {x : EnP} {it : ItR} (h : EnOk w x it) (hf : Below w.heap.size w w') : EnOk w' x it := ⟨h.key.below hf, h.val.below hf, h.dig⟩
def Rising (l : List ItR) : Prop := l.Pairwise (fun x y => Op.bytesLess x.key y.key = true)
theorem less_trans : ∀ {a b c : List UInt8}, Op.bytesLess a b = true → Op.bytesLess b c = true → Op.bytesLess a c = true
 | _, _, [], h, k => by cases ‹List UInt8› <;> simp [Op.bytesLess] at k
 | _, [], _ :: _, h, k => by cases ‹List UInt8› <;> simp [Op.bytesLess] at h
 | [], _ :: _, _ :: _, h, k => by simp [Op.bytesLess]
 | x :: a, y :: b, z :: c, h, k => by
  simp only [Op.bytesLess, Bool.or_eq_true, decide_eq_true_eq, Bool.and_eq_true, beq_iff_eq] at h k ⊢
  rcases h with h | ⟨rfl, h⟩
  ·rcases k with k | ⟨rfl, k⟩
   ·exact Or.inl (UInt8.lt_trans h k)
   ·exact Or.inl h
  ·rcases k with k | ⟨rfl, k⟩
   ·exact Or.inl k
   ·exact Or.inr ⟨rfl, less_trans h k⟩
theorem less_irrefl : ∀ (a : List UInt8), Op.bytesLess a a = false
 | [] => rfl
 | x :: a => by simp [Op.bytesLess, less_irrefl a, UInt8.lt_irrefl]
theorem less_total : ∀ (a b : List UInt8), Op.bytesLess a b = false → a ≠ b → Op.bytesLess b a = true
 | [], [], _, h => absurd rfl h
 | [], _ :: _, h, _ => by simp [Op.bytesLess] at h
 | _ :: _, [], _, _ => by simp [Op.bytesLess]
 | x :: a, y :: b, h, hne => by
  simp only [Op.bytesLess, Bool.or_eq_false_iff, decide_eq_false_iff_not, Bool.and_eq_false_iff, Bool.or_eq_true, decide_eq_true_eq, Bool.and_eq_true, beq_iff_eq] at h ⊢
  obtain ⟨h1, h2⟩ := h
  by_cases e : x = y
  ·subst e
   refine Or.inr ⟨rfl, less_total a b ?_ (fun e => hne (by rw [e]))⟩
   rcases h2 with h2 | h2
   ·simp at h2
   ·exact h2
  ·exact Or.inl (UInt8.lt_of_le_of_ne (UInt8.not_lt.1 h1) (Ne.symm e))
theorem rising_place : ∀ (l : List ItR) (key : List UInt8), Rising l → ∀ i (h : i < l.length), lessK key l[i] = decide (i < placeN l key)
 | [], _, _, i, h => absurd h (Nat.not_lt_zero _)
 | x :: l, key, hr, i, h => by
  obtain ⟨h1, h2⟩ := List.pairwise_cons.1 hr
  have ih := rising_place l key h2
  unfold placeN at ih ⊢
  rw [List.takeWhile_cons]
  by_cases hx : lessK key x = true
  ·rw [if_pos hx]
   cases i with
   | zero => simp [hx]
   | succ j => simpa using ih j (by simpa using h)
  ·rw [if_neg hx]
   cases i with
   | zero => simpa using hx
   | succ j =>
    have hj : j < l.length := by simpa using h
    have hlt := h1 l[j] (List.getElem_mem hj)
    simp only [List.getElem_cons_succ, List.length_nil, Nat.not_lt_zero, decide_false]
    cases hc : lessK key l[j] with
    | false => rfl
    | true => exact absurd (less_trans hlt hc) hx
set_option maxRecDepth 100000 in
theorem findKey_any (x : EnP) (it : ItR) (sk : SlR) (key : List UInt8) (w : World) (hx : EnOk w x it) (hk : BS w sk key) :
  Calls Try.prog 59 #[.agg #[x.k.val, x.v.val, .int .u8 0, .int .u8 0, .int .u8 0, .int .u8 0, .int .u8 0, .int .u8 0, .int .u8 0, .int .u8 0], sk.val] w fun e w' => e = .returned (.int .i64 (Lib.compareBytes it.key key)) ∧ Below w.heap.size w w' := by
 have hB : Below w.heap.size w (w.alloc (.cells #[x.k.val, x.v.val, .int .u8 0, .int .u8 0, .int .u8 0, .int .u8 0, .int .u8 0, .int .u8 0, .int .u8 0, .int .u8 0] 103)) := (Below.refl _ _).alloc (Nat.le_refl _) _
 have HC : Hid (Calls _ _ _ _ _) := compare_any x.k sk it.key key _ (hx.key.below hB) (hk.below hB)
 have HB : Hid (Below _ _ _) := hB
 clear hB
 unfold SlR.val at *
 go_enter Try.func59, Try.ntmps59
 go_wp2_with (go_at_call 44; refine HC.out.mono ?_; rintro e w1 ⟨rfl, rfl⟩)
 go_ret
 exact ⟨rfl, HB.out⟩
end Go.Proofs.Ytekegfbjbainhaa


namespace Go.Proofs.Ytekegfbjbainhaa
open Go.RowKit
set_option maxRecDepth 100000 in
set_option maxHeartbeats 1000000 in
theorem bsearch_any (a : Option Addr) (cap n : Nat) (xs : List EnP) (its : List ItR) (sk : SlR) (key : List UInt8) (w : World) (hn : n = xs.length) (hl : its.length = xs.length) (h60 : xs.length ≤ 60) (hs : SlE w a xs)
  (hok : ∀ i (h1 : i < xs.length) (h2 : i < its.length), EnOk w xs[i] its[i]) (hr : Rising its) (hk : BS w sk key) :
  Calls Try.prog 58 #[.slice a n cap, sk.val, .func (.func 59) #[] #[]] w fun e w' => e = .returned (.tuple #[.int .i64 (placeN its key : Int), .bool (thereB its key)]) ∧ Below w.heap.size w w' := by
 have h8 : ∀ x ∈ xs, x.d.length = 8 := fun x hx => by
  obtain ⟨i, hi, rfl⟩ := List.getElem_of_mem hx
  rw [(hok i hi (by omega)).dig]; rfl
 have HP := rising_place its key hr
 have hple := placeN_le its key
 have hT : Hid (thereB its key = ((its[placeN its key]?).map (fun x => x.key == key)).getD false) := rfl
 generalize hpt : thereB its key = pt at *
 generalize hpp : placeN its key = pp at *
 have HQ : Hid (∀ (wr : World), Below w.heap.size w wr → ∀ h, h < n → ∃ b o kv vv c, a = some ⟨b, o, none⟩ ∧ wr.rangeAt b (o + h * 10) [kv, vv, .int .u8 0, .int .u8 0, .int .u8 0, .int .u8 0, .int .u8 0, .int .u8 0, .int .u8 0, .int .u8 0] ∧
   Calls Try.prog 59 #[.agg #[kv, vv, .int .u8 0, .int .u8 0, .int .u8 0, .int .u8 0, .int .u8 0, .int .u8 0, .int .u8 0, .int .u8 0], sk.val] wr (fun e w' => e = .returned (.int .i64 c) ∧ Below wr.heap.size wr w') ∧
   kv.cells = #[kv] ∧ vv.cells = #[vv] ∧ (c < 0 ↔ h < pp) ∧ (h = pp → pt = (c == 0))) := fun wr hB h h1 => by
  subst hn
  obtain ⟨b, o, ha, hb, hc⟩ := SlE.range hs h8 h h1
  refine ⟨b, o, xs[h].k.val, xs[h].v.val, Lib.compareBytes (its[h]'(by omega)).key key, ha, fun j v hv => ?_, ?_, rfl, rfl, ?_, ?_⟩
  ·rw [hB.cell (p := ⟨b, o + h * 10 + j, none⟩) hb]
   refine hc j v ?_
   unfold enC
   rw [(hok h h1 (by omega)).dig]
   exact hv
  ·exact findKey_any xs[h] (its[h]'(by omega)) sk key wr ((hok h h1 (by omega)).below hB) (hk.below hB)
  ·rw [cmp_neg]
   have := HP h (by omega)
   unfold lessK at this
   rw [this]; simp
  ·intro e
   subst e
   rw [hT.out, List.getElem?_eq_getElem (by omega)]
   simp only [Option.map_some, Option.getD_some]
   rw [Bool.eq_iff_iff]
   simp [cmp_zero]
 have HT0 : Hid (n = pp → pt = false) := fun e => by
  rw [hT.out, List.getElem?_eq_none (by omega)]; rfl
 have hple : pp ≤ n := by omega
 have h60 : n ≤ 60 := by omega
 clear hok hs hk HP hr h8 hpt hpp hT hn hl
 unfold SlR.val at *
 go_enter Try.func58, Try.ntmps58
 go_wp2
 go_loopw [9, 10, 11] (fun x y _ wr => ∃ i j : Nat, i ≤ pp ∧ pp ≤ j ∧ j ≤ n ∧ x = .int .i64 i ∧ y = .int .i64 j ∧ Below w.heap.size w wr) (fun x y _ _ => (intOf y).toNat - (intOf x).toNat)
 case atStart => exact ⟨0, n, by omega, hple, by omega, by simp, by simp, Below.refl _ _⟩
 case round =>
  obtain ⟨i, j, hi, hj, hjn, rfl, rfl, hB⟩ := hrel
  by_cases hlt : i < j
  ·have hltI : (i : Int) < j := by omega
   obtain ⟨h, hh⟩ : ∃ h : Nat, h = (i + j) / 2 := ⟨_, rfl⟩
   have hhI : ((i : Int) + j) / 2 = h := by omega
   have hh1 : h < n := by omega
   have hhi : i ≤ h := by omega
   have hhj : h < j := by omega
   have hh2 : (h : Int) < n := by omega
   have hh3 : (h : Int) ≤ 60 := by omega
   clear hh
   obtain ⟨b, o, kv, vv, c, rfl, hc, hcall, hkv, hvv, hneg, _⟩ := HQ.out wr hB h hh1
   have HC : Hid (Calls _ _ _ _ _) := hcall
   have HN : Hid (c < 0 ↔ h < pp) := hneg
   clear hcall hneg
   have c0 := hc 0 _ rfl
   have c1 := hc 1 _ rfl
   have c2 := hc 2 _ rfl
   have c3 := hc 3 _ rfl
   have c4 := hc 4 _ rfl
   have c5 := hc 5 _ rfl
   have c6 := hc 6 _ rfl
   have c7 := hc 7 _ rfl
   have c8 := hc 8 _ rfl
   have c9 := hc 9 _ rfl
   clear hc
   simp only [Nat.add_zero] at c0
   by_cases hc0 : c < 0
   ·have hlp := HN.out.1 hc0
    go_wp2_with (go_at_call 59; refine HC.out.mono ?_; rintro e w1 ⟨rfl, hb1⟩)
    refine ⟨⟨h + 1, j, by omega, by omega, by omega, by go_num, by simp, hB.trans (hb1.mono hB.size)⟩, ?_⟩
    simp [intOf]; omega
   ·have hlp : ¬ h < pp := fun x => hc0 (HN.out.2 x)
    go_wp2_with (go_at_call 59; refine HC.out.mono ?_; rintro e w1 ⟨rfl, hb1⟩)
    refine ⟨⟨i, h, by omega, by omega, by omega, by simp, by simp, hB.trans (hb1.mono hB.size)⟩, ?_⟩
    simp [intOf]; omega
  ·obtain rfl : i = j := by omega
   obtain rfl : i = pp := by omega
   clear hlt
   by_cases hin : i < n
   ·have hinI : (i : Int) < n := by omega
    obtain ⟨b, o, kv, vv, c, rfl, hc, hcall, hkv, hvv, _, hpt⟩ := HQ.out wr hB i hin
    have HC : Hid (Calls _ _ _ _ _) := hcall
    have HPT : Hid (pt = (c == 0)) := hpt rfl
    clear hcall hpt
    have c0 := hc 0 _ rfl
    have c1 := hc 1 _ rfl
    have c2 := hc 2 _ rfl
    have c3 := hc 3 _ rfl
    have c4 := hc 4 _ rfl
    have c5 := hc 5 _ rfl
    have c6 := hc 6 _ rfl
    have c7 := hc 7 _ rfl
    have c8 := hc 8 _ rfl
    have c9 := hc 9 _ rfl
    clear hc
    simp only [Nat.add_zero] at c0
    go_wp2_with (go_at_call 59; refine HC.out.mono ?_; rintro e w1 ⟨rfl, hb1⟩)
    go_ret2
    exact ⟨by rw [HPT.out]; rfl, hB.trans (hb1.mono hB.size)⟩
   ·have hinI : ¬ (i : Int) < n := by omega
    have HPT : Hid (pt = false) := HT0.out (by omega)
    go_wp2
    go_ret2
    exact ⟨by rw [HPT.out]; rfl, hB⟩
end Go.Proofs.Ytekegfbjbainhaa
