import Derived.Test.YtekegfbjbainhaaKJoin2
import Derived.Test.YtekegfbjbainhaaKJoin1
import Derived.Deep.RegionWith
import Derived.Stop.BytesEq
import Derived.Deep.DrawnRows
import Derived.Lib.Bytealg
set_option linter.unusedVariables false
set_option linter.unusedSimpArgs false

namespace Go.Proofs.Ytekegfbjbainhaa
open Go.RowKit
def lastK (p : List ItR) : List UInt8 := (p.getLast?.map (·.key)).getD []
def nextF (level : Nat) : Nat → List (List ItR) → List ItR
 | _, [] => []
 | i, p :: r => ⟨lastK p, digB (codeB level p), i⟩ :: nextF level (i + 1) r
def grownF : Nat → Nat → List ItR → List (List (List ItR))
 | 0, _, _ => []
 | f + 1, level, l => if (partedN level l).length = 1 then [partedN level l] else partedN level l :: grownF f (level + 1) (nextF level 0 (partedN level l))
def grownN (l : List ItR) : List (List (List ItR)) := grownF 7 0 l
theorem partF_length (level : Nat) : ∀ (r cur : List ItR), 1 ≤ (partF level r cur).length ∧ (partF level r cur).length ≤ r.length + 1
 | [], cur => by simp [partF]
 | x :: r, cur => by
  unfold partF
  split
  ·have := partF_length level r []; simp; omega
  ·have := partF_length level r (cur ++ [x]); simp; omega
theorem partF_bound (level : Nat) : ∀ (r cur : List ItR), r ≠ [] → (partF level r cur).length ≤ r.length
 | [], cur, h => absurd rfl h
 | x :: r, cur, _ => by
  unfold partF
  split
  ·rename_i hc
   have hr : r ≠ [] := by
    intro h; subst h; simp at hc
   have := partF_bound level r [] hr; simp; omega
  ·by_cases hr : r = []
   ·subst hr; simp [partF]
   ·have := partF_bound level r (cur ++ [x]) hr; simp; omega
theorem partF_six (level : Nat) (h6 : ¬ level < 6) : ∀ (r cur : List ItR), partF level r cur = [cur ++ r]
 | [], cur => by simp [partF]
 | x :: r, cur => by
  unfold partF
  rw [if_neg (by simp [endB, h6]), partF_six level h6 r]; simp
theorem lastK_le {p : List ItR} (h : ∀ x ∈ p, ItOk x) : (lastK p).length ≤ 12 := by
 unfold lastK
 cases hl : p.getLast? with
 | none => simp
 | some x => simp; exact (h x (List.mem_of_getLast? hl)).1
theorem lastK_get (p : List ItR) (h : p ≠ []) : lastK p = (p[p.length - 1]'(by have := List.length_pos_iff.2 h; omega)).key := by
 unfold lastK
 rw [List.getLast?_eq_getElem?, List.getElem?_eq_getElem (by have := List.length_pos_iff.2 h; omega)]
 rfl
end Go.Proofs.Ytekegfbjbainhaa


namespace Go.Proofs.Ytekegfbjbainhaa
open Go.RowKit
theorem run_string_SlB {P : Program} (w : World) (src dst e : TypeId) (a : Option Addr) (n cap : Nat) (l : List UInt8) (hs : P.underlying src = some (.slice e)) (he : P.underlying e = some (.int .u8)) (hd : P.underlying dst = some .string)
  (hn : n = l.length) (hc : SlB w a l) (hnil : a = none → cap = 0) : (convert src dst (.slice a n cap)).run P w = .ok (.string ⟨l.toArray⟩) w := by
 subst hn
 cases a with
 | none =>
  have : l = [] := by
   cases l with
   | nil => rfl
   | cons x r => obtain ⟨b, o, ha, _⟩ := hc 0 (by simp); cases ha
  subst this
  rw [hnil rfl]
  exact run_convert_bytes_nil w src e hs he 0 0 dst hd
 | some x =>
  cases l with
  | nil =>
   exact run_convert_bytes_back w src dst e x cap [] hs he hd (fun j hj => absurd hj (Nat.not_lt_zero _))
  | cons y r =>
   obtain ⟨b, o, ha, _⟩ := hc 0 (by simp)
   cases ha
   exact run_string_BAt w src dst e b o cap (y :: r) hs he hd (fun j hj => by
    obtain ⟨b', o', ha', _, hcc⟩ := hc j hj
    cases ha'; exact hcc)
end Go.Proofs.Ytekegfbjbainhaa


namespace Go.Proofs.Ytekegfbjbainhaa
open Go.RowKit
theorem SlV.ofOwn {W : World} {base e size n : Nat} {s : SlR} {xs : List Value} (h : W.ownsRow base e size s.val n xs) : SlV W s.a xs ∧ s.n = n := by
 obtain ⟨a, cap, hv, hs, _⟩ := owns_form h
 unfold SlR.val at hv
 cases hv
 exact ⟨hs, rfl⟩
end Go.Proofs.Ytekegfbjbainhaa


namespace Go.Proofs.Ytekegfbjbainhaa
open Go.RowKit
end Go.Proofs.Ytekegfbjbainhaa


namespace Go.Proofs.Ytekegfbjbainhaa
open Go.RowKit
abbrev boxD (w : World) (d : List UInt8) : World := w.alloc (.cells (d.map u8c).toArray 45)
abbrev resD (w : World) : World := w.alloc (.cells #[.int .u8 0, .int .u8 0, .int .u8 0, .int .u8 0, .int .u8 0, .int .u8 0, .int .u8 0, .int .u8 0] 45)
abbrev oneB (w : World) (x : Int) : World := w.alloc (.cells #[.int .u8 x] 5)
def z8 : List Value := [.int .u8 0, .int .u8 0, .int .u8 0, .int .u8 0, .int .u8 0, .int .u8 0, .int .u8 0, .int .u8 0]
theorem resD_row (w : World) : RowV (resD w) w.heap.size 45 z8 := RowV.new w 45 z8
def halfF : Nat → Nat → Nat → Nat
 | 0, k, _ => k
 | f + 1, k, n => if k < n - k then halfF f (2 * k) n else k
def halfN (n : Nat) : Nat := halfF 64 1 n
def sumF : Nat → List (List UInt8) → List UInt8
 | 0, _ => []
 | _ + 1, [] => digB []
 | _ + 1, [d] => digB (0 :: d)
 | f + 1, l => digB (1 :: (sumF f (l.take (halfN l.length)) ++ sumF f (l.drop (halfN l.length))))
def digsC (l : List (List UInt8)) : List Value := l.flatMap (·.map u8c)
theorem sumF_length : ∀ (f : Nat) (l : List (List UInt8)), (sumF (f + 1) l).length = 8
 | _, [] => rfl
 | _, [_] => rfl
 | _, _ :: _ :: _ => rfl
theorem digsC_length : ∀ (l : List (List UInt8)), (∀ d ∈ l, d.length = 8) → (digsC l).length = l.length * 8
 | [], _ => rfl
 | d :: l, h => by
  have := digsC_length l (fun x hx => h x (by simp [hx]))
  simp only [digsC, List.flatMap_cons, List.length_append, List.length_map] at this ⊢
  rw [this, h d (by simp), List.length_cons]; omega
theorem digsC_take (l : List (List UInt8)) (h : ∀ d ∈ l, d.length = 8) (k : Nat) (hk : k ≤ l.length) : (digsC l).take (k * 8) = digsC (l.take k) := by
 have e : digsC l = digsC (l.take k) ++ digsC (l.drop k) := by
  unfold digsC
  rw [← List.flatMap_append, List.take_append_drop]
 rw [e]
 have hl : (digsC (l.take k)).length = k * 8 := by
  rw [digsC_length _ (fun d hd => h d (List.mem_of_mem_take hd)), List.length_take, Nat.min_eq_left hk]
 rw [← hl, List.take_left]
theorem digsC_drop (l : List (List UInt8)) (h : ∀ d ∈ l, d.length = 8) (k : Nat) (hk : k ≤ l.length) : (digsC l).drop (k * 8) = digsC (l.drop k) := by
 have e : digsC l = digsC (l.take k) ++ digsC (l.drop k) := by
  unfold digsC
  rw [← List.flatMap_append, List.take_append_drop]
 rw [e]
 have hl : (digsC (l.take k)).length = k * 8 := by
  rw [digsC_length _ (fun d hd => h d (List.mem_of_mem_take hd)), List.length_take, Nat.min_eq_left hk]
 rw [← hl, List.drop_left]
theorem halfF_bd : ∀ (f q n : Nat), 1 ≤ q → q < n → 1 ≤ halfF f q n ∧ halfF f q n < n
 | 0, q, n, h1, h2 => ⟨h1, h2⟩
 | f + 1, q, n, h1, h2 => by
  unfold halfF
  split
  ·exact halfF_bd f (2 * q) n (by omega) (by omega)
  ·exact ⟨h1, h2⟩
theorem halfN_bd (n : Nat) (h : 2 ≤ n) : 1 ≤ halfN n ∧ halfN n < n := halfF_bd 64 1 n (by omega) (by omega)
end Go.Proofs.Ytekegfbjbainhaa


namespace Go.Proofs.Ytekegfbjbainhaa
open Go.RowKit
attribute [local go_sem ↓] Go.wp_at_zero Go.wp_at_succ
def KeepD (w : World) (b : Nat) (W : World) : Prop := Below w.heap.size w W ∧ RowV W b 45 z8
theorem KeepD.start (w : World) : KeepD w w.heap.size (resD w) := ⟨(Below.refl _ _).alloc (Nat.le_refl _) _, resD_row w⟩
theorem KeepD.drew {w W : World} {b : Nat} (h : KeepD w b W) : KeepD w b W.drew := ⟨h.1.drew, h.2⟩
theorem KeepD.next {w W W' : World} {b : Nat} (h : KeepD w b W) (hb : Below W.heap.size W W') : KeepD w b W' := ⟨h.1.trans (hb.mono h.1.size), h.2.below h.2.lt hb⟩
theorem SlV.sub {w : World} {b o k n : Nat} {cs ds : List Value} (h : SlV w (some ⟨b, o, none⟩) cs) (hd : ∀ i (hi : i < ds.length), cs[k + i]? = some ds[i]) : SlV w (some ⟨b, o + k, none⟩) ds := fun i hi => by
 obtain ⟨h1, h2⟩ := List.getElem?_eq_some_iff.1 (hd i hi)
 obtain ⟨b', o', ha, hb, hc⟩ := h (k + i) h1
 cases ha
 exact ⟨b, o + k, rfl, hb, by rw [Nat.add_assoc, hc, h2]⟩
def SlD (w : World) (a : Option Addr) (l : List (List UInt8)) : Prop := SlV w a (digsC l) ∧ ∀ d ∈ l, d.length = 8
theorem SlD.take {w : World} {a : Option Addr} {l : List (List UInt8)} (h : SlD w a l) (k : Nat) (hk : k ≤ l.length) : SlD w a (l.take k) := by
 refine ⟨fun i hi => ?_, fun d hd => h.2 d (List.mem_of_mem_take hd)⟩
 have e := digsC_take l h.2 k hk
 have hi' : i < ((digsC l).take (k * 8)).length := by rw [e]; exact hi
 obtain ⟨b, o, ha, hb, hc⟩ := h.1 i (by rw [List.length_take] at hi'; omega)
 refine ⟨b, o, ha, hb, ?_⟩
 rw [hc]
 congr 1
 have : (digsC (l.take k))[i]? = ((digsC l).take (k * 8))[i]? := by rw [e]
 rw [List.getElem?_eq_getElem hi, List.getElem?_eq_getElem hi', List.getElem_take] at this
 exact (Option.some.inj this).symm
theorem SlD.drop {w : World} {b o : Nat} {l : List (List UInt8)} (h : SlD w (some ⟨b, o, none⟩) l) (k : Nat) (hk : k ≤ l.length) : SlD w (some ⟨b, o + k * 8, none⟩) (l.drop k) := by
 refine ⟨SlV.sub (n := 0) h.1 (fun i hi => ?_), fun d hd => h.2 d (List.mem_of_mem_drop hd)⟩
 have e := digsC_drop l h.2 k hk
 rw [← List.getElem?_drop, e]
 exact List.getElem?_eq_getElem hi
theorem SlD.below {w w' : World} {a : Option Addr} {l : List (List UInt8)} (h : SlD w a l) (hb : Below w.heap.size w w') : SlD w' a l := ⟨h.1.below_all hb, h.2⟩
end Go.Proofs.Ytekegfbjbainhaa


namespace Go.Proofs.Ytekegfbjbainhaa
open Go.RowKit
theorem step_appendV {P : Program} {ops : Array Oper} {w : World} {o : Oper} {a : Act} {K : Act → World → Prop} {Q : Exit → Act → World → Prop} {E : Prop} (hgd : o.guard = none) (s x : Operand) (t : TypeId)
  (ho : o.op = .call { callee := .builtin .append, args := #[s, x], argTypes := #[t, t] })
  (base : Nat) (e : TypeId) (z : Value) (size bytes : Nat) (ht : P.underlying t = some (.slice e)) (hi : (P.info? e).map (fun i => (i.zero, i.size, i.bytes)) = some (some z, size, bytes)) (hzs : z.cells.size = size) (hsz : 0 < size)
  (v : Value) (n : Nat) (xs : List Value) (hs : a.eval s = v) (hown : w.ownsRow base e size v n xs)
  (ad : Addr) (m c : Nat) (news : List Value) (hx : a.eval x = .slice (some ad) m c) (hl : news.length = m * size) (hnews : SlV w (some ad) news) (h1 : ∀ u ∈ news, u.oneCell' = true)
  (h63 : n + m ≤ maxLen) (hbytes : (n + m) * bytes ≤ 140737488355328) (hbase : base ≤ w.heap.size)
  (h : ∀ a' n' cap' w', w'.ownsRow base e size (.slice a' n' cap') (n + m) (xs ++ news) → Frame (fun k => v.ownBlock = some k) w w' → ((Value.slice a' n' cap').ownBlock = v.ownBlock ∨ (Value.slice a' n' cap').ownBlock = some w.heap.size) → K (a.put o.dst (.slice a' n' cap')) w') :
  if Region.wanted o (yielded ops a.tmps) = true then Oper.wp P o a w K Q else E := by
 have hw : Region.wanted o (yielded ops a.tmps) = true := by simp [Region.wanted, hgd]
 rw [if_pos hw]
 refine op_appendV s x t ho base e z size bytes ht hi hzs hsz v n xs hs hown ad m c news hx hl hnews h1 h63 hbytes hbase ?_
 intro v' w' ho' hf hat
 obtain ⟨a', cap', rfl, _⟩ := owns_form ho'
 exact h a' _ cap' w' ho' hf hat
theorem Try.infoDigs : (Try.prog.info? 45).map (fun i => (i.zero, i.size, i.bytes)) = some (some (.agg #[.int .u8 0, .int .u8 0, .int .u8 0, .int .u8 0, .int .u8 0, .int .u8 0, .int .u8 0, .int .u8 0]), 8, 8) := by kernel_rfl
theorem Try.sizeCommit : (Try.prog.info? 49).map (·.size) = some 18 := by kernel_rfl
theorem ret_agg2 {fn : Func} {R : Ending → World → Prop} {a : Act} {w : World} {k k2 b T : Nat} {cs : List Value} {v2 : Value} {d : TypeDesc} (hf : fn.results = #[ResultVar.cell k T, ResultVar.tmp k2]) (ha : a.tmps.getD k undef = .pointer (some ⟨b, 0, none⟩)) (ha2 : a.tmps.getD k2 undef = v2)
  (hR : RowV w b T cs) (hu : Try.prog.underlying T = some d) (hd : d.isRow = true) (hi : (Try.prog.info? T).map (·.size) = some cs.length) (hdf : a.defers = []) (h : R (.returned (.tuple #[.agg cs.toArray, v2])) w) : bodyPost Try.prog fn R .ret a w := by
 refine bodyPost_ret (v := .tuple #[.agg cs.toArray, v2]) ?_ hdf h
 have hl := run_loadVar_mid (P := Try.prog) w b 0 T cs d hR.range hu hd hi
 have ha' : a.tmps[k]?.getD undef = .pointer (some ⟨b, 0, none⟩) := by rw [← ha]; simp [Array.getD_eq_getD_getElem?]
 have ha2' : a.tmps[k2]?.getD undef = v2 := by rw [← ha2]; simp [Array.getD_eq_getD_getElem?]
 unfold results
 rw [hf]
 simp [ha', ha2', hl, asAddr]
def commitC (epoch : Nat) (root : List UInt8) (size : Nat) (sum : List UInt8) : List Value := [.int .i64 (epoch : Int)] ++ root.map u8c ++ [.int .i64 (size : Int)] ++ sum.map u8c
def zero18 : List Value := [.int .i64 0, .int .u8 0, .int .u8 0, .int .u8 0, .int .u8 0, .int .u8 0, .int .u8 0, .int .u8 0, .int .u8 0, .int .i64 0, .int .u8 0, .int .u8 0, .int .u8 0, .int .u8 0, .int .u8 0, .int .u8 0, .int .u8 0, .int .u8 0]
end Go.Proofs.Ytekegfbjbainhaa


namespace Go.Proofs.Ytekegfbjbainhaa
open Go.RowKit
attribute [local go_sem ↓] Go.wp_at_zero Go.wp_at_succ
theorem partedN_pos (level : Nat) (l : List ItR) : 1 ≤ (partedN level l).length := (partF_length level l []).1
theorem grownF_length : ∀ (f level : Nat) (l : List ItR), 1 ≤ f → 1 ≤ (grownF f level l).length ∧ (grownF f level l).length ≤ f
 | 0, _, _, h => absurd h (by omega)
 | f + 1, level, l, _ => by
  unfold grownF
  split
  ·simp
  ·cases f with
   | zero => simp [grownF]
   | succ f' => have := grownF_length (f' + 1) (level + 1) (nextF level 0 (partedN level l)) (by omega); simp; omega
def rootLevel (l : List ItR) : Nat := (grownN l).length - 1
def rootPage (l : List ItR) : List ItR := ((grownN l)[(grownN l).length - 1]?.getD []).headD []
def rootB (l : List ItR) : List UInt8 := digB (codeB (rootLevel l) (rootPage l))
theorem rootB_length (l : List ItR) : (rootB l).length = 8 := rfl
end Go.Proofs.Ytekegfbjbainhaa


namespace Go.Proofs.Ytekegfbjbainhaa
open Go.RowKit
structure BS (w : World) (s : SlR) (l : List UInt8) : Prop where
 sl : SlB w s.a l
 n : s.n = l.length
 nil : s.a = none → s.cap = 0
 lt : ∀ x, s.a = some x → x.block < w.heap.size
theorem BS.frame {w w' : World} {S : Nat → Prop} {s : SlR} {l : List UInt8} (h : BS w s l) (hf : Frame S w w') (hS : ∀ x, s.a = some x → ¬ S x.block) : BS w' s l := ⟨h.sl.frame hf hS, h.n, h.nil, fun x hx => Nat.lt_of_lt_of_le (h.lt x hx) hf.size⟩
theorem BS.below {w w' : World} {s : SlR} {l : List UInt8} (h : BS w s l) (hf : Below w.heap.size w w') : BS w' s l := ⟨h.sl.below hf (Nat.le_refl _), h.n, h.nil, fun x hx => Nat.lt_of_lt_of_le (h.lt x hx) hf.size⟩
set_option maxRecDepth 100000 in
theorem isKey_any (a : Option Addr) (n cap : Nat) (w : World) (hn : n ≤ maxLen) :
  Calls Try.prog 36 #[.slice a n cap] w fun e w' => e = .returned (.bool (decide (1 ≤ n) && decide (n ≤ 12))) ∧ w' = w := by
 unfold maxLen at hn
 by_cases h1 : 1 ≤ n
 ·by_cases h2 : n ≤ 12
  ·have h1' : (1 : Int) ≤ n := by omega
   have h2' : (n : Int) ≤ 12 := by omega
   go_enter Try.func36, Try.ntmps36
   go_wp2
   go_ret
   exact ⟨by simp [h1, h2], rfl⟩
  ·have h1' : (1 : Int) ≤ n := by omega
   have h2' : ¬ (n : Int) ≤ 12 := by omega
   go_enter Try.func36, Try.ntmps36
   go_wp2
   go_ret
   exact ⟨by simp [h1, h2], rfl⟩
 ·have h1' : ¬ (1 : Int) ≤ n := by omega
  go_enter Try.func36, Try.ntmps36
  go_wp2
  go_ret
  exact ⟨by simp [h1], rfl⟩
set_option maxRecDepth 100000 in
theorem isValue_any (a : Option Addr) (n cap : Nat) (w : World) (hn : n ≤ maxLen) :
  Calls Try.prog 53 #[.slice a n cap] w fun e w' => e = .returned (.bool (decide (n ≤ 12))) ∧ w' = w := by
 unfold maxLen at hn
 by_cases h2 : n ≤ 12
 ·have h2' : (n : Int) ≤ 12 := by omega
  go_enter Try.func53, Try.ntmps53
  go_wp2
  go_ret
  exact ⟨by simp [h2], rfl⟩
 ·have h2' : ¬ (n : Int) ≤ 12 := by omega
  go_enter Try.func53, Try.ntmps53
  go_wp2
  go_ret
  exact ⟨by simp [h2], rfl⟩
theorem run_loadBytes {P : Program} {w : World} (b : Nat) : ∀ (l : List UInt8) (o : Nat) (acc : ByteArray), (∀ i (h : i < l.length), w.cell? ⟨b, o + i, none⟩ = some (.int .u8 (l[i].toNat : Int))) →
  (Extern.Bytes.loadBytes ⟨b, o, none⟩ l.length acc).run P w = .ok ⟨acc.data ++ l.toArray⟩ w
 | [], o, acc, h => by simp [Extern.Bytes.loadBytes]
 | x :: l, o, acc, h => by
  have h0 := h 0 (by simp)
  have ih := run_loadBytes (P := P) (w := w) b l (o + 1) (acc.push x) (fun i hi => by
   have := h (i + 1) (by simpa using hi)
   rw [show o + 1 + i = o + (i + 1) by omega]
   simpa using this)
  simp only [Nat.add_zero, List.getElem_cons_zero] at h0
  have hx : ((x.toNat : Int)).toNat.toUInt8 = x := by simp
  have ha : (Addr.add ⟨b, o, none⟩ 1) = ⟨b, o + 1, none⟩ := rfl
  have hl : (Go.load ⟨b, o, none⟩).run P w = .ok (.int .u8 (x.toNat : Int)) w := by
   simp [h0]
  simp only [List.length_cons, Extern.Bytes.loadBytes, Sem.run_bind, hl, Result.andThen, hx, ha, ih]
  congr 2
  simp [ByteArray.push]
theorem run_bytesOf {P : Program} {w : World} {s : SlR} {l : List UInt8} (h : BS w s l) : (Extern.Bytes.bytesOf s.val).run P w = .ok ⟨l.toArray⟩ w := by
 obtain ⟨a, n, cap⟩ := s
 obtain ⟨hs, hn, hnil, _⟩ := h
 simp only at hs hn hnil
 subst hn
 cases a with
 | none =>
  cases l with
  | nil => simp [SlR.val, Extern.Bytes.bytesOf]; rfl
  | cons y r => obtain ⟨b, o, ha, _⟩ := hs 0 (by simp); cases ha
 | some x =>
  simp only [SlR.val, Extern.Bytes.bytesOf]
  cases l with
  | nil => simp [Extern.Bytes.loadBytes]; rfl
  | cons y r =>
   obtain ⟨b, o, ha, _⟩ := hs 0 (by simp)
   cases ha
   rw [run_loadBytes b (y :: r) o _ (fun i hi => by
    obtain ⟨b', o', ha', _, hc⟩ := hs i hi
    cases ha'; exact hc)]
   congr 2
   simp [ByteArray.empty, ByteArray.emptyWithCapacity]
   try rfl
theorem run_compare {P : Program} {w : World} {s t : SlR} {l m : List UInt8} (h : BS w s l) (k : BS w t m) :
  (Extern.BytealgCompare.compare #[s.val, t.val]).run P w = .ok (.int .i64 (Lib.compareBytes l m)) w := by
 change Sem.run P (do pure (goInt (Extern.BytealgCompare.cmp (← Extern.Bytes.bytesOf s.val) (← Extern.Bytes.bytesOf t.val)))) w = _
 simp only [Sem.run_bind, Sem.run_pure, Result.andThen, run_bytesOf h, run_bytesOf k]
 rw [Lib.cmp_eq]
 rfl
theorem cmp_neg : ∀ (l m : List UInt8), (Lib.compareBytes l m < 0) ↔ Op.bytesLess l m = true
 | [], [] => by simp [Lib.compareBytes, Op.bytesLess]
 | [], _ :: _ => by simp [Lib.compareBytes, Op.bytesLess]
 | _ :: _, [] => by simp [Lib.compareBytes, Op.bytesLess]
 | a :: l, b :: m => by
  have ih := cmp_neg l m
  unfold Lib.compareBytes Op.bytesLess
  by_cases h1 : a < b
  ·simp [h1]
  ·by_cases h2 : b < a
   ·have hne : ¬ a = b := fun e => by subst e; exact UInt8.lt_irrefl _ h2
    simp [h1, h2, hne]
   ·have he : a = b := UInt8.le_antisymm (UInt8.not_lt.1 h2) (UInt8.not_lt.1 h1)
    subst he
    simp [h1, ih]
theorem cmp_zero : ∀ (l m : List UInt8), (Lib.compareBytes l m = 0) ↔ l = m
 | [], [] => by simp [Lib.compareBytes]
 | [], _ :: _ => by simp [Lib.compareBytes]
 | _ :: _, [] => by simp [Lib.compareBytes]
 | a :: l, b :: m => by
  have ih := cmp_zero l m
  unfold Lib.compareBytes
  by_cases h1 : a < b
  ·have hne : ¬ a = b := fun e => by subst e; exact UInt8.lt_irrefl _ h1
   simp [h1, hne]
  ·by_cases h2 : b < a
   ·have hne : ¬ a = b := fun e => by subst e; exact UInt8.lt_irrefl _ h2
    simp [h1, h2, hne]
   ·have he : a = b := UInt8.le_antisymm (UInt8.not_lt.1 h2) (UInt8.not_lt.1 h1)
    subst he
    simp [h1, ih]
set_option maxRecDepth 100000 in
theorem compare_any (s t : SlR) (l m : List UInt8) (w : World) (h : BS w s l) (k : BS w t m) :
  Calls Try.prog 44 #[s.val, t.val] w fun e w' => e = .returned (.int .i64 (Lib.compareBytes l m)) ∧ w' = w := by
 have hc := run_compare (P := Try.prog) h k
 unfold SlR.val at hc ⊢
 go_enter Try.func44, Try.ntmps44
 go_wp2
 rw [run_callFunc_extern Try.func65 (by kernel_rfl) (by kernel_rfl) (by kernel_rfl) (e := Extern.BytealgCompare.compare) (by kernel_rfl), hc]
 simp only [Result.andThen]
 rw [Oper.upon_value]
 go_wp2
 go_ret
 exact ⟨rfl, rfl⟩
end Go.Proofs.Ytekegfbjbainhaa
