import Derived.Test.YtekegfbjbainhaaKJoin5
import Derived.Maps.Keyed
import Derived.DeepKeys4
import Derived.LaidEqlPtr
import Derived.Lib.Builder
import Derived.MapKept
set_option linter.unusedVariables false
set_option linter.unusedSimpArgs false

namespace Go.Proofs.Ytekegfbjbainhaa
open Go.RowKit
theorem Try.laidOutP : laidOutB Try.prog = true := by kernel_rfl
theorem Try.rowDig : (45 : TypeId) < Try.prog.types.size := of_decide_eq_true (by kernel_rfl)
set_option maxRecDepth 100000 in
theorem Try.wideDig : (match Try.prog.underlying 45 with | some (.array _ _) | some (.struct _) => true | _ => false) = true := by rw [Try.underlying45]
set_option maxRecDepth 100000 in
theorem Try.digLaw : Maps.Keyed Try.prog 45 := Maps.Keyed.of_law (deep_law_laid Try.laidOutP (m := 2) (by omega) Try.rowDig (by kernel_rfl) Try.wideDig)
theorem Try.undDig : Try.prog.underlying 45 = some (.array 8 5) := Try.underlying45
theorem Try.cellsDig : Try.prog.cellsOf 45 = 8 := by kernel_rfl
theorem Try.cellsU8 : Try.prog.cellsOf 5 = 1 := by kernel_rfl
theorem Try.keyDig : Try.prog.keyType 45 = true := by kernel_rfl
theorem keyLits_u8 (m : Nat) (x : UInt8) : Try.prog.keyLits (m + 1) 5 [u8c x] = some [.int .u8 (x.toNat : Int)] := by
 have hx := x.toNat_lt
 unfold Program.keyLits u8c
 simp only [Try.underlying5]
 have hw : (Lit.int .u8 (x.toNat : Int)).wf = true := WalkArith.wf_u8 ⟨by omega, by omega⟩
 simp [hw]
theorem keyOf_dig (d : List UInt8) (hd : d.length = 8) : ∃ l, keyOf Try.prog 45 (dV d) = some l := by
 obtain ⟨x0, x1, x2, x3, x4, x5, x6, x7, rfl⟩ := list8 d hd
 obtain ⟨m, hm⟩ : ∃ m, Try.prog.types.size + 1 = m + 1 + 1 := ⟨Try.prog.types.size - 1, by have h : 45 < Try.prog.types.size := Try.rowDig; omega⟩
 have h1 : Try.prog.keyLits (m + 1 + 1) 45 ((([x0, x1, x2, x3, x4, x5, x6, x7].map u8c).toArray).toList) = some [.int .u8 (x0.toNat : Int), .int .u8 (x1.toNat : Int), .int .u8 (x2.toNat : Int), .int .u8 (x3.toNat : Int), .int .u8 (x4.toNat : Int), .int .u8 (x5.toNat : Int), .int .u8 (x6.toNat : Int), .int .u8 (x7.toNat : Int)] := by
  unfold Program.keyLits
  simp only [Try.undDig, Try.cellsDig, Try.cellsU8]
  simp [List.range, List.range.loop, keyLits_u8]
 unfold keyOf
 rw [Try.undDig]
 have hf : (dV [x0, x1, x2, x3, x4, x5, x6, x7]).formed Try.prog 45 = true := by
  simp [dV, Value.formed, Try.undDig, Try.cellsDig]
 simp only [Try.keyDig, hf, Bool.and_self, if_true, hm]
 have hc : (dV [x0, x1, x2, x3, x4, x5, x6, x7]).cells.toList = ((([x0, x1, x2, x3, x4, x5, x6, x7].map u8c).toArray).toList) := rfl
 rw [hc, h1]
 exact ⟨_, rfl⟩
structure Nd where
 b : Nat
 la : SlR
 by_ : SlR
 be : SlR
 level : Nat
 its : List ItR
 bl : List Nat
def ptrV (b : Nat) : Value := .pointer (some ⟨b, 0, none⟩)
def ndC (x : Nd) : List Value := [x.la.val, x.by_.val] ++ (digB (codeB x.level x.its)).map u8c ++ [x.be.val]
structure PgL (level : Nat) (its : List ItR) : Prop where
 ok : ∀ x ∈ its, ItOk x
 more8 : level ≠ 0 → ∀ x ∈ its, x.more.length = 8
 norm : ∀ x ∈ its, x.below = 0
 len : its.length ≤ 200
 lv : level ≤ 6
structure NdOk (w : World) (x : Nd) : Prop where
 row : RowV w x.b 117 (ndC x)
 la : BS w x.la (lastK x.its)
 by_ : BS w x.by_ (codeB x.level x.its)
 be : SlV w x.be.a (x.bl.map ptrV)
 ben : x.be.n = x.bl.length
 belt : ∀ y, x.be.a = some y → y.block < w.heap.size
 pg : PgL x.level x.its
 blrow : ∀ b ∈ x.bl, ∃ cs, RowV w b 117 cs
 blc : x.bl.length ≤ 1000
def ndF (x : Nd) (k : Nat) : Prop := k = x.b ∨ (∃ y, x.la.a = some y ∧ y.block = k) ∨ (∃ y, x.by_.a = some y ∧ y.block = k) ∨ (∃ y, x.be.a = some y ∧ y.block = k) ∨ k ∈ x.bl
theorem NdOk.frame {w w' : World} {S : Nat → Prop} {x : Nd} (h : NdOk w x) (hf : Frame S w w') (hS : ∀ k, ndF x k → ¬ S k) : NdOk w' x :=
 ⟨h.row.of_block (hf.block _ h.row.lt (hS _ (Or.inl rfl))), h.la.frame hf (fun y hy => hS _ (Or.inr (Or.inl ⟨y, hy, rfl⟩))), h.by_.frame hf (fun y hy => hS _ (Or.inr (Or.inr (Or.inl ⟨y, hy, rfl⟩)))),
  h.be.frame hf (fun y hy => hS _ (Or.inr (Or.inr (Or.inr (Or.inl ⟨y, hy, rfl⟩))))), h.ben, fun y hy => Nat.lt_of_lt_of_le (h.belt y hy) hf.size, h.pg, fun b hb => by
   obtain ⟨cs, hr⟩ := h.blrow b hb
   exact ⟨cs, hr.of_block (hf.block _ hr.lt (hS _ (Or.inr (Or.inr (Or.inr (Or.inr hb))))))⟩, h.blc⟩
theorem NdOk.below {w w' : World} {x : Nd} (h : NdOk w x) (hb : Below w.heap.size w w') : NdOk w' x := h.frame (Frame.of_below_all (S := fun _ => False) hb) (fun _ _ e => e)
theorem NdOk.lt {w : World} {x : Nd} (h : NdOk w x) : ∀ k, ndF x k → k < w.heap.size := fun k hk => by
 rcases hk with rfl | ⟨y, hy, rfl⟩ | ⟨y, hy, rfl⟩ | ⟨y, hy, rfl⟩ | hb
 ·exact h.row.lt
 ·exact h.la.lt y hy
 ·exact h.by_.lt y hy
 ·exact h.belt y hy
 ·obtain ⟨cs, hr⟩ := h.blrow k hb
  exact hr.lt
structure MEn where
 d : List UInt8
 s : SlR
 ns : List Nd
def KMut (sb : Nat) (mp : Option Nat) (es : List MEn) (k : Nat) : Prop := k = sb ∨ mp = some k ∨ ∃ e ∈ es, e.s.val.ownBlock = some k
def MapAt (w : World) (mp : Option Nat) (es : List MEn) : Prop :=
 match mp with
 | none => es = []
 | some m => ∃ (arr : Array MapEntry) (clock : Nat), w.heap[m]? = some (.map arr clock) ∧ arr.toList.map (fun e => (e.key, e.val)) = es.map (fun e => (dV e.d, e.s.val)) ∧ (arr.toList.map (·.born)).Nodup ∧ (∀ e ∈ arr.toList, e.born < clock)
structure KnownAt (w : World) (sb : Nat) (mp : Option Nat) (es : List MEn) (N : Nat) : Prop where
 map : MapAt w mp es
 d8 : ∀ e ∈ es, e.d.length = 8
 own : ∀ e ∈ es, w.ownsRow 0 96 1 e.s.val e.ns.length (e.ns.map (fun x => ptrV x.b))
 nodes : ∀ e ∈ es, ∀ x ∈ e.ns, NdOk w x
 apart : ∀ (i j : Nat) (e f : MEn), i ≠ j → es[i]? = some e → es[j]? = some f → ∀ k, e.s.val.ownBlock = some k → f.s.val.ownBlock ≠ some k
 foot : ∀ e ∈ es, ∀ x ∈ e.ns, ∀ k, ndF x k → ¬ KMut sb mp es k
 msb : ∀ e ∈ es, ∀ k, e.s.val.ownBlock = some k → k ≠ sb ∧ mp ≠ some k
 cnt : ∀ e ∈ es, e.ns.length ≤ N
 kd : (es.map (·.d)).Nodup
end Go.Proofs.Ytekegfbjbainhaa


namespace Go.Proofs.Ytekegfbjbainhaa
open Go.RowKit
set_option maxRecDepth 100000 in
theorem bytesEqual_any (s t : SlR) (l m : List UInt8) (w : World) (h : BS w s l) (k : BS w t m) :
  Calls Try.prog 99 #[s.val, t.val] w fun e w' => e = .returned (.bool (l == m)) ∧ w' = w := by
 have h1 := run_string_SlB (P := Try.prog) w 35 9 5 s.a s.n s.cap l Try.underlying35 Try.underlying5 Try.underlying9 h.n h.sl h.nil
 have h2 := run_string_SlB (P := Try.prog) w 35 9 5 t.a t.n t.cap m Try.underlying35 Try.underlying5 Try.underlying9 k.n k.sl k.nil
 clear h k
 unfold SlR.val
 go_enter Try.func99, Try.ntmps99
 go_wp2
 go_ret
 exact ⟨by simp, rfl⟩
theorem SlV.ptr {w : World} {a : Option Addr} {l : List Nat} (h : SlV w a (l.map ptrV)) (i : Nat) (hi : i < l.length) : ∃ b o, a = some ⟨b, o, none⟩ ∧ b < w.heap.size ∧ w.cell? ⟨b, o + i, none⟩ = some (.pointer (some ⟨l[i], 0, none⟩)) := by
 obtain ⟨b, o, ha, hb, hc⟩ := h i (by simpa using hi)
 exact ⟨b, o, ha, hb, by rw [hc]; simp [ptrV]⟩
theorem run_neq_ptr_other {P : Program} (w : World) {tp te : TypeId} {j : TypeInfo} {a b : Addr} {ca cb : Array Value} {ta tb : TypeId} (hp : P.underlying tp = some (.pointer te)) (hte : P.info? te = some j) (hsz : j.size ≠ 0)
  (hne : a ≠ b) (ha : w.heap[a.block]? = some (.cells ca ta (0, 0))) (hb : w.heap[b.block]? = some (.cells cb tb (0, 0))) :
  (binOp .neq tp (.pointer (some a)) (.pointer (some b))).run P w = .ok (.bool true) w := by
 have h : ∀ d : Nat, (Op.equalIn (d + 1) tp (.pointer (some a)) (.pointer (some b))).run P w = .ok false w := fun d => by
  simp [Op.equalIn, run_underlying hp, sizeOf, typeInfo, hte, hsz, run_sameAddr_other w hne ha hb]
 simp only [binOp]
 simp [Op.equal, Op.maxDepth, h 9999]
theorem Try.infoNode : ∃ j, Try.prog.info? 117 = some j ∧ j.size ≠ 0 := by
 have h : (Try.prog.info? 117).map (·.size) = some 11 := by kernel_rfl
 cases hj : Try.prog.info? 117 with
 | none => simp [hj] at h
 | some j => simp [hj] at h; exact ⟨j, rfl, by omega⟩
set_option maxRecDepth 100000 in
set_option maxHeartbeats 1000000 in
theorem nodesEqual_any (s t : SlR) (l m : List Nat) (w : World) (hs : SlV w s.a (l.map ptrV)) (hn : s.n = l.length) (ht : SlV w t.a (m.map ptrV)) (hm : t.n = m.length) (hl : l.length ≤ 1000) (hml : m.length ≤ 1000) (hrow : ∀ b ∈ l ++ m, ∃ t cs, RowV w b t cs) :
  Calls Try.prog 100 #[s.val, t.val] w fun e w' => e = .returned (.bool (l == m)) ∧ ∃ n, w' = w.drewN n := by
 obtain ⟨sa, sn, sc⟩ := s
 obtain ⟨ta, tn, tc⟩ := t
 simp only at hs hn ht hm
 subst hn hm
 unfold SlR.val
 simp only
 by_cases hlen : l.length = m.length
 ·have hI : ((l.length : Int) != (m.length : Int)) = false := by simp [hlen]
  have HC : Hid (∀ (q : Nat) k (h1 : k < l.length) (h2 : k < m.length), ∃ b o b2 o2, sa = some ⟨b, o, none⟩ ∧ ta = some ⟨b2, o2, none⟩ ∧ w.cell? ⟨b, o + k, none⟩ = some (.pointer (some ⟨l[k], 0, none⟩)) ∧ w.cell? ⟨b2, o2 + k, none⟩ = some (.pointer (some ⟨m[k], 0, none⟩))) := fun q k h1 h2 => by
   obtain ⟨b, o, e1, _, c1⟩ := SlV.ptr hs k h1
   obtain ⟨b2, o2, e2, _, c2⟩ := SlV.ptr ht k h2
   exact ⟨b, o, b2, o2, e1, e2, c1, c2⟩
  obtain ⟨jN, hjN, hjS⟩ := Try.infoNode
  have HSAME : Hid (∀ (W : World) (p : Nat), (binOp .neq 96 (.pointer (some ⟨p, 0, none⟩)) (.pointer (some ⟨p, 0, none⟩))).run Try.prog W = .ok (.bool false) W) := fun W p => Lib.run_neq_ptr_same W _ Try.underlying96 hjN
  have HOTH : Hid (∀ (q n p p2 : Nat), p ∈ l ++ m → p2 ∈ l ++ m → p ≠ p2 → (binOp .neq 96 (.pointer (some ⟨p, 0, none⟩)) (.pointer (some ⟨p2, 0, none⟩))).run Try.prog ((w.drewN q).drewN n) = .ok (.bool true) ((w.drewN q).drewN n)) := fun q n p p2 h1 h2 hne => by
   obtain ⟨t1, c1, r1⟩ := hrow p h1
   obtain ⟨t2, c2, r2⟩ := hrow p2 h2
   exact run_neq_ptr_other _ Try.underlying96 hjN hjS (fun e => hne (by cases e; rfl)) r1 r2
  have HLN : Hid (l.length = m.length) := hlen
  have HLI : Hid ((l.length : Int) = m.length) := by unfold Hid; omega
  obtain ⟨n, hnn⟩ : ∃ n, n = l.length := ⟨_, rfl⟩
  have HNN : Hid (l.length = n) := hnn.symm
  rw [← hlen, ← hnn]
  have hn1 : (n : Int) ≤ 1000 := by omega
  clear hs ht hI hlen hnn hml hl hrow hjN hjS
  go_enter Try.func100, Try.ntmps100
  go_wp2
  go_loopw [5, 13] (fun _ ix wr => ∃ k q : Nat, k ≤ n ∧ ix = .int .i64 k ∧ wr = w.drewN q ∧ Hid (l.take k = m.take k)) (fun _ ix _ => n - (intOf ix).toNat)
  case atStart => exact ⟨0, 0, by omega, by simp, rfl, by simp [Hid]⟩
  case round =>
   obtain ⟨k, q, hk, rfl, rfl, HT⟩ := hrel
   by_cases hlt : k < n
   ·have hltI : (k : Int) < n := by omega
    have hl1 : k < l.length := by have := HNN.out; omega
    have hm1 : k < m.length := by have := HNN.out; have := HLN.out; omega
    obtain ⟨b, o, b2, o2, rfl, rfl, c1, c2⟩ := HC.out q k hl1 hm1
    by_cases he : l[k] = m[k]
    ·have HT2 : Hid (l.take (k + 1) = m.take (k + 1)) := by
      unfold Hid; rw [List.take_succ_eq_append_getElem hl1, List.take_succ_eq_append_getElem hm1, HT.out, he]
     rw [he] at c1
     generalize m[k] = pk at *
     clear he
     have hsm := fun W => HSAME.out W pk
     go_wp2
     go_quiet (fail)
     go_wp2
     refine ⟨⟨k + 1, _, by omega, by go_num, rfl, HT2⟩, by simp [intOf]; omega⟩
    ·have HF : Hid ((l == m) = false) := by
      unfold Hid
      cases h : l == m with
      | false => rfl
      | true => exfalso; have e := eq_of_beq h; subst e; exact he rfl
     have hoth := fun n => HOTH.out q n l[k] m[k] (List.mem_append_left _ (List.getElem_mem hl1)) (List.mem_append_right _ (List.getElem_mem hm1)) he
     have hoth2 := fun n => HOTH.out 0 n l[k] m[k] (List.mem_append_left _ (List.getElem_mem hl1)) (List.mem_append_right _ (List.getElem_mem hm1)) he
     have hoth3 : ∀ n, (binOp .neq 96 (.pointer (some ⟨l[k], 0, none⟩)) (.pointer (some ⟨m[k], 0, none⟩))).run Try.prog (w.drewN n) = .ok (.bool true) (w.drewN n) := fun n => by have := hoth2 n; simpa using this
     clear hoth2
     generalize l[k] = pl at *
     generalize m[k] = pk at *
     go_wp2
     go_quiet (fail)
     go_wp2
     go_ret
     refine ⟨by rw [HF.out]; rfl, ?_⟩
     first
      | exact ⟨_, rfl⟩
      | exact ⟨q + nq, by simp [World.drewN, Nat.add_assoc]⟩
   ·have HE : Hid ((l == m) = true) := by
     have h1 := HT.out
     rw [List.take_of_length_le (by have := HNN.out; omega), List.take_of_length_le (by have := HNN.out; have := HLN.out; omega)] at h1
     unfold Hid; rw [h1]; simp
    have hltI : ¬ (k : Int) < n := by omega
    go_wp2
    go_ret
    exact ⟨by rw [HE.out]; rfl, _, rfl⟩
 ·have hI : ((l.length : Int) != (m.length : Int)) = true := by simp; omega
  have HE : Hid ((l == m) = false) := by
   unfold Hid
   cases h : l == m with
   | false => rfl
   | true => exact absurd (by rw [eq_of_beq h]) hlen
  go_enter Try.func100, Try.ntmps100
  go_wp2
  go_ret
  exact ⟨by rw [HE.out]; rfl, 0, rfl⟩
set_option maxRecDepth 100000 in
set_option maxHeartbeats 1000000 in
theorem nodesClone_any (s : SlR) (l : List Nat) (w : World) (hs : SlV w s.a (l.map ptrV)) (hn : s.n = l.length) (hnil : s.a = none → s.cap = 0) (hl : l.length ≤ 1000) :
  Calls Try.prog 102 #[s.val] w fun e w' => ∃ s' : SlR, e = .returned s'.val ∧ SlV w' s'.a (l.map ptrV) ∧ s'.n = l.length ∧ (∀ x, s'.a = some x → w.heap.size ≤ x.block ∧ x.block < w'.heap.size) ∧ Below w.heap.size w w' := by
 obtain ⟨a, n, cap⟩ := s
 simp only at hs hn hnil
 unfold SlR.val
 have he := fun w => run_eql_slice_nil (P := Try.prog) w 87 96 a n cap Try.underlying87
 cases a with
 | none =>
  obtain rfl : l = [] := by
   cases l with
   | nil => rfl
   | cons y r => obtain ⟨b, o, ha, _⟩ := hs 0 (by simp); cases ha
  obtain rfl : n = 0 := by simpa using hn
  obtain rfl := hnil rfl
  clear hs hn hnil hl
  go_enter Try.func102, Try.ntmps102
  go_wp2
  go_ret
  exact ⟨⟨none, 0, 0⟩, rfl, SlV.nil _ _, rfl, (fun x hx => by cases hx), Below.refl _ _⟩
 | some x =>
  have hb1 : (w.alloc (.cells #[] 96)).ownsRow w.heap.size 96 1 (.slice (some ⟨w.heap.size, 0, none⟩) 0 0) 0 [] := owns_built w w.heap.size _ 1 0 [] (Nat.le_refl _) rfl (by simp [maxLen])
  have hs1 : SlV (w.alloc (.cells #[] 96)) (some x) (l.map ptrV) := hs.below_all ((Below.refl _ _).alloc (Nat.le_refl _) _)
  have HN : Hid (n = l.length) := hn
  have H1 : Hid (∀ u ∈ l.map ptrV, u.oneCell' = true) := fun u hu => by obtain ⟨y, _, rfl⟩ := List.mem_map.1 hu; rfl
  have HL : Hid ((l.map ptrV).length = n * 1) := by unfold Hid; simp [hn]
  clear hn hs
  go_enter Try.func102, Try.ntmps102
  go_wp2_with (at_builtin; refine wp_appendV (by rfl) (.tmp 5) (.tmp 6) 87 (by rfl) w.heap.size 96 _ 1 8 Try.underlying87 Try.infoNodeP rfl (by decide) (.slice (some ⟨w.heap.size, 0, none⟩) 0 0) 0 [] (by rfl) hb1 (some x) n cap (l.map ptrV) (by rfl) HL.out hs1 (fun h => by cases h) H1.out (by have := HN.out; unfold maxLen; omega) (by have := HN.out; omega) (by simp) ?_; intro v3 w3 ho3 hf3 hat3; obtain ⟨a3, c3, hv3, hs3, hn3, hx3, _⟩ := owns_form ho3; subst hv3)
  go_ret
  refine ⟨⟨a3, n, c3⟩, rfl, by simpa using hs3, HN.out, fun y hy => ⟨(hx3 y hy).2.2.1, (hx3 y hy).2.2.2⟩, ?_⟩
  exact ((Below.refl _ _).alloc (Nat.le_refl _) _).trans (hf3.below (by simp) (fun k hk => by simp [Value.ownBlock] at hk; omega))
set_option maxRecDepth 100000 in
set_option maxHeartbeats 1000000 in
theorem lastKey_any (a : Option Addr) (n cap : Nat) (xs : List EnP) (w : World) (hn : n = xs.length) (hl : xs.length ≤ 1000) (hs : SlE w a xs) (h8 : ∀ x ∈ xs, x.d.length = 8) :
  Calls Try.prog 101 #[.slice a n cap] w fun e w' => e = .returned ((xs.getLast?.map (fun x => x.k.val)).getD (.slice none 0 0)) ∧ w' = w := by
 cases hx : xs.getLast? with
 | none =>
  have : xs = [] := by simpa using hx
  subst this
  obtain rfl : n = 0 := by simpa using hn
  clear hn hl hs h8
  go_enter Try.func101, Try.ntmps101
  go_wp2
  go_ret
  exact ⟨rfl, rfl⟩
 | some x =>
  have hne : xs ≠ [] := by intro e; subst e; simp at hx
  have hpos := List.length_pos_iff.2 hne
  have hlast : xs[xs.length - 1]'(by omega) = x := by
   rw [List.getLast?_eq_getElem?, List.getElem?_eq_getElem (by omega)] at hx
   exact Option.some.inj hx
  obtain ⟨b, o, rfl, hb, hr⟩ := SlE.range hs h8 (xs.length - 1) (by omega)
  rw [hlast] at hr
  obtain ⟨m, rfl⟩ : ∃ m, n = m + 1 := ⟨n - 1, by omega⟩
  have c0 : w.cell? ⟨b, o + m * 10, none⟩ = some (.slice x.k.a x.k.n x.k.cap) := by
   have := hr 0 x.k.val rfl
   rw [show xs.length - 1 = m by omega] at this
   exact this
  have hm1 : (m : Int) ≤ 1000 := by omega
  have hm2 : ((m : Int) + 1 == 0) = false := by simp; omega
  have hm3 : (m : Int) + 1 - 1 = m := by omega
  have hm4 : (m : Int) < (m : Int) + 1 := by omega
  clear hn hl hs h8 hx hne hpos hlast hr
  unfold SlR.val
  go_enter Try.func101, Try.ntmps101
  go_wp2
  go_ret
  exact ⟨rfl, rfl⟩
end Go.Proofs.Ytekegfbjbainhaa


namespace Go.Proofs.Ytekegfbjbainhaa
open Go.RowKit
structure MapIs (w : World) (m : Nat) (arr : Array MapEntry) (clock : Nat) (es : List MEn) : Prop where
 heap : w.heap[m]? = some (.map arr clock)
 kv : arr.toList.map (fun e => (e.key, e.val)) = es.map (fun e => (dV e.d, e.s.val))
 nodup : (arr.toList.map (·.born)).Nodup
 lt : ∀ e ∈ arr.toList, e.born < clock
theorem MapIs.len {w : World} {m : Nat} {arr : Array MapEntry} {clock : Nat} {es : List MEn} (h : MapIs w m arr clock es) : arr.size = es.length := by
 have := congrArg List.length h.kv
 simpa using this
theorem MapIs.at {w : World} {m : Nat} {arr : Array MapEntry} {clock : Nat} {es : List MEn} (h : MapIs w m arr clock es) (j : Nat) (e : MapEntry) (hj : arr.toList[j]? = some e) : ∃ f, es[j]? = some f ∧ e.key = dV f.d ∧ e.val = f.s.val := by
 have h1 : (arr.toList.map (fun e => (e.key, e.val)))[j]? = some (e.key, e.val) := by rw [List.getElem?_map, hj]; rfl
 rw [h.kv, List.getElem?_map] at h1
 cases hf : es[j]? with
 | none => rw [hf] at h1; simp at h1
 | some f =>
  rw [hf] at h1
  simp only [Option.map_some, Option.some.injEq, Prod.mk.injEq] at h1
  exact ⟨f, rfl, h1.1.symm, h1.2.symm⟩
theorem dV_inj {d e : List UInt8} (h : dV d = dV e) : d = e := by
 have h : d.map u8c = e.map u8c := by
  have := congrArg Array.toList (Value.agg.inj h)
  simpa using this
 have hj : ∀ x y : UInt8, u8c x = u8c y → x = y := fun x y hxy => by
  unfold u8c at hxy
  simp only [Value.int.injEq, true_and] at hxy
  exact UInt8.toNat_inj.1 (by omega)
 exact (List.map_inj_right hj).1 h
theorem find_dig {w : World} {m : Nat} {arr : Array MapEntry} {clock : Nat} {es : List MEn} (h : MapIs w m arr clock es) (h8 : ∀ e ∈ es, e.d.length = 8) (hk : (es.map (·.d)).Nodup) (d : List UInt8) (hd : d.length = 8) :
  ((∀ W, (Instr.findKey 45 (dV d) arr.toList).run Try.prog W = .ok none W) ∧ d ∉ es.map (·.d)) ∨ ∃ j e f, (∀ W, (Instr.findKey 45 (dV d) arr.toList).run Try.prog W = .ok (some (j, e.val)) W) ∧ arr.toList[j]? = some e ∧ es[j]? = some f ∧ e.key = dV d ∧ f.d = d ∧ e.val = f.s.val := by
 obtain ⟨l, hl⟩ := keyOf_dig d hd
 have hall : ∀ e ∈ arr.toList, ∃ l, keyOf Try.prog 45 e.key = some l := fun e he => by
  obtain ⟨j, hj⟩ := List.getElem?_of_mem he
  obtain ⟨f, hf, hk, _⟩ := h.at j e hj
  rw [hk]; exact keyOf_dig f.d (h8 f (List.mem_of_getElem? hf))
 by_cases hin : d ∈ es.map (·.d)
 ·obtain ⟨j, hj⟩ := List.getElem?_of_mem hin
  have hjl : j < arr.toList.length := by
   have h1 := h.len
   have h2 := (List.getElem?_eq_some_iff.1 hj).1
   simp at h2 ⊢; omega
  have he : arr.toList[j]? = some arr.toList[j] := List.getElem?_eq_getElem hjl
  obtain ⟨f, hf, hkf, hv⟩ := h.at j _ he
  have hfd : f.d = d := by
   rw [List.getElem?_map, hf] at hj
   exact Option.some.inj hj
  refine Or.inr ⟨j, arr.toList[j], f, fun W => ?_, he, hf, by rw [hkf, hfd], hfd, hv⟩
  rcases Try.digLaw.find W hl arr.toList hall with ⟨_, g⟩ | ⟨j', e', g, g2, g3⟩
  ·exact absurd (by rw [hkf, hfd]) (g arr.toList[j] (List.getElem_mem hjl))
  ·obtain ⟨f', hf', hk', _⟩ := h.at j' e' g2
   have hd' : f'.d = d := dV_inj (hk'.symm.trans g3)
   have hjj : j' = j := by
    have e1 : (es.map (·.d))[j']? = some d := by rw [List.getElem?_map, hf']; simp [hd']
    obtain ⟨p1, q1⟩ := List.getElem?_eq_some_iff.1 e1
    obtain ⟨p2, q2⟩ := List.getElem?_eq_some_iff.1 hj
    exact (List.getElem_inj hk).1 (q1.trans q2.symm)
   subst hjj
   rw [he] at g2
   rw [g, ← Option.some.inj g2]
 ·refine Or.inl ⟨fun W => ?_, hin⟩
  rcases Try.digLaw.find W hl arr.toList hall with ⟨g, _⟩ | ⟨j', e', g, g2, g3⟩
  ·exact g
  ·obtain ⟨f', hf', hk', _⟩ := h.at j' e' g2
   exact absurd (List.mem_map.2 ⟨f', List.mem_of_getElem? hf', dV_inj (hk'.symm.trans g3)⟩) hin
theorem Try.undMap : Try.prog.underlying 84 = some (.map 45 87) := Try.underlying84
theorem Try.zeroNodes (w : World) : (zeroValue 87).run Try.prog w = .ok (.slice none 0 0) w := by kernel_rfl
theorem lookup_dig {w : World} {sb N : Nat} {mp : Option Nat} {es : List MEn} (K : KnownAt w sb mp es N) (d : List UInt8) (hd : d.length = 8) :
  ∃ (s : SlR) (ns : List Nd), (∀ q : Nat, (Instr.lookup 84 (.map mp) (dV d) false).run Try.prog (w.drewN q) = .ok (.slice s.a s.n s.cap) (w.drewN q)) ∧ SlV w s.a (ns.map (fun x => ptrV x.b)) ∧ s.n = ns.length ∧ ns.length ≤ N ∧ (∀ x ∈ ns, NdOk w x ∧ (∀ k, ndF x k → ¬ KMut sb mp es k) ∧ ∃ e ∈ es, x ∈ e.ns) := by
 obtain ⟨l, hl⟩ := keyOf_dig d hd
 cases mp with
 | none =>
  refine ⟨⟨none, 0, 0⟩, [], fun q => ?_, SlV.nil _ _, rfl, Nat.zero_le _, fun x hx => by cases hx⟩
  have hc := Try.digLaw.check (w.drewN q) true hl
  have hf := Try.digLaw.find (w.drewN q) hl [] (fun e he => by cases he)
  rcases hf with ⟨hf, _⟩ | ⟨j, e, _, h2, _⟩
  ·simp [Instr.lookup, run_underlying Try.undMap, hc, hf, Try.zeroNodes, Result.andThen]
  ·simp at h2
 | some m =>
  obtain ⟨arr, clock, hh, hkv, hnd, hlt⟩ := K.map
  have hM : MapIs w m arr clock es := ⟨hh, hkv, hnd, hlt⟩
  have hget : ∀ q, (getObj m).run Try.prog (w.drewN q) = .ok (.map arr clock) (w.drewN q) := fun q => MapKept.run_getObj_map (w := w.drewN q) hh
  have hchk : ∀ q em, (Instr.checkKey em 10000 45 (dV d)).run Try.prog (w.drewN q) = .ok () (w.drewN q) := fun q em => Try.digLaw.check (w.drewN q) em hl
  rcases find_dig hM K.d8 K.kd d hd with ⟨hno, _⟩ | ⟨j, e, f, hyes, h2, hf, h3, h4, h5⟩
  ·refine ⟨⟨none, 0, 0⟩, [], fun q => ?_, SlV.nil _ _, rfl, Nat.zero_le _, fun x hx => by cases hx⟩
   simp [Instr.lookup, run_underlying Try.undMap, hget, hchk, hno, Try.zeroNodes, Result.andThen]
  ·have hfm := List.mem_of_getElem? hf
   obtain ⟨hs1, hs2⟩ := SlV.ofOwn (s := f.s) (K.own f hfm)
   refine ⟨f.s, f.ns, fun q => ?_, hs1, hs2, K.cnt f hfm, fun x hx => ⟨K.nodes f hfm x hx, K.foot f hfm x hx, f, hfm, hx⟩⟩
   simp [Instr.lookup, run_underlying Try.undMap, hget, hchk, hyes, Result.andThen, h5, SlR.val]
theorem mapEntry_dig {w : World} {m : Nat} {arr : Array MapEntry} {clock : Nat} {es : List MEn} (h : MapIs w m arr clock es) (h8 : ∀ e ∈ es, e.d.length = 8) (hk : (es.map (·.d)).Nodup) (d : List UInt8) (hd : d.length = 8) :
  ∃ (W2 : World) (arr2 : Array MapEntry) (clock2 : Nat) (es2 : List MEn) (j : Nat) (f : MEn) (born : Nat), (Instr.mapEntry 84 (.map (some m)) (dV d)).run Try.prog w = .ok (.tuple #[.slice f.s.a f.s.n f.s.cap, .int .i64 (born : Int)]) W2 ∧
   MapIs W2 m arr2 clock2 es2 ∧ es2[j]? = some f ∧ f.d = d ∧ arr2.toList[j]?.map (·.born) = some born ∧ (es2 = es ∨ (d ∉ es.map (·.d) ∧ f = ⟨d, ⟨none, 0, 0⟩, []⟩ ∧ es2 = es ++ [f])) ∧ Frame (fun k => k = m) w W2 ∧ W2.heap.size = w.heap.size := by
 obtain ⟨l, hl⟩ := keyOf_dig d hd
 have hget : (getObj m).run Try.prog w = .ok (.map arr clock) w := MapKept.run_getObj_map h.heap
 have hchk : (Instr.checkKey false 10000 45 (dV d)).run Try.prog w = .ok () w := Try.digLaw.check w false hl
 have hset : ∀ o : Obj, (setObj m o).run Try.prog w = .ok () { w with heap := w.heap.setIfInBounds m o } := fun o => MapKept.run_setObj_map o h.heap
 have hfr : ∀ o : Obj, Frame (fun k => k = m) w { w with heap := w.heap.setIfInBounds m o } := fun o => ⟨rfl, rfl, rfl, by simp, fun k hk hne => (MapKept.heap_set h.heap).2 k hne⟩
 rcases find_dig h h8 hk d hd with ⟨hno, hni⟩ | ⟨j, e, f, hyes, h2, hf, h3, h4, h5⟩
 ·refine ⟨_, arr.push { key := dV d, val := .slice none 0 0, born := clock }, clock + 1, es ++ [⟨d, ⟨none, 0, 0⟩, []⟩], es.length, ⟨d, ⟨none, 0, 0⟩, []⟩, clock, ?_, ?_, ?_, rfl, ?_, Or.inr ⟨hni, rfl, rfl⟩, hfr (.map (arr.push { key := dV d, val := .slice none 0 0, born := clock }) (clock + 1)), by simp⟩
  ·simp [Instr.mapEntry, run_underlying Try.undMap, hget, hchk, hno, Try.zeroNodes, hset, Result.andThen, goInt]
  ·refine ⟨(MapKept.heap_set h.heap).1, ?_, ?_, ?_⟩
   ·simp [h.kv, SlR.val]
   ·rw [Array.toList_push, List.map_append]
    simp only [List.map_cons, List.map_nil]
    rw [List.nodup_append]
    refine ⟨h.nodup, by simp, ?_⟩
    intro x hx y hy
    simp only [List.mem_singleton] at hy
    obtain ⟨e, he, rfl⟩ := List.mem_map.1 hx
    have := h.lt e he
    omega
   ·intro e he
    rw [Array.toList_push] at he
    rcases List.mem_append.1 he with he | he
    ·have := h.lt e he; omega
    ·simp only [List.mem_singleton] at he; subst he; simp
  ·simp
  ·have := h.len
   rw [Array.toList_push, List.getElem?_append_right (by simp; omega)]
   simp [this]
 ·have hst := Try.digLaw.stays w hl
  have hj : arr[j]? = some e := by simpa using h2
  have hmod : arr.modify j (fun e => { e with key := dV d }) = arr := by
   apply Array.ext'
   apply List.ext_getElem?
   intro i
   rw [Array.getElem?_toList, Array.getElem?_toList, Array.getElem?_modify]
   by_cases hij : j = i
   ·subst hij
    rw [if_pos rfl, hj]
    simp only [Option.map_some]
    rw [← h3]
   ·rw [if_neg hij]
  refine ⟨_, arr, clock, es, j, f, e.born, ?_, ?_, hf, h4, by rw [h2]; rfl, Or.inl rfl, hfr (.map arr clock), by simp⟩
  ·simp [Instr.mapEntry, run_underlying Try.undMap, hget, hchk, hyes, hj, h3, hst, hset, Result.andThen, goInt, h5, SlR.val]
   rw [hmod]
  ·exact ⟨(MapKept.heap_set h.heap).1, h.kv, h.nodup, h.lt⟩
theorem entryStore_dig {w : World} {m : Nat} {arr : Array MapEntry} {clock : Nat} {es : List MEn} (h : MapIs w m arr clock es) {j born : Nat} {f g : MEn} (hf : es[j]? = some f) (hb : arr.toList[j]?.map (·.born) = some born) (hd : g.d = f.d) :
  ∃ (W2 : World) (arr2 : Array MapEntry), (Instr.entryStore 84 (.map (some m)) (.int .i64 (born : Int)) (.slice g.s.a g.s.n g.s.cap)).run Try.prog w = .ok () W2 ∧ MapIs W2 m arr2 clock (es.set j g) ∧ Frame (fun k => k = m) w W2 ∧ W2.heap.size = w.heap.size := by
 have hget : (getObj m).run Try.prog w = .ok (.map arr clock) w := MapKept.run_getObj_map h.heap
 have hset : ∀ o : Obj, (setObj m o).run Try.prog w = .ok () { w with heap := w.heap.setIfInBounds m o } := fun o => MapKept.run_setObj_map o h.heap
 have hfr : ∀ o : Obj, Frame (fun k => k = m) w { w with heap := w.heap.setIfInBounds m o } := fun o => ⟨rfl, rfl, rfl, by simp, fun k hk hne => (MapKept.heap_set h.heap).2 k hne⟩
 cases he : arr.toList[j]? with
 | none => rw [he] at hb; cases hb
 | some e =>
  rw [he] at hb
  have hbe : e.born = born := by simpa using hb
  obtain ⟨hjl, hje⟩ := List.getElem?_eq_some_iff.1 he
  have hidx : arr.findIdx? (fun e => (e.born : Int) == (born : Int)) = some j := by
   rw [Array.findIdx?_eq_some_iff_getElem]
   refine ⟨by simpa using hjl, ?_, ?_⟩
   ·have : arr[j]'(by simpa using hjl) = e := by simpa using hje
    rw [this, hbe]; simp
   ·intro i hi
    have hnn := h.nodup
    have hil : i < arr.toList.length := by omega
    have hne : ¬ arr.toList[i].born = arr.toList[j].born := fun e2 => by
     have := (List.getElem_inj (i := i) (j := j) (h₀ := by simpa using hil) (h₁ := by simpa using hjl) hnn).1 (by simpa using e2)
     omega
    rw [hje, hbe] at hne
    have hne' : ¬ ((arr[i]'(by simpa using hil)).born : Int) = (born : Int) := by
     intro e2
     apply hne
     have := Int.ofNat_inj.1 e2
     simpa using this
    simpa using hne'
  refine ⟨_, arr.modify j (fun e => { e with val := .slice g.s.a g.s.n g.s.cap }), ?_, ?_, hfr (.map (arr.modify j (fun e => { e with val := .slice g.s.a g.s.n g.s.cap })) clock), by simp⟩
  ·simp [Instr.entryStore, hget, asInt, asIntOf, hidx, hset, Result.andThen]
  ·have hml : ∀ {α : Type} (F : MapEntry → α) (i : Nat), ((arr.modify j (fun e => { e with val := .slice g.s.a g.s.n g.s.cap })).toList.map F)[i]? = if j = i then (arr.toList[i]?).map (fun e => F { e with val := .slice g.s.a g.s.n g.s.cap }) else (arr.toList[i]?).map F := fun F i => by
    rw [List.getElem?_map, Array.getElem?_toList, Array.getElem?_modify]
    by_cases hij : j = i
    ·rw [if_pos hij, if_pos hij, ← Array.getElem?_toList]; cases arr.toList[i]? <;> rfl
    ·rw [if_neg hij, if_neg hij, ← Array.getElem?_toList]
   refine ⟨(MapKept.heap_set h.heap).1, ?_, ?_, ?_⟩
   ·apply List.ext_getElem?
    intro i
    rw [hml]
    have hkv : (arr.toList.map (fun e => (e.key, e.val)))[i]? = (es.map (fun e => (dV e.d, e.s.val)))[i]? := by rw [h.kv]
    rw [List.getElem?_map, List.getElem?_map] at hkv
    rw [List.getElem?_map]
    by_cases hij : j = i
    ·subst hij
     rw [if_pos rfl, he]
     rw [he, hf] at hkv
     simp only [Option.map_some, Option.some.injEq, Prod.mk.injEq] at hkv
     have hjes := (List.getElem?_eq_some_iff.1 hf).1
     rw [List.getElem?_set_self hjes]
     simp [hkv.1, hd, SlR.val]
    ·rw [if_neg hij, List.getElem?_set_ne hij]
     exact hkv
   ·have : (arr.modify j (fun e => { e with val := .slice g.s.a g.s.n g.s.cap })).toList.map (·.born) = arr.toList.map (·.born) := by
     apply List.ext_getElem?
     intro i
     rw [hml, List.getElem?_map]
     split <;> rfl
    rw [this]; exact h.nodup
   ·intro x hx
    have : x.born ∈ arr.toList.map (·.born) := by
     have h1 : (arr.modify j (fun e => { e with val := .slice g.s.a g.s.n g.s.cap })).toList.map (·.born) = arr.toList.map (·.born) := by
      apply List.ext_getElem?
      intro i
      rw [hml, List.getElem?_map]
      split <;> rfl
     rw [← h1]; exact List.mem_map.2 ⟨x, hx, rfl⟩
    obtain ⟨y, hy, hxy⟩ := List.mem_map.1 this
    rw [← hxy]; exact h.lt y hy
end Go.Proofs.Ytekegfbjbainhaa
