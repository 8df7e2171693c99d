import Derived.Test.YtekegfbjbainhaaGreatKJoin6
import Derived.Maps.Keyed
import Derived.DeepKeys4
import Derived.LaidEqlPtr
import Derived.Lib.Builder
import Derived.MapKept
import Derived.Deep.RegionWith
set_option linter.unusedVariables false
set_option linter.unusedSimpArgs false

namespace Go.Proofs.YtekegfbjbainhaaGreat
open Go.RowKit
theorem Tryz.laidOutP : laidOutB Tryz.prog = true := by kernel_rfl
theorem Tryz.rowDig : (36 : TypeId) < Tryz.prog.types.size := of_decide_eq_true (by kernel_rfl)
set_option maxRecDepth 100000 in
theorem Tryz.wideDig : (match Tryz.prog.underlying 36 with | some (.array _ _) | some (.struct _) => true | _ => false) = true := by rw [Tryz.underlying36]
set_option maxRecDepth 100000 in
theorem Tryz.digLaw : Maps.Keyed Tryz.prog 36 := Maps.Keyed.of_law (deep_law_laid Tryz.laidOutP (m := 2) (by omega) Tryz.rowDig (by kernel_rfl) Tryz.wideDig)
theorem Tryz.undDig : Tryz.prog.underlying 36 = some (.array 8 5) := Tryz.underlying36
theorem Tryz.cellsDig : Tryz.prog.cellsOf 36 = 8 := by kernel_rfl
theorem Tryz.cellsU8 : Tryz.prog.cellsOf 5 = 1 := by kernel_rfl
theorem Tryz.keyDig : Tryz.prog.keyType 36 = true := by kernel_rfl
theorem keyLits_u8 (m : Nat) (x : UInt8) : Tryz.prog.keyLits (m + 1) 5 [u8c x] = some [.int .u8 (x.toNat : Int)] := by
 have hx := x.toNat_lt
 unfold Program.keyLits u8c
 simp only [Tryz.underlying5]
 have hw : (Lit.int .u8 (x.toNat : Int)).wf = true := WalkArith.wf_u8 ⟨by omega, by omega⟩
 simp [hw]
theorem keyOf_dig (d : List UInt8) (hd : d.length = 8) : ∃ l, keyOf Tryz.prog 36 (dV d) = some l := by
 obtain ⟨x0, x1, x2, x3, x4, x5, x6, x7, rfl⟩ := list8 d hd
 obtain ⟨m, hm⟩ : ∃ m, Tryz.prog.types.size + 1 = m + 1 + 1 := ⟨Tryz.prog.types.size - 1, by have h : 36 < Tryz.prog.types.size := Tryz.rowDig; omega⟩
 have h1 : Tryz.prog.keyLits (m + 1 + 1) 36 ((([x0, x1, x2, x3, x4, x5, x6, x7].map u8c).toArray).toList) = some [.int .u8 (x0.toNat : Int), .int .u8 (x1.toNat : Int), .int .u8 (x2.toNat : Int), .int .u8 (x3.toNat : Int), .int .u8 (x4.toNat : Int), .int .u8 (x5.toNat : Int), .int .u8 (x6.toNat : Int), .int .u8 (x7.toNat : Int)] := by
  unfold Program.keyLits
  simp only [Tryz.undDig, Tryz.cellsDig, Tryz.cellsU8]
  simp [List.range, List.range.loop, keyLits_u8]
 unfold keyOf
 rw [Tryz.undDig]
 have hf : (dV [x0, x1, x2, x3, x4, x5, x6, x7]).formed Tryz.prog 36 = true := by
  simp [dV, Value.formed, Tryz.undDig, Tryz.cellsDig]
 simp only [Tryz.keyDig, hf, Bool.and_self, if_true, hm]
 have hc : (dV [x0, x1, x2, x3, x4, x5, x6, x7]).cells.toList = ((([x0, x1, x2, x3, x4, x5, x6, x7].map u8c).toArray).toList) := rfl
 rw [hc, h1]
 exact ⟨_, rfl⟩
structure Nd where
 b : Nat
 la : SlR
 by_ : SlR
 be : SlR
 level : Nat
 its : List ItR
 bl : List Nat
def ptrV (b : Nat) : Value := .pointer (some ⟨b, 0, none⟩)
def ndC (x : Nd) : List Value := [x.la.val, x.by_.val] ++ (digB (codeB x.level x.its)).map u8c ++ [x.be.val]
structure PgL (level : Nat) (its : List ItR) : Prop where
 ok : ∀ x ∈ its, ItOk x
 more8 : level ≠ 0 → ∀ x ∈ its, x.more.length = 8
 norm : ∀ x ∈ its, x.below = 0
 len : its.length ≤ 200
 lv : level ≤ 6
structure NdOk (w : World) (x : Nd) : Prop where
 row : RowV w x.b 142 (ndC x)
 la : BS w x.la (lastK x.its)
 by_ : BS w x.by_ (codeB x.level x.its)
 be : SlV w x.be.a (x.bl.map ptrV)
 ben : x.be.n = x.bl.length
 belt : ∀ y, x.be.a = some y → y.block < w.heap.size
 pg : PgL x.level x.its
 blrow : ∀ b ∈ x.bl, ∃ cs, RowV w b 142 cs
 blc : x.bl.length ≤ 1000
def ndF (x : Nd) (k : Nat) : Prop := k = x.b ∨ (∃ y, x.la.a = some y ∧ y.block = k) ∨ (∃ y, x.by_.a = some y ∧ y.block = k) ∨ (∃ y, x.be.a = some y ∧ y.block = k) ∨ k ∈ x.bl
theorem NdOk.frame {w w' : World} {S : Nat → Prop} {x : Nd} (h : NdOk w x) (hf : Frame S w w') (hS : ∀ k, ndF x k → ¬ S k) : NdOk w' x :=
 ⟨h.row.of_block (hf.block _ h.row.lt (hS _ (Or.inl rfl))), h.la.frame hf (fun y hy => hS _ (Or.inr (Or.inl ⟨y, hy, rfl⟩))), h.by_.frame hf (fun y hy => hS _ (Or.inr (Or.inr (Or.inl ⟨y, hy, rfl⟩)))),
  h.be.frame hf (fun y hy => hS _ (Or.inr (Or.inr (Or.inr (Or.inl ⟨y, hy, rfl⟩))))), h.ben, fun y hy => Nat.lt_of_lt_of_le (h.belt y hy) hf.size, h.pg, fun b hb => by
   obtain ⟨cs, hr⟩ := h.blrow b hb
   exact ⟨cs, hr.of_block (hf.block _ hr.lt (hS _ (Or.inr (Or.inr (Or.inr (Or.inr hb))))))⟩, h.blc⟩
theorem NdOk.below {w w' : World} {x : Nd} (h : NdOk w x) (hb : Below w.heap.size w w') : NdOk w' x := h.frame (Frame.of_below_all (S := fun _ => False) hb) (fun _ _ e => e)
theorem NdOk.lt {w : World} {x : Nd} (h : NdOk w x) : ∀ k, ndF x k → k < w.heap.size := fun k hk => by
 rcases hk with rfl | ⟨y, hy, rfl⟩ | ⟨y, hy, rfl⟩ | ⟨y, hy, rfl⟩ | hb
 ·exact h.row.lt
 ·exact h.la.lt y hy
 ·exact h.by_.lt y hy
 ·exact h.belt y hy
 ·obtain ⟨cs, hr⟩ := h.blrow k hb
  exact hr.lt
structure MEn where
 d : List UInt8
 s : SlR
 ns : List Nd
def KMut (sb : Nat) (mp : Option Nat) (es : List MEn) (k : Nat) : Prop := k = sb ∨ mp = some k ∨ ∃ e ∈ es, e.s.val.ownBlock = some k
def MapAt (w : World) (mp : Option Nat) (es : List MEn) : Prop :=
 match mp with
 | none => es = []
 | some m => ∃ (arr : Array MapEntry) (clock : Nat), w.heap[m]? = some (.map arr clock) ∧ arr.toList.map (fun e => (e.key, e.val)) = es.map (fun e => (dV e.d, e.s.val)) ∧ (arr.toList.map (·.born)).Nodup ∧ (∀ e ∈ arr.toList, e.born < clock)
structure KnownAt (w : World) (sb : Nat) (mp : Option Nat) (es : List MEn) (N : Nat) : Prop where
 map : MapAt w mp es
 d8 : ∀ e ∈ es, e.d.length = 8
 own : ∀ e ∈ es, w.ownsRow 0 138 1 e.s.val e.ns.length (e.ns.map (fun x => ptrV x.b))
 nodes : ∀ e ∈ es, ∀ x ∈ e.ns, NdOk w x
 apart : ∀ (i j : Nat) (e f : MEn), i ≠ j → es[i]? = some e → es[j]? = some f → ∀ k, e.s.val.ownBlock = some k → f.s.val.ownBlock ≠ some k
 foot : ∀ e ∈ es, ∀ x ∈ e.ns, ∀ k, ndF x k → ¬ KMut sb mp es k
 msb : ∀ e ∈ es, ∀ k, e.s.val.ownBlock = some k → k ≠ sb ∧ mp ≠ some k
 cnt : ∀ e ∈ es, e.ns.length ≤ N
 kd : (es.map (·.d)).Nodup
end Go.Proofs.YtekegfbjbainhaaGreat


namespace Go.Proofs.YtekegfbjbainhaaGreat
open Go.RowKit
set_option maxRecDepth 100000 in
theorem bytesEqual_any (s t : SlR) (l m : List UInt8) (w : World) (h : BS w s l) (k : BS w t m) :
  Calls Tryz.prog 151 #[s.val, t.val] w fun e w' => e = .returned (.bool (l == m)) ∧ w' = w := by
 have h1 := run_string_SlB (P := Tryz.prog) w 38 9 5 s.a s.n s.cap l Tryz.underlying38 Tryz.underlying5 Tryz.underlying9 h.n h.sl h.nil
 have h2 := run_string_SlB (P := Tryz.prog) w 38 9 5 t.a t.n t.cap m Tryz.underlying38 Tryz.underlying5 Tryz.underlying9 k.n k.sl k.nil
 clear h k
 unfold SlR.val
 go_enter Tryz.func151, Tryz.ntmps151
 go_wp2
 go_ret
 exact ⟨by simp, rfl⟩
theorem SlV.ptr {w : World} {a : Option Addr} {l : List Nat} (h : SlV w a (l.map ptrV)) (i : Nat) (hi : i < l.length) : ∃ b o, a = some ⟨b, o, none⟩ ∧ b < w.heap.size ∧ w.cell? ⟨b, o + i, none⟩ = some (.pointer (some ⟨l[i], 0, none⟩)) := by
 obtain ⟨b, o, ha, hb, hc⟩ := h i (by simpa using hi)
 exact ⟨b, o, ha, hb, by rw [hc]; simp [ptrV]⟩
theorem run_neq_ptr_other {P : Program} (w : World) {tp te : TypeId} {j : TypeInfo} {a b : Addr} {ca cb : Array Value} {ta tb : TypeId} (hp : P.underlying tp = some (.pointer te)) (hte : P.info? te = some j) (hsz : j.size ≠ 0)
  (hne : a ≠ b) (ha : w.heap[a.block]? = some (.cells ca ta (0, 0))) (hb : w.heap[b.block]? = some (.cells cb tb (0, 0))) :
  (binOp .neq tp (.pointer (some a)) (.pointer (some b))).run P w = .ok (.bool true) w := by
 have h : ∀ d : Nat, (Op.equalIn (d + 1) tp (.pointer (some a)) (.pointer (some b))).run P w = .ok false w := fun d => by
  simp [Op.equalIn, run_underlying hp, sizeOf, typeInfo, hte, hsz, run_sameAddr_other w hne ha hb]
 simp only [binOp]
 simp [Op.equal, Op.maxDepth, h 9999]
theorem Tryz.infoNode : ∃ j, Tryz.prog.info? 142 = some j ∧ j.size ≠ 0 := by
 have h : (Tryz.prog.info? 142).map (·.size) = some 11 := by kernel_rfl
 cases hj : Tryz.prog.info? 142 with
 | none => simp [hj] at h
 | some j => simp [hj] at h; exact ⟨j, rfl, by omega⟩
set_option maxRecDepth 100000 in
set_option maxHeartbeats 1000000 in
theorem nodesEqual_any (s t : SlR) (l m : List Nat) (w : World) (hs : SlV w s.a (l.map ptrV)) (hn : s.n = l.length) (ht : SlV w t.a (m.map ptrV)) (hm : t.n = m.length) (hl : l.length ≤ 1000) (hml : m.length ≤ 1000) (hrow : ∀ b ∈ l ++ m, ∃ t cs, RowV w b t cs) :
  Calls Tryz.prog 152 #[s.val, t.val] w fun e w' => e = .returned (.bool (l == m)) ∧ ∃ n, w' = w.drewN n := by
 obtain ⟨sa, sn, sc⟩ := s
 obtain ⟨ta, tn, tc⟩ := t
 simp only at hs hn ht hm
 subst hn hm
 unfold SlR.val
 simp only
 by_cases hlen : l.length = m.length
 ·have hI : ((l.length : Int) != (m.length : Int)) = false := by simp [hlen]
  have HC : Hid (∀ (q : Nat) k (h1 : k < l.length) (h2 : k < m.length), ∃ b o b2 o2, sa = some ⟨b, o, none⟩ ∧ ta = some ⟨b2, o2, none⟩ ∧ w.cell? ⟨b, o + k, none⟩ = some (.pointer (some ⟨l[k], 0, none⟩)) ∧ w.cell? ⟨b2, o2 + k, none⟩ = some (.pointer (some ⟨m[k], 0, none⟩))) := fun q k h1 h2 => by
   obtain ⟨b, o, e1, _, c1⟩ := SlV.ptr hs k h1
   obtain ⟨b2, o2, e2, _, c2⟩ := SlV.ptr ht k h2
   exact ⟨b, o, b2, o2, e1, e2, c1, c2⟩
  obtain ⟨jN, hjN, hjS⟩ := Tryz.infoNode
  have HSAME : Hid (∀ (W : World) (p : Nat), (binOp .neq 138 (.pointer (some ⟨p, 0, none⟩)) (.pointer (some ⟨p, 0, none⟩))).run Tryz.prog W = .ok (.bool false) W) := fun W p => Lib.run_neq_ptr_same W _ Tryz.underlying138 hjN
  have HOTH : Hid (∀ (q n p p2 : Nat), p ∈ l ++ m → p2 ∈ l ++ m → p ≠ p2 → (binOp .neq 138 (.pointer (some ⟨p, 0, none⟩)) (.pointer (some ⟨p2, 0, none⟩))).run Tryz.prog ((w.drewN q).drewN n) = .ok (.bool true) ((w.drewN q).drewN n)) := fun q n p p2 h1 h2 hne => by
   obtain ⟨t1, c1, r1⟩ := hrow p h1
   obtain ⟨t2, c2, r2⟩ := hrow p2 h2
   exact run_neq_ptr_other _ Tryz.underlying138 hjN hjS (fun e => hne (by cases e; rfl)) r1 r2
  have HLN : Hid (l.length = m.length) := hlen
  have HLI : Hid ((l.length : Int) = m.length) := by unfold Hid; omega
  obtain ⟨n, hnn⟩ : ∃ n, n = l.length := ⟨_, rfl⟩
  have HNN : Hid (l.length = n) := hnn.symm
  rw [← hlen, ← hnn]
  have hn1 : (n : Int) ≤ 1000 := by omega
  clear hs ht hI hlen hnn hml hl hrow hjN hjS
  go_enter Tryz.func152, Tryz.ntmps152
  go_wp2
  go_loopw [5, 13] (fun _ ix wr => ∃ k q : Nat, k ≤ n ∧ ix = .int .i64 k ∧ wr = w.drewN q ∧ Hid (l.take k = m.take k)) (fun _ ix _ => n - (intOf ix).toNat)
  case atStart => exact ⟨0, 0, by omega, by simp, rfl, by simp [Hid]⟩
  case round =>
   obtain ⟨k, q, hk, rfl, rfl, HT⟩ := hrel
   by_cases hlt : k < n
   ·have hltI : (k : Int) < n := by omega
    have hl1 : k < l.length := by have := HNN.out; omega
    have hm1 : k < m.length := by have := HNN.out; have := HLN.out; omega
    obtain ⟨b, o, b2, o2, rfl, rfl, c1, c2⟩ := HC.out q k hl1 hm1
    by_cases he : l[k] = m[k]
    ·have HT2 : Hid (l.take (k + 1) = m.take (k + 1)) := by
      unfold Hid; rw [List.take_succ_eq_append_getElem hl1, List.take_succ_eq_append_getElem hm1, HT.out, he]
     rw [he] at c1
     generalize m[k] = pk at *
     clear he
     have hsm := fun W => HSAME.out W pk
     go_wp2
     go_quiet (fail)
     go_wp2
     refine ⟨⟨k + 1, _, by omega, by go_num, rfl, HT2⟩, by simp [intOf]; omega⟩
    ·have HF : Hid ((l == m) = false) := by
      unfold Hid
      cases h : l == m with
      | false => rfl
      | true => exfalso; have e := eq_of_beq h; subst e; exact he rfl
     have hoth := fun n => HOTH.out q n l[k] m[k] (List.mem_append_left _ (List.getElem_mem hl1)) (List.mem_append_right _ (List.getElem_mem hm1)) he
     have hoth2 := fun n => HOTH.out 0 n l[k] m[k] (List.mem_append_left _ (List.getElem_mem hl1)) (List.mem_append_right _ (List.getElem_mem hm1)) he
     have hoth3 : ∀ n, (binOp .neq 138 (.pointer (some ⟨l[k], 0, none⟩)) (.pointer (some ⟨m[k], 0, none⟩))).run Tryz.prog (w.drewN n) = .ok (.bool true) (w.drewN n) := fun n => by have := hoth2 n; simpa using this
     clear hoth2
     generalize l[k] = pl at *
     generalize m[k] = pk at *
     go_wp2
     go_quiet (fail)
     go_wp2
     go_ret
     refine ⟨by rw [HF.out]; rfl, ?_⟩
     first
      | exact ⟨_, rfl⟩
      | exact ⟨q + nq, by simp [World.drewN, Nat.add_assoc]⟩
   ·have HE : Hid ((l == m) = true) := by
     have h1 := HT.out
     rw [List.take_of_length_le (by have := HNN.out; omega), List.take_of_length_le (by have := HNN.out; have := HLN.out; omega)] at h1
     unfold Hid; rw [h1]; simp
    have hltI : ¬ (k : Int) < n := by omega
    go_wp2
    go_ret
    exact ⟨by rw [HE.out]; rfl, _, rfl⟩
 ·have hI : ((l.length : Int) != (m.length : Int)) = true := by simp; omega
  have HE : Hid ((l == m) = false) := by
   unfold Hid
   cases h : l == m with
   | false => rfl
   | true => exact absurd (by rw [eq_of_beq h]) hlen
  go_enter Tryz.func152, Tryz.ntmps152
  go_wp2
  go_ret
  exact ⟨by rw [HE.out]; rfl, 0, rfl⟩
set_option maxRecDepth 100000 in
set_option maxHeartbeats 1000000 in
theorem nodesClone_any (s : SlR) (l : List Nat) (w : World) (hs : SlV w s.a (l.map ptrV)) (hn : s.n = l.length) (hnil : s.a = none → s.cap = 0) (hl : l.length ≤ 1000) :
  Calls Tryz.prog 154 #[s.val] w fun e w' => ∃ s' : SlR, e = .returned s'.val ∧ SlV w' s'.a (l.map ptrV) ∧ s'.n = l.length ∧ (∀ x, s'.a = some x → w.heap.size ≤ x.block ∧ x.block < w'.heap.size) ∧ Below w.heap.size w w' := by
 obtain ⟨a, n, cap⟩ := s
 simp only at hs hn hnil
 unfold SlR.val
 have he := fun w => run_eql_slice_nil (P := Tryz.prog) w 128 138 a n cap Tryz.underlying128
 cases a with
 | none =>
  obtain rfl : l = [] := by
   cases l with
   | nil => rfl
   | cons y r => obtain ⟨b, o, ha, _⟩ := hs 0 (by simp); cases ha
  obtain rfl : n = 0 := by simpa using hn
  obtain rfl := hnil rfl
  clear hs hn hnil hl
  go_enter Tryz.func154, Tryz.ntmps154
  go_wp2
  go_ret
  exact ⟨⟨none, 0, 0⟩, rfl, SlV.nil _ _, rfl, (fun x hx => by cases hx), Below.refl _ _⟩
 | some x =>
  have hb1 : (w.alloc (.cells #[] 138)).ownsRow w.heap.size 138 1 (.slice (some ⟨w.heap.size, 0, none⟩) 0 0) 0 [] := owns_built w w.heap.size _ 1 0 [] (Nat.le_refl _) rfl (by simp [maxLen])
  have hs1 : SlV (w.alloc (.cells #[] 138)) (some x) (l.map ptrV) := hs.below_all ((Below.refl _ _).alloc (Nat.le_refl _) _)
  have HN : Hid (n = l.length) := hn
  have H1 : Hid (∀ u ∈ l.map ptrV, u.oneCell' = true) := fun u hu => by obtain ⟨y, _, rfl⟩ := List.mem_map.1 hu; rfl
  have HL : Hid ((l.map ptrV).length = n * 1) := by unfold Hid; simp [hn]
  clear hn hs
  go_enter Tryz.func154, Tryz.ntmps154
  go_wp2_with (at_builtin; refine wp_appendV (by rfl) (.tmp 5) (.tmp 6) 128 (by rfl) w.heap.size 138 _ 1 8 Tryz.underlying128 Tryz.infoNodeP rfl (by decide) (.slice (some ⟨w.heap.size, 0, none⟩) 0 0) 0 [] (by rfl) hb1 (some x) n cap (l.map ptrV) (by rfl) HL.out hs1 (fun h => by cases h) H1.out (by have := HN.out; unfold maxLen; omega) (by have := HN.out; omega) (by simp) ?_; intro v3 w3 ho3 hf3 hat3; obtain ⟨a3, c3, hv3, hs3, hn3, hx3, _⟩ := owns_form ho3; subst hv3)
  go_ret
  refine ⟨⟨a3, n, c3⟩, rfl, by simpa using hs3, HN.out, fun y hy => ⟨(hx3 y hy).2.2.1, (hx3 y hy).2.2.2⟩, ?_⟩
  exact ((Below.refl _ _).alloc (Nat.le_refl _) _).trans (hf3.below (by simp) (fun k hk => by simp [Value.ownBlock] at hk; omega))
set_option maxRecDepth 100000 in
set_option maxHeartbeats 1000000 in
theorem lastKey_any (a : Option Addr) (n cap : Nat) (xs : List EnP) (w : World) (hn : n = xs.length) (hl : xs.length ≤ 1000) (hs : SlE w a xs) (h8 : ∀ x ∈ xs, x.d.length = 8) :
  Calls Tryz.prog 153 #[.slice a n cap] w fun e w' => e = .returned ((xs.getLast?.map (fun x => x.k.val)).getD (.slice none 0 0)) ∧ w' = w := by
 cases hx : xs.getLast? with
 | none =>
  have : xs = [] := by simpa using hx
  subst this
  obtain rfl : n = 0 := by simpa using hn
  clear hn hl hs h8
  go_enter Tryz.func153, Tryz.ntmps153
  go_wp2
  go_ret
  exact ⟨rfl, rfl⟩
 | some x =>
  have hne : xs ≠ [] := by intro e; subst e; simp at hx
  have hpos := List.length_pos_iff.2 hne
  have hlast : xs[xs.length - 1]'(by omega) = x := by
   rw [List.getLast?_eq_getElem?, List.getElem?_eq_getElem (by omega)] at hx
   exact Option.some.inj hx
  obtain ⟨b, o, rfl, hb, hr⟩ := SlE.range hs h8 (xs.length - 1) (by omega)
  rw [hlast] at hr
  obtain ⟨m, rfl⟩ : ∃ m, n = m + 1 := ⟨n - 1, by omega⟩
  have c0 : w.cell? ⟨b, o + m * 10, none⟩ = some (.slice x.k.a x.k.n x.k.cap) := by
   have := hr 0 x.k.val rfl
   rw [show xs.length - 1 = m by omega] at this
   exact this
  have hm1 : (m : Int) ≤ 1000 := by omega
  have hm2 : ((m : Int) + 1 == 0) = false := by simp; omega
  have hm3 : (m : Int) + 1 - 1 = m := by omega
  have hm4 : (m : Int) < (m : Int) + 1 := by omega
  clear hn hl hs h8 hx hne hpos hlast hr
  unfold SlR.val
  go_enter Tryz.func153, Tryz.ntmps153
  go_wp2
  go_ret
  exact ⟨rfl, rfl⟩
end Go.Proofs.YtekegfbjbainhaaGreat


namespace Go.Proofs.YtekegfbjbainhaaGreat
open Go.RowKit
structure MapIs (w : World) (m : Nat) (arr : Array MapEntry) (clock : Nat) (es : List MEn) : Prop where
 heap : w.heap[m]? = some (.map arr clock)
 kv : arr.toList.map (fun e => (e.key, e.val)) = es.map (fun e => (dV e.d, e.s.val))
 nodup : (arr.toList.map (·.born)).Nodup
 lt : ∀ e ∈ arr.toList, e.born < clock
theorem MapIs.len {w : World} {m : Nat} {arr : Array MapEntry} {clock : Nat} {es : List MEn} (h : MapIs w m arr clock es) : arr.size = es.length := by
 have := congrArg List.length h.kv
 simpa using this
theorem MapIs.at {w : World} {m : Nat} {arr : Array MapEntry} {clock : Nat} {es : List MEn} (h : MapIs w m arr clock es) (j : Nat) (e : MapEntry) (hj : arr.toList[j]? = some e) : ∃ f, es[j]? = some f ∧ e.key = dV f.d ∧ e.val = f.s.val := by
 have h1 : (arr.toList.map (fun e => (e.key, e.val)))[j]? = some (e.key, e.val) := by rw [List.getElem?_map, hj]; rfl
 rw [h.kv, List.getElem?_map] at h1
 cases hf : es[j]? with
 | none => rw [hf] at h1; simp at h1
 | some f =>
  rw [hf] at h1
  simp only [Option.map_some, Option.some.injEq, Prod.mk.injEq] at h1
  exact ⟨f, rfl, h1.1.symm, h1.2.symm⟩
theorem dV_inj {d e : List UInt8} (h : dV d = dV e) : d = e := by
 have h : d.map u8c = e.map u8c := by
  have := congrArg Array.toList (Value.agg.inj h)
  simpa using this
 have hj : ∀ x y : UInt8, u8c x = u8c y → x = y := fun x y hxy => by
  unfold u8c at hxy
  simp only [Value.int.injEq, true_and] at hxy
  exact UInt8.toNat_inj.1 (by omega)
 exact (List.map_inj_right hj).1 h
theorem find_dig {w : World} {m : Nat} {arr : Array MapEntry} {clock : Nat} {es : List MEn} (h : MapIs w m arr clock es) (h8 : ∀ e ∈ es, e.d.length = 8) (hk : (es.map (·.d)).Nodup) (d : List UInt8) (hd : d.length = 8) :
  ((∀ W, (Instr.findKey 36 (dV d) arr.toList).run Tryz.prog W = .ok none W) ∧ d ∉ es.map (·.d)) ∨ ∃ j e f, (∀ W, (Instr.findKey 36 (dV d) arr.toList).run Tryz.prog W = .ok (some (j, e.val)) W) ∧ arr.toList[j]? = some e ∧ es[j]? = some f ∧ e.key = dV d ∧ f.d = d ∧ e.val = f.s.val := by
 obtain ⟨l, hl⟩ := keyOf_dig d hd
 have hall : ∀ e ∈ arr.toList, ∃ l, keyOf Tryz.prog 36 e.key = some l := fun e he => by
  obtain ⟨j, hj⟩ := List.getElem?_of_mem he
  obtain ⟨f, hf, hk, _⟩ := h.at j e hj
  rw [hk]; exact keyOf_dig f.d (h8 f (List.mem_of_getElem? hf))
 by_cases hin : d ∈ es.map (·.d)
 ·obtain ⟨j, hj⟩ := List.getElem?_of_mem hin
  have hjl : j < arr.toList.length := by
   have h1 := h.len
   have h2 := (List.getElem?_eq_some_iff.1 hj).1
   simp at h2 ⊢; omega
  have he : arr.toList[j]? = some arr.toList[j] := List.getElem?_eq_getElem hjl
  obtain ⟨f, hf, hkf, hv⟩ := h.at j _ he
  have hfd : f.d = d := by
   rw [List.getElem?_map, hf] at hj
   exact Option.some.inj hj
  refine Or.inr ⟨j, arr.toList[j], f, fun W => ?_, he, hf, by rw [hkf, hfd], hfd, hv⟩
  rcases Tryz.digLaw.find W hl arr.toList hall with ⟨_, g⟩ | ⟨j', e', g, g2, g3⟩
  ·exact absurd (by rw [hkf, hfd]) (g arr.toList[j] (List.getElem_mem hjl))
  ·obtain ⟨f', hf', hk', _⟩ := h.at j' e' g2
   have hd' : f'.d = d := dV_inj (hk'.symm.trans g3)
   have hjj : j' = j := by
    have e1 : (es.map (·.d))[j']? = some d := by rw [List.getElem?_map, hf']; simp [hd']
    obtain ⟨p1, q1⟩ := List.getElem?_eq_some_iff.1 e1
    obtain ⟨p2, q2⟩ := List.getElem?_eq_some_iff.1 hj
    exact (List.getElem_inj hk).1 (q1.trans q2.symm)
   subst hjj
   rw [he] at g2
   rw [g, ← Option.some.inj g2]
 ·refine Or.inl ⟨fun W => ?_, hin⟩
  rcases Tryz.digLaw.find W hl arr.toList hall with ⟨g, _⟩ | ⟨j', e', g, g2, g3⟩
  ·exact g
  ·obtain ⟨f', hf', hk', _⟩ := h.at j' e' g2
   exact absurd (List.mem_map.2 ⟨f', List.mem_of_getElem? hf', dV_inj (hk'.symm.trans g3)⟩) hin
theorem Tryz.undMap : Tryz.prog.underlying 125 = some (.map 36 128) := Tryz.underlying125
theorem Tryz.zeroNodes (w : World) : (zeroValue 128).run Tryz.prog w = .ok (.slice none 0 0) w := by kernel_rfl
theorem lookup_dig {w : World} {sb N : Nat} {mp : Option Nat} {es : List MEn} (K : KnownAt w sb mp es N) (d : List UInt8) (hd : d.length = 8) :
  ∃ (s : SlR) (ns : List Nd), (∀ q : Nat, (Instr.lookup 125 (.map mp) (dV d) false).run Tryz.prog (w.drewN q) = .ok (.slice s.a s.n s.cap) (w.drewN q)) ∧ SlV w s.a (ns.map (fun x => ptrV x.b)) ∧ s.n = ns.length ∧ ns.length ≤ N ∧ (∀ x ∈ ns, NdOk w x ∧ (∀ k, ndF x k → ¬ KMut sb mp es k) ∧ ∃ e ∈ es, x ∈ e.ns) := by
 obtain ⟨l, hl⟩ := keyOf_dig d hd
 cases mp with
 | none =>
  refine ⟨⟨none, 0, 0⟩, [], fun q => ?_, SlV.nil _ _, rfl, Nat.zero_le _, fun x hx => by cases hx⟩
  have hc := Tryz.digLaw.check (w.drewN q) true hl
  have hf := Tryz.digLaw.find (w.drewN q) hl [] (fun e he => by cases he)
  rcases hf with ⟨hf, _⟩ | ⟨j, e, _, h2, _⟩
  ·simp [Instr.lookup, run_underlying Tryz.undMap, hc, hf, Tryz.zeroNodes, Result.andThen]
  ·simp at h2
 | some m =>
  obtain ⟨arr, clock, hh, hkv, hnd, hlt⟩ := K.map
  have hM : MapIs w m arr clock es := ⟨hh, hkv, hnd, hlt⟩
  have hget : ∀ q, (getObj m).run Tryz.prog (w.drewN q) = .ok (.map arr clock) (w.drewN q) := fun q => MapKept.run_getObj_map (w := w.drewN q) hh
  have hchk : ∀ q em, (Instr.checkKey em 10000 36 (dV d)).run Tryz.prog (w.drewN q) = .ok () (w.drewN q) := fun q em => Tryz.digLaw.check (w.drewN q) em hl
  rcases find_dig hM K.d8 K.kd d hd with ⟨hno, _⟩ | ⟨j, e, f, hyes, h2, hf, h3, h4, h5⟩
  ·refine ⟨⟨none, 0, 0⟩, [], fun q => ?_, SlV.nil _ _, rfl, Nat.zero_le _, fun x hx => by cases hx⟩
   simp [Instr.lookup, run_underlying Tryz.undMap, hget, hchk, hno, Tryz.zeroNodes, Result.andThen]
  ·have hfm := List.mem_of_getElem? hf
   obtain ⟨hs1, hs2⟩ := SlV.ofOwn (s := f.s) (K.own f hfm)
   refine ⟨f.s, f.ns, fun q => ?_, hs1, hs2, K.cnt f hfm, fun x hx => ⟨K.nodes f hfm x hx, K.foot f hfm x hx, f, hfm, hx⟩⟩
   simp [Instr.lookup, run_underlying Tryz.undMap, hget, hchk, hyes, Result.andThen, h5, SlR.val]
theorem mapEntry_dig {w : World} {m : Nat} {arr : Array MapEntry} {clock : Nat} {es : List MEn} (h : MapIs w m arr clock es) (h8 : ∀ e ∈ es, e.d.length = 8) (hk : (es.map (·.d)).Nodup) (d : List UInt8) (hd : d.length = 8) :
  ∃ (W2 : World) (arr2 : Array MapEntry) (clock2 : Nat) (es2 : List MEn) (j : Nat) (f : MEn) (born : Nat), (Instr.mapEntry 125 (.map (some m)) (dV d)).run Tryz.prog w = .ok (.tuple #[.slice f.s.a f.s.n f.s.cap, .int .i64 (born : Int)]) W2 ∧
   MapIs W2 m arr2 clock2 es2 ∧ es2[j]? = some f ∧ f.d = d ∧ arr2.toList[j]?.map (·.born) = some born ∧ (es2 = es ∨ (d ∉ es.map (·.d) ∧ f = ⟨d, ⟨none, 0, 0⟩, []⟩ ∧ es2 = es ++ [f])) ∧ Frame (fun k => k = m) w W2 ∧ W2.heap.size = w.heap.size := by
 obtain ⟨l, hl⟩ := keyOf_dig d hd
 have hget : (getObj m).run Tryz.prog w = .ok (.map arr clock) w := MapKept.run_getObj_map h.heap
 have hchk : (Instr.checkKey false 10000 36 (dV d)).run Tryz.prog w = .ok () w := Tryz.digLaw.check w false hl
 have hset : ∀ o : Obj, (setObj m o).run Tryz.prog w = .ok () { w with heap := w.heap.setIfInBounds m o } := fun o => MapKept.run_setObj_map o h.heap
 have hfr : ∀ o : Obj, Frame (fun k => k = m) w { w with heap := w.heap.setIfInBounds m o } := fun o => ⟨rfl, rfl, rfl, by simp, fun k hk hne => (MapKept.heap_set h.heap).2 k hne⟩
 rcases find_dig h h8 hk d hd with ⟨hno, hni⟩ | ⟨j, e, f, hyes, h2, hf, h3, h4, h5⟩
 ·refine ⟨_, arr.push { key := dV d, val := .slice none 0 0, born := clock }, clock + 1, es ++ [⟨d, ⟨none, 0, 0⟩, []⟩], es.length, ⟨d, ⟨none, 0, 0⟩, []⟩, clock, ?_, ?_, ?_, rfl, ?_, Or.inr ⟨hni, rfl, rfl⟩, hfr (.map (arr.push { key := dV d, val := .slice none 0 0, born := clock }) (clock + 1)), by simp⟩
  ·simp [Instr.mapEntry, run_underlying Tryz.undMap, hget, hchk, hno, Tryz.zeroNodes, hset, Result.andThen, goInt]
  ·refine ⟨(MapKept.heap_set h.heap).1, ?_, ?_, ?_⟩
   ·simp [h.kv, SlR.val]
   ·rw [Array.toList_push, List.map_append]
    simp only [List.map_cons, List.map_nil]
    rw [List.nodup_append]
    refine ⟨h.nodup, by simp, ?_⟩
    intro x hx y hy
    simp only [List.mem_singleton] at hy
    obtain ⟨e, he, rfl⟩ := List.mem_map.1 hx
    have := h.lt e he
    omega
   ·intro e he
    rw [Array.toList_push] at he
    rcases List.mem_append.1 he with he | he
    ·have := h.lt e he; omega
    ·simp only [List.mem_singleton] at he; subst he; simp
  ·simp
  ·have := h.len
   rw [Array.toList_push, List.getElem?_append_right (by simp; omega)]
   simp [this]
 ·have hst := Tryz.digLaw.stays w hl
  have hj : arr[j]? = some e := by simpa using h2
  have hmod : arr.modify j (fun e => { e with key := dV d }) = arr := by
   apply Array.ext'
   apply List.ext_getElem?
   intro i
   rw [Array.getElem?_toList, Array.getElem?_toList, Array.getElem?_modify]
   by_cases hij : j = i
   ·subst hij
    rw [if_pos rfl, hj]
    simp only [Option.map_some]
    rw [← h3]
   ·rw [if_neg hij]
  refine ⟨_, arr, clock, es, j, f, e.born, ?_, ?_, hf, h4, by rw [h2]; rfl, Or.inl rfl, hfr (.map arr clock), by simp⟩
  ·simp [Instr.mapEntry, run_underlying Tryz.undMap, hget, hchk, hyes, hj, h3, hst, hset, Result.andThen, goInt, h5, SlR.val]
   rw [hmod]
  ·exact ⟨(MapKept.heap_set h.heap).1, h.kv, h.nodup, h.lt⟩
theorem entryStore_dig {w : World} {m : Nat} {arr : Array MapEntry} {clock : Nat} {es : List MEn} (h : MapIs w m arr clock es) {j born : Nat} {f g : MEn} (hf : es[j]? = some f) (hb : arr.toList[j]?.map (·.born) = some born) (hd : g.d = f.d) :
  ∃ (W2 : World) (arr2 : Array MapEntry), (Instr.entryStore 125 (.map (some m)) (.int .i64 (born : Int)) (.slice g.s.a g.s.n g.s.cap)).run Tryz.prog w = .ok () W2 ∧ MapIs W2 m arr2 clock (es.set j g) ∧ Frame (fun k => k = m) w W2 ∧ W2.heap.size = w.heap.size := by
 have hget : (getObj m).run Tryz.prog w = .ok (.map arr clock) w := MapKept.run_getObj_map h.heap
 have hset : ∀ o : Obj, (setObj m o).run Tryz.prog w = .ok () { w with heap := w.heap.setIfInBounds m o } := fun o => MapKept.run_setObj_map o h.heap
 have hfr : ∀ o : Obj, Frame (fun k => k = m) w { w with heap := w.heap.setIfInBounds m o } := fun o => ⟨rfl, rfl, rfl, by simp, fun k hk hne => (MapKept.heap_set h.heap).2 k hne⟩
 cases he : arr.toList[j]? with
 | none => rw [he] at hb; cases hb
 | some e =>
  rw [he] at hb
  have hbe : e.born = born := by simpa using hb
  obtain ⟨hjl, hje⟩ := List.getElem?_eq_some_iff.1 he
  have hidx : arr.findIdx? (fun e => (e.born : Int) == (born : Int)) = some j := by
   rw [Array.findIdx?_eq_some_iff_getElem]
   refine ⟨by simpa using hjl, ?_, ?_⟩
   ·have : arr[j]'(by simpa using hjl) = e := by simpa using hje
    rw [this, hbe]; simp
   ·intro i hi
    have hnn := h.nodup
    have hil : i < arr.toList.length := by omega
    have hne : ¬ arr.toList[i].born = arr.toList[j].born := fun e2 => by
     have := (List.getElem_inj (i := i) (j := j) (h₀ := by simpa using hil) (h₁ := by simpa using hjl) hnn).1 (by simpa using e2)
     omega
    rw [hje, hbe] at hne
    have hne' : ¬ ((arr[i]'(by simpa using hil)).born : Int) = (born : Int) := by
     intro e2
     apply hne
     have := Int.ofNat_inj.1 e2
     simpa using this
    simpa using hne'
  refine ⟨_, arr.modify j (fun e => { e with val := .slice g.s.a g.s.n g.s.cap }), ?_, ?_, hfr (.map (arr.modify j (fun e => { e with val := .slice g.s.a g.s.n g.s.cap })) clock), by simp⟩
  ·simp [Instr.entryStore, hget, asInt, asIntOf, hidx, hset, Result.andThen]
  ·have hml : ∀ {α : Type} (F : MapEntry → α) (i : Nat), ((arr.modify j (fun e => { e with val := .slice g.s.a g.s.n g.s.cap })).toList.map F)[i]? = if j = i then (arr.toList[i]?).map (fun e => F { e with val := .slice g.s.a g.s.n g.s.cap }) else (arr.toList[i]?).map F := fun F i => by
    rw [List.getElem?_map, Array.getElem?_toList, Array.getElem?_modify]
    by_cases hij : j = i
    ·rw [if_pos hij, if_pos hij, ← Array.getElem?_toList]; cases arr.toList[i]? <;> rfl
    ·rw [if_neg hij, if_neg hij, ← Array.getElem?_toList]
   refine ⟨(MapKept.heap_set h.heap).1, ?_, ?_, ?_⟩
   ·apply List.ext_getElem?
    intro i
    rw [hml]
    have hkv : (arr.toList.map (fun e => (e.key, e.val)))[i]? = (es.map (fun e => (dV e.d, e.s.val)))[i]? := by rw [h.kv]
    rw [List.getElem?_map, List.getElem?_map] at hkv
    rw [List.getElem?_map]
    by_cases hij : j = i
    ·subst hij
     rw [if_pos rfl, he]
     rw [he, hf] at hkv
     simp only [Option.map_some, Option.some.injEq, Prod.mk.injEq] at hkv
     have hjes := (List.getElem?_eq_some_iff.1 hf).1
     rw [List.getElem?_set_self hjes]
     simp [hkv.1, hd, SlR.val]
    ·rw [if_neg hij, List.getElem?_set_ne hij]
     exact hkv
   ·have : (arr.modify j (fun e => { e with val := .slice g.s.a g.s.n g.s.cap })).toList.map (·.born) = arr.toList.map (·.born) := by
     apply List.ext_getElem?
     intro i
     rw [hml, List.getElem?_map]
     split <;> rfl
    rw [this]; exact h.nodup
   ·intro x hx
    have : x.born ∈ arr.toList.map (·.born) := by
     have h1 : (arr.modify j (fun e => { e with val := .slice g.s.a g.s.n g.s.cap })).toList.map (·.born) = arr.toList.map (·.born) := by
      apply List.ext_getElem?
      intro i
      rw [hml, List.getElem?_map]
      split <;> rfl
     rw [← h1]; exact List.mem_map.2 ⟨x, hx, rfl⟩
    obtain ⟨y, hy, hxy⟩ := List.mem_map.1 this
    rw [← hxy]; exact h.lt y hy
end Go.Proofs.YtekegfbjbainhaaGreat


namespace Go.Proofs.YtekegfbjbainhaaGreat
open Go.RowKit
abbrev StoRow (w : World) (sb : Nat) (en : SlR) (mp : Option Nat) (tr : SlR) : Prop := RowV w sb 130 [en.val, .map mp, tr.val]
theorem Tryz.sizeEntry : (Tryz.prog.info? 74).map (·.size) = some 10 := by kernel_rfl
theorem concat_put (W : World) (en bs k' v' : SlR) (xs : List EnP) (i j : Nat) (hi : i ≤ xs.length) (hj : j ≤ xs.length) (h60 : xs.length ≤ 60) (h8 : ∀ x ∈ xs, x.d.length = 8) (hs : SlV W en.a (ensC xs)) (hn1 : en.a = none → i = 0 ∧ en.cap = 0)
  (hb : SlV W bs.a (ensC (xs.drop j))) (hbn : bs.n = xs.length - j) (hn2 : bs.a = none → bs.n = 0 ∧ bs.cap = 0) :
  Calls Tryz.prog 79 #[.slice (some ⟨W.heap.size + 1, 0, none⟩) 3 3] (((W.alloc (.cells #[.slice k'.a k'.n k'.cap, .slice v'.a v'.n v'.cap, .int .u8 0, .int .u8 0, .int .u8 0, .int .u8 0, .int .u8 0, .int .u8 0, .int .u8 0, .int .u8 0] 74)).alloc (.cells #[.slice en.a i en.cap, .slice (some ⟨W.heap.size, 0, none⟩) 1 1, .slice bs.a bs.n bs.cap] 67)).drew)
   fun e w' => ∃ s : SlR, e = .returned (.slice s.a s.n s.cap) ∧ w'.ownsRow W.heap.size 74 10 s.val (putX xs i [⟨k', v', zero8⟩] j).length (ensC (putX xs i [⟨k', v', zero8⟩] j)) ∧ Below W.heap.size W w' := by
 have hB : Below W.heap.size W (((W.alloc (.cells #[.slice k'.a k'.n k'.cap, .slice v'.a v'.n v'.cap, .int .u8 0, .int .u8 0, .int .u8 0, .int .u8 0, .int .u8 0, .int .u8 0, .int .u8 0, .int .u8 0] 74)).alloc (.cells #[.slice en.a i en.cap, .slice (some ⟨W.heap.size, 0, none⟩) 1 1, .slice bs.a bs.n bs.cap] 67)).drew) := by
  have h1 := ((Frame.refl (fun _ => False) W).alloc (.cells #[.slice k'.a k'.n k'.cap, .slice v'.a v'.n v'.cap, .int .u8 0, .int .u8 0, .int .u8 0, .int .u8 0, .int .u8 0, .int .u8 0, .int .u8 0, .int .u8 0] 74)).alloc (.cells #[.slice en.a i en.cap, .slice (some ⟨W.heap.size, 0, none⟩) 1 1, .slice bs.a bs.n bs.cap] 67)
  exact h1.drew.below (Nat.le_refl _) (fun k hk => by cases hk)
 have hp2 : RowV (((W.alloc (.cells #[.slice k'.a k'.n k'.cap, .slice v'.a v'.n v'.cap, .int .u8 0, .int .u8 0, .int .u8 0, .int .u8 0, .int .u8 0, .int .u8 0, .int .u8 0, .int .u8 0] 74)).alloc (.cells #[.slice en.a i en.cap, .slice (some ⟨W.heap.size, 0, none⟩) 1 1, .slice bs.a bs.n bs.cap] 67)).drew) W.heap.size 74 (enC ⟨k', v', zero8⟩) := (RowV.new W 74 (enC ⟨k', v', zero8⟩)).alloc (.cells #[.slice en.a i en.cap, .slice (some ⟨W.heap.size, 0, none⟩) 1 1, .slice bs.a bs.n bs.cap] 67)
 have hp3 : RowV (((W.alloc (.cells #[.slice k'.a k'.n k'.cap, .slice v'.a v'.n v'.cap, .int .u8 0, .int .u8 0, .int .u8 0, .int .u8 0, .int .u8 0, .int .u8 0, .int .u8 0, .int .u8 0] 74)).alloc (.cells #[.slice en.a i en.cap, .slice (some ⟨W.heap.size, 0, none⟩) 1 1, .slice bs.a bs.n bs.cap] 67)).drew) (W.heap.size + 1) 67 [.slice en.a i en.cap, .slice (some ⟨W.heap.size, 0, none⟩) 1 1, .slice bs.a bs.n bs.cap] := RowV.new_at (W.alloc (.cells #[.slice k'.a k'.n k'.cap, .slice v'.a v'.n v'.cap, .int .u8 0, .int .u8 0, .int .u8 0, .int .u8 0, .int .u8 0, .int .u8 0, .int .u8 0, .int .u8 0] 74)) 67 (W.heap.size + 1) _ (by simp)
 have hs1 := hs.below_all hB
 have hb1 := hb.below_all hB
 generalize (((W.alloc (.cells #[.slice k'.a k'.n k'.cap, .slice v'.a v'.n v'.cap, .int .u8 0, .int .u8 0, .int .u8 0, .int .u8 0, .int .u8 0, .int .u8 0, .int .u8 0, .int .u8 0] 74)).alloc (.cells #[.slice en.a i en.cap, .slice (some ⟨W.heap.size, 0, none⟩) 1 1, .slice bs.a bs.n bs.cap] 67)).drew) = X at *
 have ht8 : ∀ x ∈ xs.take i, x.d.length = 8 := fun x hx => h8 x (List.mem_of_mem_take hx)
 have hd8 : ∀ x ∈ xs.drop j, x.d.length = 8 := fun x hx => h8 x (List.mem_of_mem_drop hx)
 have hpn : pN [(⟨en.a, i, en.cap⟩, ensC (xs.take i)), (⟨some ⟨W.heap.size, 0, none⟩, 1, 1⟩, enC ⟨k', v', zero8⟩), (bs, ensC (xs.drop j))] = (putX xs i [⟨k', v', zero8⟩] j).length := by
  simp [pN, putX, hbn]; omega
 have hpc : pC [(⟨en.a, i, en.cap⟩, ensC (xs.take i)), (⟨some ⟨W.heap.size, 0, none⟩, 1, 1⟩, enC ⟨k', v', zero8⟩), (bs, ensC (xs.drop j))] = ensC (putX xs i [⟨k', v', zero8⟩] j) := by
  simp [pC, putX, ensC]
 have hcall := concatE_any (W.heap.size + 1) 3 [(⟨en.a, i, en.cap⟩, ensC (xs.take i)), (⟨some ⟨W.heap.size, 0, none⟩, 1, 1⟩, enC ⟨k', v', zero8⟩), (bs, ensC (xs.drop j))] X rfl (by simp) (by rw [hpn]; simp [putX]; omega) ?_ hp3.lt ?_
 ·refine hcall.mono ?_
  rintro e w' ⟨s, rfl, ho, hb2⟩
  refine ⟨s, rfl, ?_, hB.trans (hb2.mono hB.size)⟩
  rw [hpn, hpc] at ho
  exact owns_base ho (fun k hk => Nat.le_trans hB.size (ho.lt k hk).1)
 ·intro q hq
  match q, hq with
  | 0, _ => exact hp3.cell 0 (by simp)
  | 1, _ => exact hp3.cell 1 (by simp)
  | 2, _ => exact hp3.cell 2 (by simp)
 ·intro p hp
  simp only [List.mem_cons, List.not_mem_nil, or_false] at hp
  rcases hp with rfl | rfl | rfl
  ·refine ⟨?_, ?_, hn1, ensC_one _⟩
   ·show SlV X en.a (ensC (xs.take i))
    rw [ensC_take xs h8 i hi]; exact hs1.take _
   ·show (ensC (xs.take i)).length = i * 10
    rw [ensC_length _ ht8, List.length_take, Nat.min_eq_left hi]
  ·refine ⟨?_, rfl, (fun h => by cases h), ?_⟩
   ·intro q hq
    exact ⟨W.heap.size, 0, rfl, hp2.lt, by rw [Nat.zero_add]; exact hp2.cell q hq⟩
   ·intro u hu
    exact ensC_one [⟨k', v', zero8⟩] u (by simpa [ensC] using hu)
  ·refine ⟨hb1, ?_, hn2, ensC_one _⟩
   show (ensC (xs.drop j)).length = bs.n * 10
   rw [ensC_length _ hd8, List.length_drop, hbn]
theorem idx_put {α : Type} (l : List α) (i j : Nat) (e : α) (hi : i ≤ l.length) (q : Nat) : (l.take i ++ [e] ++ l.drop j)[q]? = if q < i then l[q]? else if q = i then some e else l[j + (q - i - 1)]? := by
 have hti : (l.take i).length = i := by rw [List.length_take]; omega
 by_cases hq : q < i
 ·rw [if_pos hq, List.append_assoc, List.getElem?_append_left (by omega), List.getElem?_take_of_lt hq]
 ·rw [if_neg hq, List.append_assoc, List.getElem?_append_right (by omega), hti]
  by_cases hq2 : q = i
  ·rw [if_pos hq2]; subst hq2; simp
  ·rw [if_neg hq2]
   obtain ⟨d, hd⟩ : ∃ d, q - i = d + 1 := ⟨q - i - 1, by omega⟩
   rw [hd, List.singleton_append, List.getElem?_cons_succ, List.getElem?_drop]
   rfl
theorem put_ent {W W' : World} {en s : SlR} {xs : List EnP} {its : List ItR} {k' v' : SlR} {key value : List UInt8} {i j : Nat} (hE : EntAt W en xs its) (hB : Below W.heap.size W W') (hk : BS W k' key) (hv : BS W v' value) (hi : i ≤ xs.length)
  (ho : W'.ownsRow W.heap.size 74 10 s.val (putX xs i [⟨k', v', zero8⟩] j).length (ensC (putX xs i [⟨k', v', zero8⟩] j))) : EntAt W' s (putX xs i [⟨k', v', zero8⟩] j) (its.take i ++ [⟨key, value, 0⟩] ++ its.drop j) := by
 refine ⟨owns_base ho (fun k hk => Nat.zero_le _), ?_, ?_⟩
 ·have := hE.len
  simp [putX]; omega
 ·intro q h1 h2
  have hl := hE.len
  have g1 : (putX xs i [⟨k', v', zero8⟩] j)[q]? = _ := idx_put xs i j ⟨k', v', zero8⟩ hi q
  have g2 := idx_put its i j ⟨key, value, 0⟩ (by omega) q
  have e1 : (putX xs i [⟨k', v', zero8⟩] j)[q]? = some (putX xs i [⟨k', v', zero8⟩] j)[q] := List.getElem?_eq_getElem h1
  have e2 := List.getElem?_eq_getElem h2
  rw [g1] at e1
  rw [g2] at e2
  by_cases hq : q < i
  ·rw [if_pos hq] at e1 e2
   obtain ⟨p1, p2⟩ := List.getElem?_eq_some_iff.1 e1
   obtain ⟨p3, p4⟩ := List.getElem?_eq_some_iff.1 e2
   rw [← p4]
   have := (hE.ok q p1 p3).below hB
   rw [p2] at this; exact this
  ·rw [if_neg hq] at e1 e2
   by_cases hq2 : q = i
   ·rw [if_pos hq2] at e1 e2
    have p2 := Option.some.inj e1
    have p4 := Option.some.inj e2
    rw [← p4]
    have : EnOk W' ⟨k', v', zero8⟩ ⟨key, value, 0⟩ := ⟨hk.below hB, hv.below hB, rfl⟩
    rw [p2] at this; exact this
   ·rw [if_neg hq2] at e1 e2
    obtain ⟨p1, p2⟩ := List.getElem?_eq_some_iff.1 e1
    obtain ⟨p3, p4⟩ := List.getElem?_eq_some_iff.1 e2
    rw [← p4]
    have := (hE.ok _ p1 p3).below hB
    rw [p2] at this; exact this
theorem put_foot {en s : SlR} {xs : List EnP} {k' v' : SlR} {i j n : Nat} (hs : ∀ k, s.val.ownBlock = some k → n ≤ k) (hk : ∀ x, k'.a = some x → n ≤ x.block) (hv : ∀ x, v'.a = some x → n ≤ x.block) :
  ∀ k, entF s (putX xs i [⟨k', v', zero8⟩] j) k → k < n → entF en xs k := fun k h hlt => by
 rcases h with h | ⟨x, hx, h⟩
 ·have := hs k h; omega
 ·have hm : x ∈ xs ∨ x = ⟨k', v', zero8⟩ := by
   unfold putX at hx
   simp only [List.mem_append, List.mem_singleton] at hx
   rcases hx with (hx | hx) | hx
   ·exact Or.inl (List.mem_of_mem_take hx)
   ·exact Or.inr hx
   ·exact Or.inl (List.mem_of_mem_drop hx)
  rcases hm with hm | rfl
  ·exact Or.inr ⟨x, hm, h⟩
  ·rcases h with ⟨y, hy, rfl⟩ | ⟨y, hy, rfl⟩
   ·have := hk y hy; omega
   ·have := hv y hy; omega
theorem put_fin {w W w4 : World} {sb : Nat} {en tr s4 : SlR} {mp : Option Nat} {xs : List EnP} {its : List ItR} {k' v' : SlR} {key value : List UInt8} {i j : Nat} (hR : StoRow w sb en mp tr) (hd : ∀ k, entF en xs k → k ≠ sb) (hE : EntAt w en xs its) (hWB : Below w.heap.size w W)
  (hk : BS W k' key) (hv : BS W v' value) (hkf : ∀ x, k'.a = some x → w.heap.size ≤ x.block) (hvf : ∀ x, v'.a = some x → w.heap.size ≤ x.block) (hi : i ≤ xs.length)
  (ho : w4.ownsRow W.heap.size 74 10 s4.val (putX xs i [⟨k', v', zero8⟩] j).length (ensC (putX xs i [⟨k', v', zero8⟩] j))) (hb4 : Below W.heap.size W w4) :
  StoRow (w4.setCell ⟨sb, 0, none⟩ s4.val) sb s4 mp tr ∧ EntAt (w4.setCell ⟨sb, 0, none⟩ s4.val) s4 (putX xs i [⟨k', v', zero8⟩] j) (its.take i ++ [⟨key, value, 0⟩] ++ its.drop j) ∧ Frame (fun k => k = sb) w (w4.setCell ⟨sb, 0, none⟩ s4.val) ∧
   (∀ k, entF s4 (putX xs i [⟨k', v', zero8⟩] j) k → k < w.heap.size → entF en xs k) := by
 have hB4 : Below w.heap.size w w4 := hWB.trans (hb4.mono hWB.size)
 have hfoot := put_foot (en := en) (xs := xs) (i := i) (j := j) (n := w.heap.size) (fun k hk => Nat.le_trans hWB.size (ho.lt k hk).1) hkf hvf
 refine ⟨by simpa using (RowV.below hR (RowV.lt hR) hB4).set 0 s4.val, ?_, (Frame.of_below_all (S := fun k => k = sb) hB4).setCell (p := ⟨sb, 0, none⟩) rfl _, hfoot⟩
 refine (put_ent (hE.below hWB) hb4 hk hv hi ho).frame ((Frame.refl (fun k => k = sb) w4).setCell (p := ⟨sb, 0, none⟩) rfl _) (fun k hk e => ?_)
 exact hd k (hfoot k hk (by rw [e]; exact RowV.lt hR)) e
set_option maxRecDepth 100000 in
set_option maxHeartbeats 4000000 in
theorem put_ok (sb : Nat) (en tr : SlR) (mp : Option Nat) (xs : List EnP) (its : List ItR) (sk sv : SlR) (key value : List UInt8) (w : World) (hR : StoRow w sb en mp tr) (hd : ∀ k, entF en xs k → k ≠ sb) (hE : EntAt w en xs its) (hr : Rising its) (h60 : xs.length ≤ 60) (hK : BS w sk key) (hV : BS w sv value)
  (hk1 : 1 ≤ key.length) (hk2 : key.length ≤ 12) (hv2 : value.length ≤ 12) (hfull : thereB its key = false → xs.length < 60) :
  Calls Tryz.prog 40 #[.pointer (some ⟨sb, 0, none⟩), sk.val, sv.val] w fun e w' => e = .returned (.int .i64 0) ∧
   ∃ en' xs', StoRow w' sb en' mp tr ∧ EntAt w' en' xs' (putN its key value) ∧ Frame (fun k => k = sb) w w' ∧ (∀ k, entF en' xs' k → k < w.heap.size → entF en xs k) := by
 have hsb := hR.lt
 have h0 : w.cell? ⟨sb, 0, none⟩ = some (.slice en.a en.n en.cap) := hR.cell 0 (by simp)
 obtain ⟨hen, hnc, hcm, had⟩ := owns_cap (a := en.a) (n' := en.n) (cap := en.cap) hE.own
 have hsl := (SlV.ofOwn (s := en) hE.own).1
 have HIK : Hid (Calls _ _ _ _ _) := isKey_any sk.a sk.n sk.cap w (by rw [hK.n]; unfold maxLen; omega)
 have HIV : Hid (Calls _ _ _ _ _) := isValue_any sv.a sv.n sv.cap w (by rw [hV.n]; unfold maxLen; omega)
 have hkb : (decide (1 ≤ sk.n) && decide (sk.n ≤ 12)) = true := by rw [hK.n]; simp [hk1, hk2]
 have hvb : decide (sv.n ≤ 12) = true := by rw [hV.n]; simp [hv2]
 rw [hkb] at HIK
 rw [hvb] at HIV
 have HF : Hid (Calls _ _ _ _ _) := find_any en xs its sk key w hen hE.len h60 hsl hE.ok hr hK
 have hi := placeN_le its key
 have HT := @thereB_lt its key
 have HPUT : Hid (putN its key value = its.take (placeN its key) ++ [⟨key, value, 0⟩] ++ its.drop (if thereB its key then placeN its key + 1 else placeN its key)) := rfl
 rw [hE.len] at hi
 have HLEN : Hid (its.length = xs.length) := hE.len
 generalize placeN its key = i at *
 generalize thereB its key = t at *
 have HEN : Hid (en.n = xs.length) := hen
 have HNC : Hid (en.n ≤ en.cap) := by unfold Hid; omega
 have HI : Hid (i ≤ en.n) := by unfold Hid; omega
 have HTI : Hid (t = true → i < en.n) := fun e => by have := HT e; have := HLEN.out; omega
 have HFU : Hid (t = false → en.n < 60) := fun e => by have := hfull e; omega
 have hkn : sk.n ≤ 12 := by rw [hK.n]; exact hk2
 have hvn : sv.n ≤ 12 := by rw [hV.n]; exact hv2
 have hcm' : (en.cap : Int) ≤ 9223372036854775807 := by unfold maxLen at hcm; omega
 have HNIL2 : Hid (en.a = none → en.n = 0 ∧ en.cap = 0) := fun e => by
  rcases had with ⟨_, h1, h2⟩ | ⟨g, h1, _⟩
  ·exact ⟨by omega, h2⟩
  ·rw [e] at h1; cases h1
 have HNIL : Hid (en.a = none → i = 0 ∧ en.cap = 0) := fun e => by have := HNIL2.out e; have := HI.out; omega
 clear hkb hvb HT hfull hen hnc hcm hi hk1 hk2 hv2 had
 unfold SlR.val at HF ⊢
 go_enter Tryz.func40, Tryz.ntmps40
 go_wp2_with fail
 refine HIK.out.mono ?_
 rintro e w1 ⟨rfl, hw1⟩
 obtain rfl : w = w1 := hw1.symm
 clear hw1
 go_wp2_with fail
 refine HIV.out.mono ?_
 rintro e w1 ⟨rfl, hw1⟩
 obtain rfl : w = w1 := hw1.symm
 clear hw1
 go_wp2_with fail
 refine HF.out.mono ?_
 rintro e w1 ⟨rfl, hB1⟩
 have d0 : w1.cell? ⟨sb, 0, none⟩ = some (.slice en.a en.n en.cap) := by rw [hB1.cell (p := ⟨sb, 0, none⟩) hsb]; exact h0
 cases t
 ·have hfl : ¬ (60 : Int) ≤ (en.n : Int) := by have := HFU.out rfl; omega
  have hiI : (i : Int) ≤ en.n := by have := HI.out; omega
  have hic : (i : Int) ≤ en.cap := by have := HI.out; have := HNC.out; omega
  go_wp2_with (refine wp_sliceLo (by rfl) 67 74 (.tmp 43) (.tmp 44) (by rfl) en.a en.n en.cap i 10 (by rfl) (by rfl) Tryz.underlying67 Tryz.sizeEntry HI.out HNC.out ?_)
  refine (clone_any sk key w1 (hK.below hB1) (by rw [← hK.n]; omega)).mono ?_
  rintro e w2 ⟨k', rfl, hk2, hkf, hB2⟩
  unfold SlR.val
  go_wp2_with fail
  refine (clone_any sv value w2 ((hV.below hB1).below hB2) (by rw [← hV.n]; omega)).mono ?_
  rintro e w3 ⟨v', rfl, hv3, hvf, hB3⟩
  unfold SlR.val
  have HB3 : Below w.heap.size w w3 := (hB1.trans (hB2.mono hB1.size)).trans (hB3.mono (hB1.trans (hB2.mono hB1.size)).size)
  have hW0 : (w3.alloc (.cells #[.slice k'.a k'.n k'.cap, .slice v'.a v'.n v'.cap, .int .u8 0, .int .u8 0, .int .u8 0, .int .u8 0, .int .u8 0, .int .u8 0, .int .u8 0, .int .u8 0] 74)).cell? ⟨sb, 0, none⟩ = some (.slice en.a en.n en.cap) := by
   rw [(HB3.alloc HB3.size _).cell (p := ⟨sb, 0, none⟩) hsb]; exact h0
  have hWE : RowV (w3.alloc (.cells #[.slice k'.a k'.n k'.cap, .slice v'.a v'.n v'.cap, .int .u8 0, .int .u8 0, .int .u8 0, .int .u8 0, .int .u8 0, .int .u8 0, .int .u8 0, .int .u8 0] 74)) w3.heap.size 74 [.slice k'.a k'.n k'.cap, .slice v'.a v'.n v'.cap, .int .u8 0, .int .u8 0, .int .u8 0, .int .u8 0, .int .u8 0, .int .u8 0, .int .u8 0, .int .u8 0] := RowV.new w3 _ _
  have hBW : Below w3.heap.size w3 (w3.alloc (.cells #[.slice k'.a k'.n k'.cap, .slice v'.a v'.n v'.cap, .int .u8 0, .int .u8 0, .int .u8 0, .int .u8 0, .int .u8 0, .int .u8 0, .int .u8 0, .int .u8 0] 74)) := (Below.refl _ _).alloc (Nat.le_refl _) _
  go_wp2
  generalize w3.alloc (.cells #[.slice k'.a k'.n k'.cap, .slice v'.a v'.n v'.cap, .int .u8 0, .int .u8 0, .int .u8 0, .int .u8 0, .int .u8 0, .int .u8 0, .int .u8 0, .int .u8 0] 74) = W at *
  have q0 := hWE.cell 0 (by simp)
  have q1 := hWE.cell 1 (by simp)
  have q2 := hWE.cell 2 (by simp)
  have q3 := hWE.cell 3 (by simp)
  have q4 := hWE.cell 4 (by simp)
  have q5 := hWE.cell 5 (by simp)
  have q6 := hWE.cell 6 (by simp)
  have q7 := hWE.cell 7 (by simp)
  have q8 := hWE.cell 8 (by simp)
  have q9 := hWE.cell 9 (by simp)
  simp only [List.getElem_cons_zero, List.getElem_cons_succ] at q0 q1 q2 q3 q4 q5 q6 q7 q8 q9
  have HW1 : Below w.heap.size w W := HB3.trans (hBW.mono HB3.size)
  have HCC : Hid (Calls _ _ _ _ _) := concat_put W en ⟨cutS en.a en.cap i 10, en.n - i, en.cap - i⟩ k' v' xs i i (by have := HI.out; have := HEN.out; omega) (by have := HI.out; have := HEN.out; omega) h60 hE.d8 (hsl.below_all HW1) HNIL.out
   (by
    have h1 := SlV.cut (n := en.n) (cap := en.cap) (i := i) (size := 10) (hsl.below_all HW1) (by rw [ensC_length _ hE.d8, HEN.out]) HI.out HNC.out
    rw [ensC_drop _ hE.d8 _ (by have := HI.out; have := HEN.out; omega)]; exact h1) (by show en.n - i = _; rw [HEN.out]) (fun h => by have := HNIL2.out (cutS_none h); simp only; omega)
  have hW1 : (W.alloc (.cells #[.slice k'.a k'.n k'.cap, .slice v'.a v'.n v'.cap, .int .u8 0, .int .u8 0, .int .u8 0, .int .u8 0, .int .u8 0, .int .u8 0, .int .u8 0, .int .u8 0] 74)).cell? ⟨sb, 0, none⟩ = some (.slice en.a en.n en.cap) := by
   rw [((Below.refl W.heap.size W).alloc (Nat.le_refl _) _).cell (p := ⟨sb, 0, none⟩) (Nat.lt_of_lt_of_le hsb HW1.size)]; exact hW0
  have HWs : Hid (W.frozen? ⟨sb, 0, none⟩ = false) := (hR.below hsb HW1).frozen 0
  have hiX : i ≤ xs.length := by have := HI.out; have := HEN.out; omega
  have HIX : Hid (i ≤ xs.length) := hiX
  clear h60 hiX
  go_region_with (go_at_call 79; refine HCC.out.mono ?_; rintro e w4 ⟨s4, rfl, ho4, hb4⟩; have r0 : w4.cell? ⟨sb, 0, none⟩ = some (.slice en.a en.n en.cap) := (by rw [hb4.cell (p := ⟨sb, 0, none⟩) (Nat.lt_of_lt_of_le hsb HW1.size)]; exact hW0); have r1 : w4.frozen? ⟨sb, 0, none⟩ = false := (by rw [hb4.frozen (p := ⟨sb, 0, none⟩) (Nat.lt_of_lt_of_le hsb HW1.size)]; exact HWs.out))
  all_goals
   go_wp2
   go_ret
   have hz1 := hB1.size
   have hz2 := hB2.size
   have hz3 := hB3.size
   have hfin := put_fin hR hd hE HW1 ((hk2.below hB3).below hBW) (hv3.below hBW) (fun x hx => Nat.le_trans hz1 (hkf x hx)) (fun x hx => Nat.le_trans (Nat.le_trans hz1 hz2) (hvf x hx)) HIX.out ho4 hb4
   refine ⟨rfl, s4, _, hfin.1, ?_, hfin.2.2.1, hfin.2.2.2⟩
   rw [HPUT.out]; exact hfin.2.1
 ·have H1 : Hid (1 ≤ en.n - i) := by have := HTI.out (by trivial); unfold Hid; omega
  have H2 : Hid (en.n - i ≤ en.cap - i) := by have := HNC.out; unfold Hid; omega
  have hiI : (i : Int) ≤ en.n := by have := HI.out; omega
  have hic : (i : Int) ≤ en.cap := by have := HI.out; have := HNC.out; omega
  go_wp2_with (first
   | (refine wp_sliceLo (by rfl) 67 74 (.tmp 43) (.tmp 44) (by rfl) en.a en.n en.cap i 10 (by rfl) (by rfl) Tryz.underlying67 Tryz.sizeEntry HI.out HNC.out ?_)
   | (refine wp_sliceLo (by rfl) 67 74 (.tmp 47) (.const (.int .i64 1)) (by rfl) (cutS en.a en.cap i 10) (en.n - i) (en.cap - i) 1 10 (by rfl) (by rfl) Tryz.underlying67 Tryz.sizeEntry H1.out H2.out ?_))
  refine (clone_any sk key w1 (hK.below hB1) (by rw [← hK.n]; omega)).mono ?_
  rintro e w2 ⟨k', rfl, hk2, hkf, hB2⟩
  unfold SlR.val
  go_wp2_with fail
  refine (clone_any sv value w2 ((hV.below hB1).below hB2) (by rw [← hV.n]; omega)).mono ?_
  rintro e w3 ⟨v', rfl, hv3, hvf, hB3⟩
  unfold SlR.val
  have HB3 : Below w.heap.size w w3 := (hB1.trans (hB2.mono hB1.size)).trans (hB3.mono (hB1.trans (hB2.mono hB1.size)).size)
  have hW0 : (w3.alloc (.cells #[.slice k'.a k'.n k'.cap, .slice v'.a v'.n v'.cap, .int .u8 0, .int .u8 0, .int .u8 0, .int .u8 0, .int .u8 0, .int .u8 0, .int .u8 0, .int .u8 0] 74)).cell? ⟨sb, 0, none⟩ = some (.slice en.a en.n en.cap) := by
   rw [(HB3.alloc HB3.size _).cell (p := ⟨sb, 0, none⟩) hsb]; exact h0
  have hWE : RowV (w3.alloc (.cells #[.slice k'.a k'.n k'.cap, .slice v'.a v'.n v'.cap, .int .u8 0, .int .u8 0, .int .u8 0, .int .u8 0, .int .u8 0, .int .u8 0, .int .u8 0, .int .u8 0] 74)) w3.heap.size 74 [.slice k'.a k'.n k'.cap, .slice v'.a v'.n v'.cap, .int .u8 0, .int .u8 0, .int .u8 0, .int .u8 0, .int .u8 0, .int .u8 0, .int .u8 0, .int .u8 0] := RowV.new w3 _ _
  have hBW : Below w3.heap.size w3 (w3.alloc (.cells #[.slice k'.a k'.n k'.cap, .slice v'.a v'.n v'.cap, .int .u8 0, .int .u8 0, .int .u8 0, .int .u8 0, .int .u8 0, .int .u8 0, .int .u8 0, .int .u8 0] 74)) := (Below.refl _ _).alloc (Nat.le_refl _) _
  go_wp2
  generalize w3.alloc (.cells #[.slice k'.a k'.n k'.cap, .slice v'.a v'.n v'.cap, .int .u8 0, .int .u8 0, .int .u8 0, .int .u8 0, .int .u8 0, .int .u8 0, .int .u8 0, .int .u8 0] 74) = W at *
  have q0 := hWE.cell 0 (by simp)
  have q1 := hWE.cell 1 (by simp)
  have q2 := hWE.cell 2 (by simp)
  have q3 := hWE.cell 3 (by simp)
  have q4 := hWE.cell 4 (by simp)
  have q5 := hWE.cell 5 (by simp)
  have q6 := hWE.cell 6 (by simp)
  have q7 := hWE.cell 7 (by simp)
  have q8 := hWE.cell 8 (by simp)
  have q9 := hWE.cell 9 (by simp)
  simp only [List.getElem_cons_zero, List.getElem_cons_succ] at q0 q1 q2 q3 q4 q5 q6 q7 q8 q9
  have HW1 : Below w.heap.size w W := HB3.trans (hBW.mono HB3.size)
  have HCC : Hid (Calls _ _ _ _ _) := concat_put W en ⟨cutS (cutS en.a en.cap i 10) (en.cap - i) 1 10, en.n - i - 1, en.cap - i - 1⟩ k' v' xs i (i + 1) (by have := HI.out; have := HEN.out; omega) (by have := HTI.out (by trivial); have := HEN.out; omega) h60 hE.d8 (hsl.below_all HW1) HNIL.out
   (by
    have h1 := SlV.cut (n := en.n) (cap := en.cap) (i := i) (size := 10) (hsl.below_all HW1) (by rw [ensC_length _ hE.d8, HEN.out]) HI.out HNC.out
    have h2 := SlV.cut (n := en.n - i) (cap := en.cap - i) (i := 1) (size := 10) h1 (by rw [List.length_drop, ensC_length _ hE.d8, HEN.out, Nat.sub_mul]) H1.out H2.out
    rw [List.drop_drop] at h2
    rw [ensC_drop _ hE.d8 _ (by have := HTI.out (by trivial); have := HEN.out; omega), show (i + 1) * 10 = i * 10 + 1 * 10 by omega]; exact h2) (by show en.n - i - 1 = _; rw [HEN.out]; omega) (fun h => by have := HNIL2.out (cutS_none (cutS_none h)); simp only; omega)
  have hW1 : (W.alloc (.cells #[.slice k'.a k'.n k'.cap, .slice v'.a v'.n v'.cap, .int .u8 0, .int .u8 0, .int .u8 0, .int .u8 0, .int .u8 0, .int .u8 0, .int .u8 0, .int .u8 0] 74)).cell? ⟨sb, 0, none⟩ = some (.slice en.a en.n en.cap) := by
   rw [((Below.refl W.heap.size W).alloc (Nat.le_refl _) _).cell (p := ⟨sb, 0, none⟩) (Nat.lt_of_lt_of_le hsb HW1.size)]; exact hW0
  have HWs : Hid (W.frozen? ⟨sb, 0, none⟩ = false) := (hR.below hsb HW1).frozen 0
  have hiX : i ≤ xs.length := by have := HI.out; have := HEN.out; omega
  have HIX : Hid (i ≤ xs.length) := hiX
  clear h60 hiX
  go_region_with (go_at_call 79; refine HCC.out.mono ?_; rintro e w4 ⟨s4, rfl, ho4, hb4⟩; have r0 : w4.cell? ⟨sb, 0, none⟩ = some (.slice en.a en.n en.cap) := (by rw [hb4.cell (p := ⟨sb, 0, none⟩) (Nat.lt_of_lt_of_le hsb HW1.size)]; exact hW0); have r1 : w4.frozen? ⟨sb, 0, none⟩ = false := (by rw [hb4.frozen (p := ⟨sb, 0, none⟩) (Nat.lt_of_lt_of_le hsb HW1.size)]; exact HWs.out))
  all_goals
   go_wp2
   go_ret
   have hz1 := hB1.size
   have hz2 := hB2.size
   have hz3 := hB3.size
   have hfin := put_fin hR hd hE HW1 ((hk2.below hB3).below hBW) (hv3.below hBW) (fun x hx => Nat.le_trans hz1 (hkf x hx)) (fun x hx => Nat.le_trans (Nat.le_trans hz1 hz2) (hvf x hx)) HIX.out ho4 hb4
   refine ⟨rfl, s4, _, hfin.1, ?_, hfin.2.2.1, hfin.2.2.2⟩
   rw [HPUT.out]; exact hfin.2.1
end Go.Proofs.YtekegfbjbainhaaGreat


namespace Go.Proofs.YtekegfbjbainhaaGreat
open Go.RowKit
theorem KnownAt.frame {w W : World} {sb m N : Nat} {es : List MEn} (K : KnownAt w sb (some m) es N) (hf : Frame (fun k => k = m) w W) (hm : MapAt W (some m) es) : KnownAt W sb (some m) es N :=
 ⟨hm, K.d8, fun e he => owns_frame (K.own e he) hf (fun k hk e' => (K.msb e he k hk).2 (by rw [e'])), fun e he x hx => (K.nodes e he x hx).frame hf (fun k hk e' => K.foot e he x hx k hk (Or.inr (Or.inl (by rw [e'])))), K.apart, K.foot, K.msb, K.cnt, K.kd⟩
theorem KMut_snoc {sb k : Nat} {mp : Option Nat} {es : List MEn} {d : List UInt8} : KMut sb mp (es ++ [⟨d, ⟨none, 0, 0⟩, []⟩]) k ↔ KMut sb mp es k := by
 constructor
 ·rintro (h | h | ⟨e, he, h⟩)
  ·exact Or.inl h
  ·exact Or.inr (Or.inl h)
  ·rcases List.mem_append.1 he with he | he
   ·exact Or.inr (Or.inr ⟨e, he, h⟩)
   ·simp only [List.mem_singleton] at he
    subst he
    simp [SlR.val, Value.ownBlock] at h
 ·rintro (h | h | ⟨e, he, h⟩)
  ·exact Or.inl h
  ·exact Or.inr (Or.inl h)
  ·exact Or.inr (Or.inr ⟨e, List.mem_append_left _ he, h⟩)
theorem KnownAt.snoc {w W : World} {sb N m : Nat} {es : List MEn} {d : List UInt8} (K0 : KnownAt w sb (some m) es N) (hfm : Frame (fun k => k = m) w W) (hd : d.length = 8) (hn : d ∉ es.map (·.d)) (hm : MapAt W (some m) (es ++ [⟨d, ⟨none, 0, 0⟩, []⟩])) : KnownAt W sb (some m) (es ++ [⟨d, ⟨none, 0, 0⟩, []⟩]) N := by
 have kown : ∀ e ∈ es, W.ownsRow 0 138 1 e.s.val e.ns.length (e.ns.map (fun x => ptrV x.b)) := fun e he => owns_frame (K0.own e he) hfm (fun k hk e' => (K0.msb e he k hk).2 (by rw [e']))
 have knod : ∀ e ∈ es, ∀ x ∈ e.ns, NdOk W x := fun e he x hx => (K0.nodes e he x hx).frame hfm (fun k hk e' => K0.foot e he x hx k hk (Or.inr (Or.inl (by rw [e']))))
 have hb : (⟨none, 0, 0⟩ : SlR).val.ownBlock = none := rfl
 refine ⟨hm, ?_, ?_, ?_, ?_, ?_, ?_, ?_, ?_⟩
 ·intro e he
  rcases List.mem_append.1 he with he | he
  ·exact K0.d8 e he
  ·simp only [List.mem_singleton] at he; subst he; exact hd
 ·intro e he
  rcases List.mem_append.1 he with he | he
  ·exact kown e he
  ·simp only [List.mem_singleton] at he; subst he; exact World.ownsRow_nil _ _ _ _
 ·intro e he x hx
  rcases List.mem_append.1 he with he | he
  ·exact knod e he x hx
  ·simp only [List.mem_singleton] at he; subst he; cases hx
 ·intro i j e f hij hi hj k hk hf
  have hlast : ∀ (i : Nat) (e : MEn), (es ++ [⟨d, ⟨none, 0, 0⟩, []⟩])[i]? = some e → ∀ k, e.s.val.ownBlock = some k → es[i]? = some e := fun i e hi k hk => by
   by_cases hlt : i < es.length
   ·rw [List.getElem?_append_left hlt] at hi; exact hi
   ·rw [List.getElem?_append_right (by omega)] at hi
    obtain ⟨h1, h2⟩ := List.getElem?_eq_some_iff.1 hi
    simp at h1
    have : i - es.length = 0 := by omega
    simp only [this, List.getElem_cons_zero] at h2
    subst h2
    rw [hb] at hk; cases hk
  exact K0.apart i j e f hij (hlast i e hi k hk) (hlast j f hj k hf) k hk hf
 ·intro e he x hx k hk hmut
  rcases List.mem_append.1 he with he | he
  ·exact K0.foot e he x hx k hk (KMut_snoc.1 hmut)
  ·simp only [List.mem_singleton] at he; subst he; cases hx
 ·intro e he k hk
  rcases List.mem_append.1 he with he | he
  ·exact K0.msb e he k hk
  ·simp only [List.mem_singleton] at he; subst he; rw [hb] at hk; cases hk
 ·intro e he
  rcases List.mem_append.1 he with he | he
  ·exact K0.cnt e he
  ·simp only [List.mem_singleton] at he; subst he; exact Nat.zero_le _
 ·rw [List.map_append, List.nodup_append]
  refine ⟨K0.kd, by simp, ?_⟩
  intro x hx y hy e
  simp only [List.map_cons, List.map_nil, List.mem_singleton] at hy
  subst hy; subst e; exact hn hx
theorem KnownAt.push {Wp w3 W4 : World} {sb m N j : Nat} {es : List MEn} {f : MEn} {nd : Nd} {s' : SlR} (K : KnownAt Wp sb (some m) es N) (hf : es[j]? = some f) (hsb : sb < Wp.heap.size) (hm : m < Wp.heap.size) (hnd : NdOk Wp nd) (hnf : ∀ k, ndF nd k → ¬ KMut sb (some m) es k)
  (ho : w3.ownsRow 0 138 1 s'.val (f.ns.length + 1) (f.ns.map (fun x => ptrV x.b) ++ [ptrV nd.b])) (hf3 : Frame (fun k => f.s.val.ownBlock = some k) Wp w3) (hat : s'.val.ownBlock = f.s.val.ownBlock ∨ s'.val.ownBlock = some Wp.heap.size)
  (hf4 : Frame (fun k => k = m) w3 W4) (hM : MapAt W4 (some m) (es.set j ⟨f.d, s', f.ns ++ [nd]⟩)) :
  KnownAt W4 sb (some m) (es.set j ⟨f.d, s', f.ns ++ [nd]⟩) (N + 1) ∧ NdOk W4 nd ∧ (∀ k, ndF nd k → ¬ KMut sb (some m) (es.set j ⟨f.d, s', f.ns ++ [nd]⟩) k) ∧ (∀ k, KMut sb (some m) (es.set j ⟨f.d, s', f.ns ++ [nd]⟩) k → k < Wp.heap.size → KMut sb (some m) es k) ∧ Frame (KMut sb (some m) es) Wp W4 := by
 have hfm : f ∈ es := List.mem_of_getElem? hf
 have hjl := (List.getElem?_eq_some_iff.1 hf).1
 have hmem : ∀ e ∈ es.set j ⟨f.d, s', f.ns ++ [nd]⟩, (∃ i, i ≠ j ∧ es[i]? = some e) ∨ e = ⟨f.d, s', f.ns ++ [nd]⟩ := fun e he => by
  obtain ⟨i, hi⟩ := List.getElem?_of_mem he
  by_cases hij : j = i
  ·subst hij
   rw [List.getElem?_set_self hjl] at hi
   exact Or.inr (Option.some.inj hi).symm
  ·rw [List.getElem?_set_ne hij] at hi
   exact Or.inl ⟨i, fun e => hij e.symm, hi⟩
 have hfr : Frame (KMut sb (some m) es) Wp W4 := (hf3.mono (fun k _ hk => Or.inr (Or.inr ⟨f, hfm, hk⟩))).trans (hf4.mono (fun k _ hk => Or.inr (Or.inl (by rw [hk]))))
 have hnew : ∀ k, s'.val.ownBlock = some k → f.s.val.ownBlock = some k ∨ k = Wp.heap.size := fun k hk => by
  rcases hat with h | h
  ·exact Or.inl (h ▸ hk)
  ·rw [h] at hk; exact Or.inr (Option.some.inj hk).symm
 have hmut : ∀ k, KMut sb (some m) (es.set j ⟨f.d, s', f.ns ++ [nd]⟩) k → KMut sb (some m) es k ∨ k = Wp.heap.size := fun k hk => by
  rcases hk with h | h | ⟨e, he, h⟩
  ·exact Or.inl (Or.inl h)
  ·exact Or.inl (Or.inr (Or.inl h))
  ·rcases hmem e he with ⟨i, _, hi⟩ | rfl
   ·exact Or.inl (Or.inr (Or.inr ⟨e, List.mem_of_getElem? hi, h⟩))
   ·rcases hnew k h with h' | h'
    ·exact Or.inl (Or.inr (Or.inr ⟨f, hfm, h'⟩))
    ·exact Or.inr h'
 have hnd4 : NdOk W4 nd := hnd.frame hfr hnf
 refine ⟨⟨hM, ?_, ?_, ?_, ?_, ?_, ?_, ?_, ?_⟩, hnd4, ?_, ?_, hfr⟩
 ·intro e he
  rcases hmem e he with ⟨i, _, hi⟩ | rfl
  ·exact K.d8 e (List.mem_of_getElem? hi)
  ·exact K.d8 f hfm
 ·intro e he
  rcases hmem e he with ⟨i, hij, hi⟩ | rfl
  ·have h1 := owns_frame (K.own e (List.mem_of_getElem? hi)) hf3 (fun k hk hk2 => K.apart i j e f hij hi hf k hk hk2)
   exact owns_frame h1 hf4 (fun k hk e' => (K.msb e (List.mem_of_getElem? hi) k hk).2 (by rw [e']))
  ·have h1 := owns_frame ho hf4 (fun k hk e' => by
    rcases hnew k hk with h | h
    ·exact (K.msb f hfm k h).2 (by rw [e'])
    ·omega)
   simpa using h1
 ·intro e he x hx
  rcases hmem e he with ⟨i, hij, hi⟩ | rfl
  ·exact (K.nodes e (List.mem_of_getElem? hi) x hx).frame hfr (K.foot e (List.mem_of_getElem? hi) x hx)
  ·rcases List.mem_append.1 hx with hx | hx
   ·exact (K.nodes f hfm x hx).frame hfr (K.foot f hfm x hx)
   ·simp only [List.mem_singleton] at hx; subst hx; exact hnd4
 ·intro i i2 e e2 hne hi hi2 k hk hk2
  by_cases h1 : j = i
  ·subst h1
   rw [List.getElem?_set_self hjl] at hi
   rw [List.getElem?_set_ne hne] at hi2
   have := (Option.some.inj hi).symm
   subst this
   rcases hnew k hk with h | h
   ·exact K.apart j i2 f e2 hne hf hi2 k h hk2
   ·have := ((K.own e2 (List.mem_of_getElem? hi2)).lt k hk2).2
    omega
  ·rw [List.getElem?_set_ne h1] at hi
   by_cases h2 : j = i2
   ·subst h2
    rw [List.getElem?_set_self hjl] at hi2
    have := (Option.some.inj hi2).symm
    subst this
    rcases hnew k hk2 with h | h
    ·exact K.apart i j e f hne hi hf k hk h
    ·have := ((K.own e (List.mem_of_getElem? hi)).lt k hk).2
     omega
   ·rw [List.getElem?_set_ne h2] at hi2
    exact K.apart i i2 e e2 hne hi hi2 k hk hk2
 ·intro e he x hx k hk hm4
  rcases hmut k hm4 with h | h
  ·rcases hmem e he with ⟨i, hij, hi⟩ | rfl
   ·exact K.foot e (List.mem_of_getElem? hi) x hx k hk h
   ·rcases List.mem_append.1 hx with hx | hx
    ·exact K.foot f hfm x hx k hk h
    ·simp only [List.mem_singleton] at hx; subst hx; exact hnf k hk h
  ·have hlt : k < Wp.heap.size := by
    rcases hmem e he with ⟨i, hij, hi⟩ | rfl
    ·exact (K.nodes e (List.mem_of_getElem? hi) x hx).lt k hk
    ·rcases List.mem_append.1 hx with hx | hx
     ·exact (K.nodes f hfm x hx).lt k hk
     ·simp only [List.mem_singleton] at hx; subst hx; exact hnd.lt k hk
   omega
 ·intro e he k hk
  rcases hmem e he with ⟨i, hij, hi⟩ | rfl
  ·exact K.msb e (List.mem_of_getElem? hi) k hk
  ·rcases hnew k hk with h | h
   ·exact K.msb f hfm k h
   ·exact ⟨by omega, fun e' => by have := Option.some.inj e'; omega⟩
 ·intro e he
  rcases hmem e he with ⟨i, hij, hi⟩ | rfl
  ·have := K.cnt e (List.mem_of_getElem? hi); omega
  ·have := K.cnt f hfm; simp; omega
 ·have : (es.set j ⟨f.d, s', f.ns ++ [nd]⟩).map (·.d) = es.map (·.d) := by
   apply List.ext_getElem?
   intro i
   rw [List.getElem?_map, List.getElem?_map]
   by_cases hij : j = i
   ·subst hij; rw [List.getElem?_set_self hjl, hf]; rfl
   ·rw [List.getElem?_set_ne hij]
  rw [this]; exact K.kd
 ·intro k hk hm4
  rcases hmut k hm4 with h | h
  ·exact hnf k hk h
  ·have := hnd.lt k hk; omega
 ·intro k hm4 hlt
  rcases hmut k hm4 with h | h
  ·exact h
  ·omega
end Go.Proofs.YtekegfbjbainhaaGreat
