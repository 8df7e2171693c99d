import Derived.Test.YtekegfbjbainhaaGreatKPr10
import Derived.Maps.Keyed
import Derived.DeepKeys4
import Derived.LaidEqlPtr
import Derived.Lib.Builder
/- The program's map of pages that are known: its keys are digests. -/
namespace Go.Proofs.YtekegfbjbainhaaGreat
set_option linter.unusedVariables false
set_option linter.unusedSimpArgs false
open Go.RowKit

theorem Tryz.laidOutP : laidOutB Tryz.prog = true := by kernel_rfl
theorem Tryz.rowDig : (36 : TypeId) < Tryz.prog.types.size := of_decide_eq_true (by kernel_rfl)
set_option maxRecDepth 100000 in
theorem Tryz.wideDig : (match Tryz.prog.underlying 36 with | some (.array _ _) | some (.struct _) => true | _ => false) = true := by rw [Tryz.underlying36]
set_option maxRecDepth 100000 in
theorem Tryz.digLaw : Maps.Keyed Tryz.prog 36 := Maps.Keyed.of_law (deep_law_laid Tryz.laidOutP (m := 2) (by omega) Tryz.rowDig (by kernel_rfl) Tryz.wideDig)
theorem Tryz.undDig : Tryz.prog.underlying 36 = some (.array 8 5) := Tryz.underlying36
theorem Tryz.cellsDig : Tryz.prog.cellsOf 36 = 8 := by kernel_rfl
theorem Tryz.cellsU8 : Tryz.prog.cellsOf 5 = 1 := by kernel_rfl
theorem Tryz.keyDig : Tryz.prog.keyType 36 = true := by kernel_rfl

theorem keyLits_u8 (m : Nat) (x : UInt8) : Tryz.prog.keyLits (m + 1) 5 [u8c x] = some [.int .u8 (x.toNat : Int)] := by
  have hx := x.toNat_lt
  unfold Program.keyLits u8c
  simp only [Tryz.underlying5]
  have hw : (Lit.int .u8 (x.toNat : Int)).wf = true := WalkArith.wf_u8 ⟨by omega, by omega⟩
  simp [hw]
theorem keyOf_dig (d : List UInt8) (hd : d.length = 8) : ∃ l, keyOf Tryz.prog 36 (dV d) = some l := by
  obtain ⟨x0, x1, x2, x3, x4, x5, x6, x7, rfl⟩ := list8 d hd
  obtain ⟨m, hm⟩ : ∃ m, Tryz.prog.types.size + 1 = m + 1 + 1 := ⟨Tryz.prog.types.size - 1, by have h : 36 < Tryz.prog.types.size := Tryz.rowDig; omega⟩
  have h1 : Tryz.prog.keyLits (m + 1 + 1) 36 ((([x0, x1, x2, x3, x4, x5, x6, x7].map u8c).toArray).toList) = some [.int .u8 (x0.toNat : Int), .int .u8 (x1.toNat : Int), .int .u8 (x2.toNat : Int), .int .u8 (x3.toNat : Int), .int .u8 (x4.toNat : Int), .int .u8 (x5.toNat : Int), .int .u8 (x6.toNat : Int), .int .u8 (x7.toNat : Int)] := by
    unfold Program.keyLits
    simp only [Tryz.undDig, Tryz.cellsDig, Tryz.cellsU8]
    simp [List.range, List.range.loop, keyLits_u8]
  unfold keyOf
  rw [Tryz.undDig]
  have hf : (dV [x0, x1, x2, x3, x4, x5, x6, x7]).formed Tryz.prog 36 = true := by
    simp [dV, Value.formed, Tryz.undDig, Tryz.cellsDig]
  simp only [Tryz.keyDig, hf, Bool.and_self, if_true, hm]
  have hc : (dV [x0, x1, x2, x3, x4, x5, x6, x7]).cells.toList = ((([x0, x1, x2, x3, x4, x5, x6, x7].map u8c).toArray).toList) := rfl
  rw [hc, h1]
  exact ⟨_, rfl⟩

/-- A page that is known: its block; where its last key, its bytes, the pages below lie; its level, its entries; the pages below. -/
structure Nd where
  b : Nat
  la : SlR
  by_ : SlR
  be : SlR
  level : Nat
  its : List ItR
  bl : List Nat
def ptrV (b : Nat) : Value := .pointer (some ⟨b, 0, none⟩)
def ndC (x : Nd) : List Value := [x.la.val, x.by_.val] ++ (digB (codeB x.level x.its)).map u8c ++ [x.be.val]
/-- Entries as a page has them: what is in them can be told from the page's bytes. -/
structure PgL (level : Nat) (its : List ItR) : Prop where
  ok : ∀ x ∈ its, ItOk x
  more8 : level ≠ 0 → ∀ x ∈ its, x.more.length = 8
  norm : ∀ x ∈ its, x.below = 0
  len : its.length ≤ 200
  lv : level ≤ 6
structure NdOk (w : World) (x : Nd) : Prop where
  row : RowV w x.b 142 (ndC x)
  la : BS w x.la (lastK x.its)
  by_ : BS w x.by_ (codeB x.level x.its)
  be : SlV w x.be.a (x.bl.map ptrV)
  ben : x.be.n = x.bl.length
  belt : ∀ y, x.be.a = some y → y.block < w.heap.size
  pg : PgL x.level x.its
  blrow : ∀ b ∈ x.bl, ∃ cs, RowV w b 142 cs
  blc : x.bl.length ≤ 1000
/-- A page's blocks. -/
def ndF (x : Nd) (k : Nat) : Prop := k = x.b ∨ (∃ y, x.la.a = some y ∧ y.block = k) ∨ (∃ y, x.by_.a = some y ∧ y.block = k) ∨ (∃ y, x.be.a = some y ∧ y.block = k) ∨ k ∈ x.bl
theorem NdOk.frame {w w' : World} {S : Nat → Prop} {x : Nd} (h : NdOk w x) (hf : Frame S w w') (hS : ∀ k, ndF x k → ¬ S k) : NdOk w' x :=
  ⟨h.row.of_block (hf.block _ h.row.lt (hS _ (Or.inl rfl))), h.la.frame hf (fun y hy => hS _ (Or.inr (Or.inl ⟨y, hy, rfl⟩))), h.by_.frame hf (fun y hy => hS _ (Or.inr (Or.inr (Or.inl ⟨y, hy, rfl⟩)))),
    h.be.frame hf (fun y hy => hS _ (Or.inr (Or.inr (Or.inr (Or.inl ⟨y, hy, rfl⟩))))), h.ben, fun y hy => Nat.lt_of_lt_of_le (h.belt y hy) hf.size, h.pg, fun b hb => by
      obtain ⟨cs, hr⟩ := h.blrow b hb
      exact ⟨cs, hr.of_block (hf.block _ hr.lt (hS _ (Or.inr (Or.inr (Or.inr (Or.inr hb))))))⟩, h.blc⟩
theorem NdOk.below {w w' : World} {x : Nd} (h : NdOk w x) (hb : Below w.heap.size w w') : NdOk w' x := h.frame (Frame.of_below_all (S := fun _ => False) hb) (fun _ _ e => e)
theorem NdOk.lt {w : World} {x : Nd} (h : NdOk w x) : ∀ k, ndF x k → k < w.heap.size := fun k hk => by
  rcases hk with rfl | ⟨y, hy, rfl⟩ | ⟨y, hy, rfl⟩ | ⟨y, hy, rfl⟩ | hb
  · exact h.row.lt
  · exact h.la.lt y hy
  · exact h.by_.lt y hy
  · exact h.belt y hy
  · obtain ⟨cs, hr⟩ := h.blrow k hb
    exact hr.lt

/-- What lies at a digest in the map: the list of pages. -/
structure MEn where
  d : List UInt8
  s : SlR
  ns : List Nd
/-- Blocks that a page that is made may write. -/
def KMut (sb : Nat) (mp : Option Nat) (es : List MEn) (k : Nat) : Prop := k = sb ∨ mp = some k ∨ ∃ e ∈ es, e.s.val.ownBlock = some k
/-- The map as it lies. -/
def MapAt (w : World) (mp : Option Nat) (es : List MEn) : Prop :=
  match mp with
  | none => es = []
  | some m => ∃ (arr : Array MapEntry) (clock : Nat), w.heap[m]? = some (.map arr clock) ∧ arr.toList.map (fun e => (e.key, e.val)) = es.map (fun e => (dV e.d, e.s.val)) ∧ (arr.toList.map (·.born)).Nodup ∧ (∀ e ∈ arr.toList, e.born < clock)
structure KnownAt (w : World) (sb : Nat) (mp : Option Nat) (es : List MEn) (N : Nat) : Prop where
  map : MapAt w mp es
  d8 : ∀ e ∈ es, e.d.length = 8
  own : ∀ e ∈ es, w.ownsRow 0 138 1 e.s.val e.ns.length (e.ns.map (fun x => ptrV x.b))
  nodes : ∀ e ∈ es, ∀ x ∈ e.ns, NdOk w x
  apart : ∀ (i j : Nat) (e f : MEn), i ≠ j → es[i]? = some e → es[j]? = some f → ∀ k, e.s.val.ownBlock = some k → f.s.val.ownBlock ≠ some k
  foot : ∀ e ∈ es, ∀ x ∈ e.ns, ∀ k, ndF x k → ¬ KMut sb mp es k
  msb : ∀ e ∈ es, ∀ k, e.s.val.ownBlock = some k → k ≠ sb ∧ mp ≠ some k
  cnt : ∀ e ∈ es, e.ns.length ≤ N
  kd : (es.map (·.d)).Nodup
end Go.Proofs.YtekegfbjbainhaaGreat

/- The program's pages that are known: comparing, cloning, looking up. -/
namespace Go.Proofs.YtekegfbjbainhaaGreat
set_option linter.unusedVariables false
set_option linter.unusedSimpArgs false
open Go.RowKit

set_option maxRecDepth 100000 in
theorem bytesEqual_any (s t : SlR) (l m : List UInt8) (w : World) (h : BS w s l) (k : BS w t m) :
    Calls Tryz.prog 151 #[s.val, t.val] w fun e w' => e = .returned (.bool (l == m)) ∧ w' = w := by
  have h1 := run_string_SlB (P := Tryz.prog) w 38 9 5 s.a s.n s.cap l Tryz.underlying38 Tryz.underlying5 Tryz.underlying9 h.n h.sl h.nil
  have h2 := run_string_SlB (P := Tryz.prog) w 38 9 5 t.a t.n t.cap m Tryz.underlying38 Tryz.underlying5 Tryz.underlying9 k.n k.sl k.nil
  clear h k
  unfold SlR.val
  go_enter Tryz.func151, Tryz.ntmps151
  go_wp2
  go_ret
  exact ⟨by simp, rfl⟩

/-- Pointers in memory, as a slice. -/
theorem SlV.ptr {w : World} {a : Option Addr} {l : List Nat} (h : SlV w a (l.map ptrV)) (i : Nat) (hi : i < l.length) : ∃ b o, a = some ⟨b, o, none⟩ ∧ b < w.heap.size ∧ w.cell? ⟨b, o + i, none⟩ = some (.pointer (some ⟨l[i], 0, none⟩)) := by
  obtain ⟨b, o, ha, hb, hc⟩ := h i (by simpa using hi)
  exact ⟨b, o, ha, hb, by rw [hc]; simp [ptrV]⟩

theorem run_neq_ptr_other {P : Program} (w : World) {tp te : TypeId} {j : TypeInfo} {a b : Addr} {ca cb : Array Value} {ta tb : TypeId} (hp : P.underlying tp = some (.pointer te)) (hte : P.info? te = some j) (hsz : j.size ≠ 0)
    (hne : a ≠ b) (ha : w.heap[a.block]? = some (.cells ca ta (0, 0))) (hb : w.heap[b.block]? = some (.cells cb tb (0, 0))) :
    (binOp .neq tp (.pointer (some a)) (.pointer (some b))).run P w = .ok (.bool true) w := by
  have h : ∀ d : Nat, (Op.equalIn (d + 1) tp (.pointer (some a)) (.pointer (some b))).run P w = .ok false w := fun d => by
    simp [Op.equalIn, run_underlying hp, sizeOf, typeInfo, hte, hsz, run_sameAddr_other w hne ha hb]
  simp only [binOp]
  simp [Op.equal, Op.maxDepth, h 9999]
theorem Tryz.infoNode : ∃ j, Tryz.prog.info? 142 = some j ∧ j.size ≠ 0 := by
  have h : (Tryz.prog.info? 142).map (·.size) = some 11 := by kernel_rfl
  cases hj : Tryz.prog.info? 142 with
  | none => simp [hj] at h
  | some j => simp [hj] at h; exact ⟨j, rfl, by omega⟩

set_option maxRecDepth 100000 in
set_option maxHeartbeats 1000000 in
theorem nodesEqual_any (s t : SlR) (l m : List Nat) (w : World) (hs : SlV w s.a (l.map ptrV)) (hn : s.n = l.length) (ht : SlV w t.a (m.map ptrV)) (hm : t.n = m.length) (hl : l.length ≤ 1000) (hml : m.length ≤ 1000) (hrow : ∀ b ∈ l ++ m, ∃ t cs, RowV w b t cs) :
    Calls Tryz.prog 152 #[s.val, t.val] w fun e w' => e = .returned (.bool (l == m)) ∧ ∃ n, w' = w.drewN n := by
  obtain ⟨sa, sn, sc⟩ := s
  obtain ⟨ta, tn, tc⟩ := t
  simp only at hs hn ht hm
  subst hn hm
  unfold SlR.val
  simp only
  by_cases hlen : l.length = m.length
  · have hI : ((l.length : Int) != (m.length : Int)) = false := by simp [hlen]
    have HC : Hid (∀ (q : Nat) k (h1 : k < l.length) (h2 : k < m.length), ∃ b o b2 o2, sa = some ⟨b, o, none⟩ ∧ ta = some ⟨b2, o2, none⟩ ∧ w.cell? ⟨b, o + k, none⟩ = some (.pointer (some ⟨l[k], 0, none⟩)) ∧ w.cell? ⟨b2, o2 + k, none⟩ = some (.pointer (some ⟨m[k], 0, none⟩))) := fun q k h1 h2 => by
      obtain ⟨b, o, e1, _, c1⟩ := SlV.ptr hs k h1
      obtain ⟨b2, o2, e2, _, c2⟩ := SlV.ptr ht k h2
      exact ⟨b, o, b2, o2, e1, e2, c1, c2⟩
    obtain ⟨jN, hjN, hjS⟩ := Tryz.infoNode
    have HSAME : Hid (∀ (W : World) (p : Nat), (binOp .neq 138 (.pointer (some ⟨p, 0, none⟩)) (.pointer (some ⟨p, 0, none⟩))).run Tryz.prog W = .ok (.bool false) W) := fun W p => Lib.run_neq_ptr_same W _ Tryz.underlying138 hjN
    have HOTH : Hid (∀ (q n p p2 : Nat), p ∈ l ++ m → p2 ∈ l ++ m → p ≠ p2 → (binOp .neq 138 (.pointer (some ⟨p, 0, none⟩)) (.pointer (some ⟨p2, 0, none⟩))).run Tryz.prog ((w.drewN q).drewN n) = .ok (.bool true) ((w.drewN q).drewN n)) := fun q n p p2 h1 h2 hne => by
      obtain ⟨t1, c1, r1⟩ := hrow p h1
      obtain ⟨t2, c2, r2⟩ := hrow p2 h2
      exact run_neq_ptr_other _ Tryz.underlying138 hjN hjS (fun e => hne (by cases e; rfl)) r1 r2
    have HLN : Hid (l.length = m.length) := hlen
    have HLI : Hid ((l.length : Int) = m.length) := by unfold Hid; omega
    obtain ⟨n, hnn⟩ : ∃ n, n = l.length := ⟨_, rfl⟩
    have HNN : Hid (l.length = n) := hnn.symm
    rw [← hlen, ← hnn]
    have hn1 : (n : Int) ≤ 1000 := by omega
    clear hs ht hI hlen hnn hml hl hrow hjN hjS
    go_enter Tryz.func152, Tryz.ntmps152
    go_wp2
    go_loopw [5, 13] (fun _ ix wr => ∃ k q : Nat, k ≤ n ∧ ix = .int .i64 k ∧ wr = w.drewN q ∧ Hid (l.take k = m.take k)) (fun _ ix _ => n - (intOf ix).toNat)
    case atStart => exact ⟨0, 0, by omega, by simp, rfl, by simp [Hid]⟩
    case round =>
      obtain ⟨k, q, hk, rfl, rfl, HT⟩ := hrel
      by_cases hlt : k < n
      · have hltI : (k : Int) < n := by omega
        have hl1 : k < l.length := by have := HNN.out; omega
        have hm1 : k < m.length := by have := HNN.out; have := HLN.out; omega
        obtain ⟨b, o, b2, o2, rfl, rfl, c1, c2⟩ := HC.out q k hl1 hm1
        by_cases he : l[k] = m[k]
        · have HT2 : Hid (l.take (k + 1) = m.take (k + 1)) := by
            unfold Hid; rw [List.take_succ_eq_append_getElem hl1, List.take_succ_eq_append_getElem hm1, HT.out, he]
          rw [he] at c1
          generalize m[k] = pk at *
          clear he
          have hsm := fun W => HSAME.out W pk
          go_wp2
          go_quiet (fail)
          go_wp2
          refine ⟨⟨k + 1, _, by omega, by go_num, rfl, HT2⟩, by simp [intOf]; omega⟩
        · have HF : Hid ((l == m) = false) := by
            unfold Hid
            cases h : l == m with
            | false => rfl
            | true => exfalso; have e := eq_of_beq h; subst e; exact he rfl
          have hoth := fun n => HOTH.out q n l[k] m[k] (List.mem_append_left _ (List.getElem_mem hl1)) (List.mem_append_right _ (List.getElem_mem hm1)) he
          have hoth2 := fun n => HOTH.out 0 n l[k] m[k] (List.mem_append_left _ (List.getElem_mem hl1)) (List.mem_append_right _ (List.getElem_mem hm1)) he
          have hoth3 : ∀ n, (binOp .neq 138 (.pointer (some ⟨l[k], 0, none⟩)) (.pointer (some ⟨m[k], 0, none⟩))).run Tryz.prog (w.drewN n) = .ok (.bool true) (w.drewN n) := fun n => by have := hoth2 n; simpa using this
          clear hoth2
          generalize l[k] = pl at *
          generalize m[k] = pk at *
          go_wp2
          go_quiet (fail)
          go_wp2
          go_ret
          refine ⟨by rw [HF.out]; rfl, ?_⟩
          first
            | exact ⟨_, rfl⟩
            | exact ⟨q + nq, by simp [World.drewN, Nat.add_assoc]⟩
      · have HE : Hid ((l == m) = true) := by
          have h1 := HT.out
          rw [List.take_of_length_le (by have := HNN.out; omega), List.take_of_length_le (by have := HNN.out; have := HLN.out; omega)] at h1
          unfold Hid; rw [h1]; simp
        have hltI : ¬ (k : Int) < n := by omega
        go_wp2
        go_ret
        exact ⟨by rw [HE.out]; rfl, _, rfl⟩
  · have hI : ((l.length : Int) != (m.length : Int)) = true := by simp; omega
    have HE : Hid ((l == m) = false) := by
      unfold Hid
      cases h : l == m with
      | false => rfl
      | true => exact absurd (by rw [eq_of_beq h]) hlen
    go_enter Tryz.func152, Tryz.ntmps152
    go_wp2
    go_ret
    exact ⟨by rw [HE.out]; rfl, 0, rfl⟩

set_option maxRecDepth 100000 in
set_option maxHeartbeats 1000000 in
theorem nodesClone_any (s : SlR) (l : List Nat) (w : World) (hs : SlV w s.a (l.map ptrV)) (hn : s.n = l.length) (hnil : s.a = none → s.cap = 0) (hl : l.length ≤ 1000) :
    Calls Tryz.prog 154 #[s.val] w fun e w' => ∃ s' : SlR, e = .returned s'.val ∧ SlV w' s'.a (l.map ptrV) ∧ s'.n = l.length ∧ (∀ x, s'.a = some x → w.heap.size ≤ x.block ∧ x.block < w'.heap.size) ∧ Below w.heap.size w w' := by
  obtain ⟨a, n, cap⟩ := s
  simp only at hs hn hnil
  unfold SlR.val
  have he := fun w => run_eql_slice_nil (P := Tryz.prog) w 128 138 a n cap Tryz.underlying128
  cases a with
  | none =>
    obtain rfl : l = [] := by
      cases l with
      | nil => rfl
      | cons y r => obtain ⟨b, o, ha, _⟩ := hs 0 (by simp); cases ha
    obtain rfl : n = 0 := by simpa using hn
    obtain rfl := hnil rfl
    clear hs hn hnil hl
    go_enter Tryz.func154, Tryz.ntmps154
    go_wp2
    go_ret
    exact ⟨⟨none, 0, 0⟩, rfl, SlV.nil _ _, rfl, (fun x hx => by cases hx), Below.refl _ _⟩
  | some x =>
    have hb1 : (w.alloc (.cells #[] 138)).ownsRow w.heap.size 138 1 (.slice (some ⟨w.heap.size, 0, none⟩) 0 0) 0 [] := owns_built w w.heap.size _ 1 0 [] (Nat.le_refl _) rfl (by simp [maxLen])
    have hs1 : SlV (w.alloc (.cells #[] 138)) (some x) (l.map ptrV) := hs.below_all ((Below.refl _ _).alloc (Nat.le_refl _) _)
    have HN : Hid (n = l.length) := hn
    have H1 : Hid (∀ u ∈ l.map ptrV, u.oneCell' = true) := fun u hu => by obtain ⟨y, _, rfl⟩ := List.mem_map.1 hu; rfl
    have HL : Hid ((l.map ptrV).length = n * 1) := by unfold Hid; simp [hn]
    clear hn hs
    go_enter Tryz.func154, Tryz.ntmps154
    go_wp2_with (at_builtin; refine wp_appendV (by rfl) (.tmp 5) (.tmp 6) 128 (by rfl) w.heap.size 138 _ 1 8 Tryz.underlying128 Tryz.infoNodeP rfl (by decide) (.slice (some ⟨w.heap.size, 0, none⟩) 0 0) 0 [] (by rfl) hb1 (some x) n cap (l.map ptrV) (by rfl) HL.out hs1 (fun h => by cases h) H1.out (by have := HN.out; unfold maxLen; omega) (by have := HN.out; omega) (by simp) ?_; intro v3 w3 ho3 hf3 hat3; obtain ⟨a3, c3, hv3, hs3, hn3, hx3, _⟩ := owns_form ho3; subst hv3)
    go_ret
    refine ⟨⟨a3, n, c3⟩, rfl, by simpa using hs3, HN.out, fun y hy => ⟨(hx3 y hy).2.2.1, (hx3 y hy).2.2.2⟩, ?_⟩
    exact ((Below.refl _ _).alloc (Nat.le_refl _) _).trans (hf3.below (by simp) (fun k hk => by simp [Value.ownBlock] at hk; omega))

set_option maxRecDepth 100000 in
set_option maxHeartbeats 1000000 in
theorem lastKey_any (a : Option Addr) (n cap : Nat) (xs : List EnP) (w : World) (hn : n = xs.length) (hl : xs.length ≤ 1000) (hs : SlE w a xs) (h8 : ∀ x ∈ xs, x.d.length = 8) :
    Calls Tryz.prog 153 #[.slice a n cap] w fun e w' => e = .returned ((xs.getLast?.map (fun x => x.k.val)).getD (.slice none 0 0)) ∧ w' = w := by
  cases hx : xs.getLast? with
  | none =>
    have : xs = [] := by simpa using hx
    subst this
    obtain rfl : n = 0 := by simpa using hn
    clear hn hl hs h8
    go_enter Tryz.func153, Tryz.ntmps153
    go_wp2
    go_ret
    exact ⟨rfl, rfl⟩
  | some x =>
    have hne : xs ≠ [] := by intro e; subst e; simp at hx
    have hpos := List.length_pos_iff.2 hne
    have hlast : xs[xs.length - 1]'(by omega) = x := by
      rw [List.getLast?_eq_getElem?, List.getElem?_eq_getElem (by omega)] at hx
      exact Option.some.inj hx
    obtain ⟨b, o, rfl, hb, hr⟩ := SlE.range hs h8 (xs.length - 1) (by omega)
    rw [hlast] at hr
    obtain ⟨m, rfl⟩ : ∃ m, n = m + 1 := ⟨n - 1, by omega⟩
    have c0 : w.cell? ⟨b, o + m * 10, none⟩ = some (.slice x.k.a x.k.n x.k.cap) := by
      have := hr 0 x.k.val rfl
      rw [show xs.length - 1 = m by omega] at this
      exact this
    have hm1 : (m : Int) ≤ 1000 := by omega
    have hm2 : ((m : Int) + 1 == 0) = false := by simp; omega
    have hm3 : (m : Int) + 1 - 1 = m := by omega
    have hm4 : (m : Int) < (m : Int) + 1 := by omega
    clear hn hl hs h8 hx hne hpos hlast hr
    unfold SlR.val
    go_enter Tryz.func153, Tryz.ntmps153
    go_wp2
    go_ret
    exact ⟨rfl, rfl⟩
end Go.Proofs.YtekegfbjbainhaaGreat
