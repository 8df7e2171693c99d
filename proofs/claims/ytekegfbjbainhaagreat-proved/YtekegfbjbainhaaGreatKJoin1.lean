import Derived.WalkKit
import Derived.WalkSpells
import Derived.WalkLawsBesides
import Derived.Laws.BitsAllLaws
import Derived.Handy
import Derived.Lib.LazyBuf
import Derived.Lib.SlBuf
import Derived.Deep.OwnRows
import Derived.Laws.OwnMore
import Derived.Laws.IdiomStrings
import Derived.Test.YtekegfbjbainhaaGreatRows
/- Plain functions and words that the walks of this seat share: the digest as a number, its eight bytes, bytes that lie in memory. -/
namespace Go.Proofs.YtekegfbjbainhaaGreat
set_option linter.unusedVariables false
set_option linter.unusedSimpArgs false
open Go.RowKit

/-- One byte more of a digest's number. -/
def mixB (h : Int) (b : UInt8) : Int := IntKind.u64.wrap (bits BinOp.xor IntKind.u64 h (b.toNat : Int) * 1099511628211)
/-- The number of some bytes, ahead of the last stirring. -/
def rawD (l : List UInt8) : Int := l.foldl mixB 14695981039346656037
/-- The first and the second half of the stirring. -/
def stirA (n : Int) : Int := IntKind.u64.wrap (bits BinOp.xor IntKind.u64 n (n / 4294967296) * 11400714819323198485)
def stirB (n : Int) : Int := bits BinOp.xor IntKind.u64 n (n / 536870912)
/-- The number of a digest. -/
def numD (l : List UInt8) : Int := stirB (stirA (rawD l))
/-- A byte as a value. -/
def u8c (b : UInt8) : Value := .int .u8 (b.toNat : Int)
/-- A number's byte above the first d. -/
def byteN (n d : Int) : UInt8 := UInt8.ofNat (n / d % 256).toNat
/-- A number's eight bytes, the highest one first. -/
def bytesN (n : Int) : List UInt8 := [byteN n 72057594037927936, byteN n 281474976710656, byteN n 1099511627776, byteN n 4294967296, byteN n 16777216, byteN n 65536, byteN n 256, byteN n 1]
/-- THE digest of some bytes, as bytes; as a value. -/
def digB (l : List UInt8) : List UInt8 := bytesN (numD l)
def digV (l : List UInt8) : Value := .agg ((digB l).map u8c).toArray

theorem byteN_c (n d : Int) : u8c (byteN n d) = .int .u8 (n / d % 256) := by
  unfold u8c byteN
  have h : (n / d % 256).toNat < 256 := by omega
  rw [UInt8.toNat_ofNat_of_lt' h]
  congr 1
  omega
theorem digB_length (l : List UInt8) : (digB l).length = 8 := rfl
theorem cells_bytesN (n : Int) (h0 : 0 ≤ n) (h1 : n < 18446744073709551616) : ((bytesN n).map u8c).toArray =
    #[Value.int .u8 (n / 72057594037927936), .int .u8 (n / 281474976710656 % 256), .int .u8 (n / 1099511627776 % 256), .int .u8 (n / 4294967296 % 256), .int .u8 (n / 16777216 % 256), .int .u8 (n / 65536 % 256), .int .u8 (n / 256 % 256), .int .u8 (n % 256)] := by
  have e : n / 72057594037927936 % 256 = n / 72057594037927936 := by omega
  have e1 : n / 1 = n := by omega
  simp only [bytesN, List.map_cons, List.map_nil, byteN_c, e, e1]

theorem digV_form (l : List UInt8) : ∃ x0 x1 x2 x3 x4 x5 x6 x7 : Int, digV l = .agg #[.int .u8 x0, .int .u8 x1, .int .u8 x2, .int .u8 x3, .int .u8 x4, .int .u8 x5, .int .u8 x6, .int .u8 x7] :=
  ⟨_, _, _, _, _, _, _, _, rfl⟩

theorem wrap_u64_nonneg (x : Int) : 0 ≤ IntKind.u64.wrap x := by
  simp only [IntKind.wrap_u64]; omega
theorem wrap_u64_lt (x : Int) : IntKind.u64.wrap x < 18446744073709551616 := by
  simp only [IntKind.wrap_u64]; omega
theorem rawD_snoc (l : List UInt8) (b : UInt8) : rawD (l ++ [b]) = mixB (rawD l) b := by simp [rawD]
theorem rawD_bd (l : List UInt8) : 0 ≤ rawD l ∧ rawD l < 18446744073709551616 := by
  rcases List.eq_nil_or_concat l with rfl | ⟨l', b, rfl⟩
  · simp [rawD]
  · rw [List.concat_eq_append, rawD_snoc]
    exact ⟨wrap_u64_nonneg _, wrap_u64_lt _⟩
theorem stirA_bd (n : Int) : 0 ≤ stirA n ∧ stirA n < 18446744073709551616 := ⟨wrap_u64_nonneg _, wrap_u64_lt _⟩

theorem stirB_bd (n : Int) (h0 : 0 ≤ n) (h1 : n < 18446744073709551616) : 0 ≤ stirB n ∧ stirB n < 18446744073709551616 := by
  unfold stirB
  rw [u64_xor _ _ h0 h1 (by omega) (by omega)]
  have h := Nat.xor_lt_two_pow (x := n.toNat) (y := (n / 536870912).toNat) (n := 64) (by omega) (by omega)
  have e : (2 : Nat) ^ 64 = 18446744073709551616 := by decide
  rw [e] at h
  exact ⟨by omega, by omega⟩
theorem numD_bd (l : List UInt8) : 0 ≤ numD l ∧ numD l < 18446744073709551616 := stirB_bd _ (stirA_bd _).1 (stirA_bd _).2

/-- Bytes lie in block b from o on. -/
def BAt (w : World) (b o : Nat) (l : List UInt8) : Prop := ∀ i (h : i < l.length), w.cell? ⟨b, o + i, none⟩ = some (.int .u8 (l[i].toNat : Int))

/-- The bytes of a slice whose array begins at a (nil, or empty, or not). -/
def SlB (w : World) (a : Option Addr) (l : List UInt8) : Prop := ∀ i (h : i < l.length), ∃ b o, a = some ⟨b, o, none⟩ ∧ b < w.heap.size ∧ w.cell? ⟨b, o + i, none⟩ = some (.int .u8 (l[i].toNat : Int))

theorem SlB.nil (w : World) (a : Option Addr) : SlB w a [] := fun i h => absurd h (Nat.not_lt_zero _)
theorem SlB.mk {w : World} {b o : Nat} {l : List UInt8} (hb : b < w.heap.size) (h : BAt w b o l) : SlB w (some ⟨b, o, none⟩) l := fun i hi => ⟨b, o, rfl, hb, h i hi⟩
theorem BAt.below {w w' : World} {b o B : Nat} {l : List UInt8} (h : BAt w b o l) (hb : b < B) (hw : Below B w w') : BAt w' b o l := fun i hi => by
  rw [hw.cell (p := ⟨b, o + i, none⟩) hb]; exact h i hi
theorem SlB.below {w w' : World} {a : Option Addr} {B : Nat} {l : List UInt8} (h : SlB w a l) (hw : Below B w w') (hB : w.heap.size ≤ B) : SlB w' a l := fun i hi => by
  obtain ⟨b, o, ha, hb, hc⟩ := h i hi
  exact ⟨b, o, ha, Nat.lt_of_lt_of_le hb hw.size, by rw [hw.cell (p := ⟨b, o + i, none⟩) (Nat.lt_of_lt_of_le hb hB)]; exact hc⟩

/-- But for the blocks of S (and new ones) the world is as it was. -/
structure Frame (S : Nat → Prop) (w w' : World) : Prop where
  os : w'.os = w.os
  tape : w'.tape = w.tape
  output : w'.output = w.output
  size : w.heap.size ≤ w'.heap.size
  block : ∀ k, k < w.heap.size → ¬ S k → w'.heap[k]? = w.heap[k]?

theorem Frame.refl (S : Nat → Prop) (w : World) : Frame S w w := ⟨rfl, rfl, rfl, Nat.le_refl _, fun _ _ _ => rfl⟩
theorem Frame.trans {S : Nat → Prop} {a b c : World} (h : Frame S a b) (k : Frame S b c) : Frame S a c :=
  ⟨k.os.trans h.os, k.tape.trans h.tape, k.output.trans h.output, Nat.le_trans h.size k.size, fun i hi hs => (k.block i (Nat.lt_of_lt_of_le hi h.size) hs).trans (h.block i hi hs)⟩
theorem Frame.mono {S T : Nat → Prop} {w w' : World} (h : Frame S w w') (hs : ∀ k, k < w.heap.size → S k → T k) : Frame T w w' :=
  ⟨h.os, h.tape, h.output, h.size, fun k hk hn => h.block k hk (fun x => hn (hs k hk x))⟩
theorem Frame.of_below {B : Nat} {w w' : World} (h : Below B w w') : Frame (fun k => B ≤ k) w w' :=
  ⟨h.os, h.tape, h.output, h.size, fun k _ hn => h.block k (by omega)⟩
theorem Frame.of_below_all {S : Nat → Prop} {w w' : World} (h : Below w.heap.size w w') : Frame S w w' :=
  ⟨h.os, h.tape, h.output, h.size, fun k hk _ => h.block k hk⟩
theorem Frame.setCell {S : Nat → Prop} {w w' : World} (h : Frame S w w') {p : Addr} (hp : S p.block) (u : Value) : Frame S w (w'.setCell p u) :=
  h.trans ⟨rfl, rfl, rfl, by simp [World.setCell], fun k _ hn => Below.heap_setCell _ _ _ _ (fun e => hn (e ▸ hp))⟩
theorem Frame.alloc {S : Nat → Prop} {w w' : World} (h : Frame S w w') (o : Obj) : Frame S w (w'.alloc o) :=
  h.trans ⟨rfl, rfl, rfl, by simp, fun k hk _ => Below.heap_alloc _ _ _ hk⟩
theorem Frame.drew {S : Nat → Prop} {w w' : World} (h : Frame S w w') : Frame S w w'.drew := ⟨h.os, h.tape, h.output, h.size, h.block⟩
theorem Frame.below {S : Nat → Prop} {B : Nat} {w w' : World} (h : Frame S w w') (hB : B ≤ w.heap.size) (hs : ∀ k, S k → B ≤ k) : Below B w w' :=
  ⟨h.os, h.tape, h.output, h.size, fun k hk => h.block k (by omega) (fun x => by have := hs k x; omega)⟩

theorem take_snocL (l : List UInt8) (k : Nat) (h : k < l.length) : l.take (k + 1) = l.take k ++ [l[k]] := by
  rw [List.take_succ_eq_append_getElem h]

theorem list8 {α : Type} (l : List α) (h : l.length = 8) : ∃ z0 z1 z2 z3 z4 z5 z6 z7, l = [z0, z1, z2, z3, z4, z5, z6, z7] := by
  match l, h with
  | [z0, z1, z2, z3, z4, z5, z6, z7], _ => exact ⟨z0, z1, z2, z3, z4, z5, z6, z7, rfl⟩

/-- A byte of a list, as a value. -/
def u8at (l : List UInt8) (i : Nat) : Value := .int .u8 ((l.getD i 0).toNat : Int)
/-- One step of a script, as it was read. -/
structure OpR where
  kind : Int
  a : Int
  b : Int
  c : Int
  s : ByteArray
  t : ByteArray
  u : ByteArray
  d : List UInt8
  e : List UInt8
  path : Value
def OpR.cells (o : OpR) : List Value := [.int .i64 o.kind, .int .i64 o.a, .int .i64 o.b, .int .i64 o.c, .string o.s, .string o.t, .string o.u,
  u8at o.d 0, u8at o.d 1, u8at o.d 2, u8at o.d 3, u8at o.d 4, u8at o.d 5, u8at o.d 6, u8at o.d 7,
  u8at o.e 0, u8at o.e 1, u8at o.e 2, u8at o.e 3, u8at o.e 4, u8at o.e 5, u8at o.e 6, u8at o.e 7, o.path]

end Go.Proofs.YtekegfbjbainhaaGreat

/- Rows of bytes that lie whole in a block: read, stored into, made, copied to. -/
namespace Go.Proofs.YtekegfbjbainhaaGreat
set_option linter.unusedVariables false
set_option linter.unusedSimpArgs false
open Go.RowKit

/-- Block b is a row of just these cells, of this type, none frozen. -/
def RowV (w : World) (b : Nat) (t : TypeId) (l : List Value) : Prop := w.heap[b]? = some (.cells l.toArray t (0, 0))
/-- .. of bytes. -/
def RowB (w : World) (b : Nat) (l : List UInt8) : Prop := RowV w b 5 (l.map u8c)

theorem RowV.cell {w : World} {b t : Nat} {l : List Value} (h : RowV w b t l) (i : Nat) (hi : i < l.length) : w.cell? ⟨b, i, none⟩ = some l[i] := by
  unfold RowV at h; simp [World.cell?, h, hi]
theorem RowV.cell? {w : World} {b t : Nat} {l : List Value} (h : RowV w b t l) (i : Nat) : w.cell? ⟨b, i, none⟩ = l[i]? := by
  unfold RowV at h; simp [World.cell?, h]
theorem RowV.frozen {w : World} {b t : Nat} {l : List Value} (h : RowV w b t l) (i : Nat) : w.frozen? ⟨b, i, none⟩ = false := by
  unfold RowV at h; simp [World.frozen?, h]
theorem RowV.lt {w : World} {b t : Nat} {l : List Value} (h : RowV w b t l) : b < w.heap.size := by
  unfold RowV at h; exact (Array.getElem?_eq_some_iff.1 h).1
theorem RowV.of_block {w w' : World} {b t : Nat} {l : List Value} (h : RowV w b t l) (e : w'.heap[b]? = w.heap[b]?) : RowV w' b t l := by
  unfold RowV at h ⊢; rw [e, h]
theorem RowV.below {w w' : World} {b t B : Nat} {l : List Value} (h : RowV w b t l) (hb : b < B) (hw : Below B w w') : RowV w' b t l := h.of_block (hw.block b hb)
theorem RowV.alloc {w : World} {b t : Nat} {l : List Value} (h : RowV w b t l) (o : Obj) : RowV (w.alloc o) b t l := h.of_block (Below.heap_alloc w o b h.lt)
theorem RowV.set {w : World} {b t : Nat} {l : List Value} (h : RowV w b t l) (i : Nat) (v : Value) : RowV (w.setCell ⟨b, i, none⟩ v) b t (l.set i v) := by
  unfold RowV at h ⊢
  simp [World.setCell, Array.getElem?_modify, h]
theorem RowV.other {w : World} {b t : Nat} {l : List Value} (h : RowV w b t l) {a : Addr} (ha : b ≠ a.block) (v : Value) : RowV (w.setCell a v) b t l := h.of_block (Below.heap_setCell w a v b ha)
theorem RowV.new (w : World) (t : Nat) (l : List Value) : RowV (w.alloc (.cells l.toArray t)) w.heap.size t l := by
  unfold RowV; show (w.heap.push _)[w.heap.size]? = _; simp

theorem RowB.cell {w : World} {b : Nat} {l : List UInt8} (h : RowB w b l) (i : Nat) (hi : i < l.length) : w.cell? ⟨b, i, none⟩ = some (.int .u8 (l[i].toNat : Int)) := by
  have := RowV.cell h i (by simpa using hi)
  rw [this]; simp [u8c]
theorem RowB.frozen {w : World} {b : Nat} {l : List UInt8} (h : RowB w b l) (i : Nat) : w.frozen? ⟨b, i, none⟩ = false := RowV.frozen h i
theorem RowB.lt {w : World} {b : Nat} {l : List UInt8} (h : RowB w b l) : b < w.heap.size := RowV.lt h
theorem RowB.below {w w' : World} {b B : Nat} {l : List UInt8} (h : RowB w b l) (hb : b < B) (hw : Below B w w') : RowB w' b l := RowV.below h hb hw
theorem RowB.set {w : World} {b : Nat} {l : List UInt8} (h : RowB w b l) (i : Nat) (x : UInt8) : RowB (w.setCell ⟨b, i, none⟩ (.int .u8 (x.toNat : Int))) b (l.set i x) := by
  have := RowV.set h i (u8c x)
  unfold RowB
  rw [← List.map_set] at this
  exact this
theorem RowB.at {w : World} {b : Nat} {l : List UInt8} (h : RowB w b l) (o : Nat) (m : List UInt8) (hm : ∀ i (hi : i < m.length), l[o + i]? = some m[i]) : BAt w b o m := fun i hi => by
  have h1 := hm i hi
  obtain ⟨h2, h3⟩ := List.getElem?_eq_some_iff.1 h1
  rw [h.cell _ h2, h3]
theorem RowB.made (w : World) (n : Nat) : RowB (w.alloc (.cells (madeCells #[.int .u8 0] n) 5)) w.heap.size (List.replicate n 0) := by
  have e : madeCells #[Value.int .u8 0] n = ((List.replicate n (0 : UInt8)).map u8c).toArray := by
    apply Array.toList_inj.1
    rw [toList_madeCells_one]
    simp [u8c]
  rw [e]
  exact RowV.new _ _ _
theorem RowB.setCells {b : Nat} : ∀ (m : List UInt8) (o : Nat) (w : World) (l : List UInt8), RowB w b l → o + m.length ≤ l.length →
    RowB (w.setCells b o (m.map fun x => Value.int .u8 (x.toNat : Int))) b (l.take o ++ m ++ l.drop (o + m.length))
  | [], o, w, l, h, _ => by simpa [World.setCells] using h
  | x :: m, o, w, l, h, hl => by
    simp only [List.length_cons] at hl
    simp only [List.map_cons, World.setCells]
    have h2 := RowB.setCells m (o + 1) _ _ (h.set o x) (by simp; omega)
    refine cast (congrArg (RowB _ b) ?_) h2
    rw [List.drop_set_of_lt (by omega)]
    rw [List.take_add_one, List.take_set, List.getElem?_set_self (by omega)]
    rw [List.set_eq_of_length_le (by simp; omega)]
    simp only [List.length_cons, List.append_assoc, Option.toList, List.cons_append, List.nil_append]
    rw [show o + 1 + m.length = o + (m.length + 1) by omega]
theorem addr_add (b o j : Nat) : (Addr.mk b o none).add j = ⟨b, o + j, none⟩ := by
  unfold Addr.add
  by_cases h : j = 0
  · subst h; simp
  · simp [h]
/-- 'string(b)'. -/
theorem run_string_BAt {P : Program} (w : World) (src dst e : TypeId) (b o cap : Nat) (l : List UInt8) (hs : P.underlying src = some (.slice e)) (he : P.underlying e = some (.int .u8)) (hd : P.underlying dst = some .string)
    (hc : BAt w b o l) : (convert src dst (.slice (some ⟨b, o, none⟩) l.length cap)).run P w = .ok (.string ⟨l.toArray⟩) w :=
  run_convert_bytes_back w src dst e ⟨b, o, none⟩ cap l hs he hd (fun j hj => by rw [addr_add]; exact hc j hj)
theorem byteArray_toList (s : ByteArray) : (⟨s.data.toList.toArray⟩ : ByteArray) = s := by simp
theorem bcell {W w1 : World} (hb : Below W.heap.size W w1) : (∀ b o, b < W.heap.size → w1.cell? ⟨b, o, none⟩ = W.cell? ⟨b, o, none⟩) ∧ (∀ b o, b < W.heap.size → w1.frozen? ⟨b, o, none⟩ = W.frozen? ⟨b, o, none⟩) :=
  ⟨fun b o h => hb.cell (p := ⟨b, o, none⟩) h, fun b o h => hb.frozen (p := ⟨b, o, none⟩) h⟩
/-- The bytes of '[]byte(s)', in a world that only drew since. -/
theorem bytes_of_string (w : World) (s : ByteArray) (cap : Nat) (t : TypeId) (fr : Nat × Nat) : BAt (w.alloc (.cells (bytesRow s cap) t fr)) w.heap.size 0 s.data.toList := fun i hi => by
  rw [Nat.zero_add, World.cell?_alloc_mark, bytesRow_at s cap i (by simpa using hi)]
  simp
theorem below_setCells {B b : Nat} {a : World} (hb : B ≤ b) (vs : List Value) (o : Nat) (w : World) (h : Below B a w) : Below B a (w.setCells b o vs) := Go.below_setCells hb vs o w h
theorem size_setCells (b : Nat) : ∀ (vs : List Value) (o : Nat) (w : World), (w.setCells b o vs).heap.size = w.heap.size
  | [], _, _ => rfl
  | v :: r, o, w => by rw [World.setCells, size_setCells b r]; simp
end Go.Proofs.YtekegfbjbainhaaGreat

/- What the statements lend and take back ('lent', 'back'), walked. -/
namespace Go.Proofs.YtekegfbjbainhaaGreat
set_option linter.unusedVariables false
set_option linter.unusedSimpArgs false
open Go.RowKit

theorem Tryz.infoU8 : (Tryz.prog.info? 5).map (fun i => (i.zero, i.size, i.bytes)) = some (some (.int .u8 0), 1, 1) := by kernel_rfl
theorem Tryz.sizeU8 (w : World) : (Go.sizeOf 5).run Tryz.prog w = .ok 1 w := by kernel_rfl

theorem lent_nil (w : World) :
    Calls Tryz.prog 14 #[.string ⟨#[]⟩, .bool true] w fun e w' => e = .returned (.slice none 0 0) ∧ w' = w := by
  go_enter Tryz.func14, Tryz.ntmps14
  go_wp2
  go_ret
  exact ⟨rfl, rfl⟩

/-- What is lent of a text: its bytes, and eight of 77 behind them. -/
def lentL (s : ByteArray) : List UInt8 := s.data.toList ++ List.replicate 8 77

/-- The row while the spare places are filled. -/
def fillL (s : ByteArray) (j : Nat) : List UInt8 := s.data.toList ++ List.replicate j 77 ++ List.replicate (8 - j) 0
theorem fillL_set (s : ByteArray) (j : Nat) (h : j < 8) : (fillL s j).set (s.size + j) 77 = fillL s (j + 1) := by
  unfold fillL
  have e : 8 - j = (8 - (j + 1)) + 1 := by omega
  rw [e, List.replicate_succ, List.set_append_right _ _ (by simp)]
  simp only [List.length_append, Array.length_toList, ByteArray.size_data, List.length_replicate]
  rw [show s.size + j - (s.size + j) = 0 by omega, List.set_cons_zero, List.replicate_succ' (n := j)]
  simp

set_option maxRecDepth 100000 in
set_option maxHeartbeats 400000 in
theorem lent_any (s : ByteArray) (z : Bool) (w : World) (hs : s.size ≤ 140737488351232) (hz : (s.toList.isEmpty && z) = false) :
    Calls Tryz.prog 14 #[.string s, .bool z] w fun e w' => e = .returned (.slice (some ⟨w.heap.size, 0, none⟩) s.size (s.size + 8)) ∧ RowB w' w.heap.size (lentL s) ∧ Below w.heap.size w w' ∧ w'.heap.size = w.heap.size + 1 := by
  have hmk := fun w => run_make_row' (P := Tryz.prog) 38 5 (.int .u8 0) 1 Tryz.underlying38 Tryz.infoU8 rfl .i64 .i64 (s.size + 8) (by omega) (by omega) w
  rw [show ((s.size + 8 : Nat) : Int) = (s.size : Int) + 8 by omega] at hmk
  obtain ⟨W1, hcp, hrow, hbel, hsz⟩ : ∃ W1 : World, (Builtin.copy_ #[38, 9] 3 #[Value.slice (some ⟨w.heap.size, 0, none⟩) (s.size + 8) (s.size + 8), Value.string s]).run Tryz.prog
      (w.alloc (Obj.cells (madeCells #[Value.int IntKind.u8 0] (s.size + 8)) 5)) = .ok (goInt s.size) W1 ∧ RowB W1 w.heap.size (fillL s 0) ∧ Below w.heap.size w W1 ∧ W1.heap.size = w.heap.size + 1 := by
    have hr := RowB.made w (s.size + 8)
    refine ⟨_, run_copy_string _ _ _ _ 5 w.heap.size 0 _ _ s Tryz.underlying38 Tryz.sizeU8 (by omega) (fun j hj => ?_) (fun j hj => by rw [Nat.zero_add]; exact hr.frozen j), ?_, ?_, ?_⟩
    · rw [Nat.zero_add, hr.cell j (by simp; omega)]; rfl
    · have h2 := hr.setCells s.data.toList 0 _ _ (by simp)
      refine cast (congrArg (RowB _ _) ?_) h2
      simp [fillL]
    · exact below_setCells (Nat.le_refl _) _ _ _ ((Below.refl _ _).alloc (Nat.le_refl _) _)
    · rw [size_setCells]; simp
  have hcases : (s.toList.isEmpty = true ∧ z = false) ∨ s.toList.isEmpty = false := by
    cases h : s.toList.isEmpty <;> simp_all
  clear hz
  rcases hcases with ⟨hE, rfl⟩ | hE
  all_goals
    go_enter Tryz.func14, Tryz.ntmps14
    go_wp2
    go_loopw [6] (fun i wr => ∃ k : Nat, k ≤ 8 ∧ i = .int .i64 ((s.size : Int) + k) ∧ RowB wr w.heap.size (fillL s k) ∧ Below w.heap.size w wr ∧ wr.heap.size = w.heap.size + 1) (fun i _ => s.size + 8 - (intOf i).toNat)
    case atStart => exact ⟨0, by omega, by simp, hrow, hbel, hsz⟩
    case round =>
      obtain ⟨k, hk, rfl, hrow, hbel2, hsz2⟩ := hrel
      by_cases hlt : k < 8
      · have hcell := hrow.cell (s.size + k) (by simp [fillL]; omega)
        have hfz := hrow.frozen (s.size + k)
        go_wp2
        refine ⟨⟨k + 1, by omega, by go_num, ?_, hbel2.setCell (Nat.le_refl _) _, by simpa using hsz2⟩, by simp [intOf]; omega⟩
        rw [← fillL_set s k hlt]
        exact hrow.set (s.size + k) 77
      · have e8 : Hid (fillL s k = lentL s) := by
          unfold Hid fillL lentL
          rw [show k = 8 by omega]; simp
        go_wp2
        go_returns
        exact ⟨rfl, e8.out ▸ hrow, hbel2, hsz2⟩

theorem back_nil (w : World) :
    Calls Tryz.prog 16 #[.slice none 0 0, .string ⟨#[]⟩] w fun e w' => e = .returned (.bool true) ∧ w' = w := by
  have hn := fun w => run_eql_slice_nil (P := Tryz.prog) w 38 5 none 0 0 Tryz.underlying38
  go_enter Tryz.func16, Tryz.ntmps16
  go_wp2
  go_ret
  exact ⟨rfl, rfl⟩

/-- The row while it is written over. -/
def overL (s : ByteArray) (j : Nat) : List UInt8 := List.replicate j 78 ++ (lentL s).drop j
theorem lentL_length (s : ByteArray) : (lentL s).length = s.size + 8 := by simp [lentL]
theorem overL_length (s : ByteArray) (j : Nat) (h : j ≤ s.size + 8) : (overL s j).length = s.size + 8 := by simp [overL, lentL_length]; omega
theorem overL_set (s : ByteArray) (j : Nat) (h : j < s.size + 8) : (overL s j).set j 78 = overL s (j + 1) := by
  unfold overL
  rw [List.set_append_right _ _ (by simp), List.length_replicate, show j - j = 0 by omega, List.replicate_succ' (n := j), List.drop_eq_getElem_cons (by rw [lentL_length]; exact h), List.set_cons_zero]
  simp
theorem overL_at (s : ByteArray) (j : Nat) (h : j < s.size + 8) (h1 : ¬ j < s.size) : (overL s j)[j]'(by rw [overL_length _ _ (by omega)]; exact h) = 77 := by
  simp only [overL, lentL]
  rw [List.getElem_append_right (by simp)]
  simp only [List.length_replicate, List.getElem_drop]
  rw [List.getElem_append_right (by simp; omega)]
  exact List.getElem_replicate _

set_option maxRecDepth 100000 in
set_option maxHeartbeats 400000 in
theorem back_any (s : ByteArray) (b : Nat) (w : World) (hs : s.size ≤ 140737488351232) (hrow : RowB w b (lentL s)) :
    Calls Tryz.prog 16 #[.slice (some ⟨b, 0, none⟩) s.size (s.size + 8), .string s] w fun e w' => e = .returned (.bool true) ∧ Frame (fun k => k = b) w w' ∧ w'.heap.size = w.heap.size := by
  have hn := fun w => run_eql_slice_nil (P := Tryz.prog) w 38 5 (some ⟨b, 0, none⟩) s.size (s.size + 8) Tryz.underlying38
  have hcv := run_string_BAt (P := Tryz.prog) w 38 9 5 b 0 (s.size + 8) s.data.toList Tryz.underlying38 Tryz.underlying5 Tryz.underlying9
    (hrow.at 0 _ (fun i hi => by rw [Nat.zero_add, lentL, List.getElem?_append_left hi]; exact List.getElem?_eq_getElem hi))
  rw [byteArray_toList, Array.length_toList, ByteArray.size_data] at hcv
  go_enter Tryz.func16, Tryz.ntmps16
  go_wp2
  go_loopw [5, 7] (fun ok i wr => ∃ k : Nat, k ≤ s.size + 8 ∧ i = .int .i64 (k : Int) ∧ ok = .bool true ∧ RowB wr b (overL s k) ∧ Frame (fun k => k = b) w wr ∧ wr.heap.size = w.heap.size) (fun _ i _ => s.size + 8 - (intOf i).toNat)
  case atStart => exact ⟨0, by omega, by simp, by simp, by simpa [overL] using hrow, Frame.refl _ _, rfl⟩
  case round =>
    obtain ⟨k, hk, rfl, rfl, hrow2, hf, hsz⟩ := hrel
    by_cases hlt : k < s.size + 8
    · have hcell := hrow2.cell k (by rw [overL_length _ _ hk]; exact hlt)
      have hfz := hrow2.frozen k
      have HS : Hid (RowB (wr.setCell ⟨b, k, none⟩ (.int .u8 78)) b (overL s (k + 1))) := by
        rw [← overL_set s k hlt]; exact hrow2.set k 78
      have HF : Hid (Frame (fun k => k = b) w (wr.setCell ⟨b, k, none⟩ (.int .u8 78))) := hf.setCell rfl _
      by_cases h1 : k < s.size
      · go_wp2
        exact ⟨⟨k + 1, by omega, by go_num, by simp, HS.out, HF.out, by simpa using hsz⟩, by simp [intOf]; omega⟩
      · rw [overL_at s k hlt h1] at hcell
        go_wp2
        exact ⟨⟨k + 1, by omega, by go_num, by simp, HS.out, HF.out, by simpa using hsz⟩, by simp [intOf]; omega⟩
    · go_wp2
      go_returns
      exact ⟨rfl, hf, hsz⟩
/-- What 'lent' gave of a text, as it lies: nil, or a row of its own in block b. -/
def LentAt (w : World) (b : Nat) (s : ByteArray) (a : Option Addr) (cap : Nat) : Prop :=
  (a = none ∧ cap = 0 ∧ s = ⟨#[]⟩) ∨ (a = some ⟨b, 0, none⟩ ∧ cap = s.size + 8 ∧ RowB w b (lentL s))
theorem LentAt.sl {w : World} {b : Nat} {s : ByteArray} {a : Option Addr} {cap : Nat} (h : LentAt w b s a cap) : SlB w a s.data.toList := by
  rcases h with ⟨rfl, rfl, rfl⟩ | ⟨rfl, rfl, hr⟩
  · exact SlB.nil _ _
  · exact SlB.mk hr.lt (hr.at 0 _ (fun i hi => by rw [Nat.zero_add, lentL, List.getElem?_append_left hi]; exact List.getElem?_eq_getElem hi))
theorem LentAt.below {w w' : World} {b B : Nat} {s : ByteArray} {a : Option Addr} {cap : Nat} (h : LentAt w b s a cap) (hw : Below B w w') (hB : w.heap.size ≤ B) : LentAt w' b s a cap := by
  rcases h with h | ⟨ha, hc, hr⟩
  · exact Or.inl h
  · exact Or.inr ⟨ha, hc, hr.below (Nat.lt_of_lt_of_le hr.lt hB) hw⟩
theorem LentAt.lt {w : World} {b k : Nat} {s : ByteArray} {a : Option Addr} {cap : Nat} (h : LentAt w b s a cap) (ha : a = some ⟨k, 0, none⟩) : k = b ∧ b < w.heap.size := by
  rcases h with ⟨h1, _, _⟩ | ⟨h1, _, hr⟩
  · rw [h1] at ha; cases ha
  · rw [h1] at ha; cases ha; exact ⟨rfl, hr.lt⟩
theorem LentAt.frame {w w' : World} {b : Nat} {S : Nat → Prop} {s : ByteArray} {a : Option Addr} {cap : Nat} (h : LentAt w b s a cap) (hw : Frame S w w') (hb : ¬ S b) : LentAt w' b s a cap := by
  rcases h with h | ⟨ha, hc, hr⟩
  · exact Or.inl h
  · exact Or.inr ⟨ha, hc, RowV.of_block hr (hw.block b hr.lt hb)⟩

theorem lent_ok (s : ByteArray) (z : Bool) (w : World) (hs : s.size ≤ 140737488351232) :
    Calls Tryz.prog 14 #[.string s, .bool z] w fun e w' => ∃ a cap, e = .returned (.slice a s.size cap) ∧ LentAt w' w.heap.size s a cap ∧ Below w.heap.size w w' ∧ w'.heap.size ≤ w.heap.size + 1 := by
  by_cases hz : (s.toList.isEmpty && z) = true
  · simp only [Bool.and_eq_true, List.isEmpty_iff] at hz
    obtain ⟨h1, rfl⟩ := hz
    have e : s = ⟨#[]⟩ := by
      have h2 : s.data.toList = [] := by rw [← h1]; exact (Lib.toList_data s).symm
      rw [← byteArray_toList s, h2]
    subst e
    refine (lent_nil w).mono ?_
    rintro e w1 ⟨rfl, rfl⟩
    exact ⟨none, 0, rfl, Or.inl ⟨rfl, rfl, rfl⟩, Below.refl _ _, by omega⟩
  · refine (lent_any s z w hs (by simpa using hz)).mono ?_
    rintro e w1 ⟨rfl, hr, hb, hsz⟩
    exact ⟨_, _, rfl, Or.inr ⟨rfl, rfl, hr⟩, hb, by omega⟩

theorem back_ok (s : ByteArray) (a : Option Addr) (cap b : Nat) (w : World) (hs : s.size ≤ 140737488351232) (h : LentAt w b s a cap) :
    Calls Tryz.prog 16 #[.slice a s.size cap, .string s] w fun e w' => e = .returned (.bool true) ∧ Frame (fun k => a = some ⟨k, 0, none⟩) w w' ∧ w'.heap.size = w.heap.size := by
  rcases h with ⟨rfl, rfl, rfl⟩ | ⟨rfl, rfl, hr⟩
  · refine (back_nil w).mono ?_
    rintro e w1 ⟨rfl, rfl⟩
    exact ⟨rfl, Frame.refl _ _, rfl⟩
  · refine (back_any s b w hs hr).mono ?_
    rintro e w1 ⟨rfl, hf, hz⟩
    exact ⟨rfl, hf.mono (fun k _ hk => by rw [hk]), hz⟩

end Go.Proofs.YtekegfbjbainhaaGreat
