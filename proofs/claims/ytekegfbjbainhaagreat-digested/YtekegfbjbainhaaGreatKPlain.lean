/- Plain functions and words that the walks of this seat share: the digest as a number, its eight bytes, bytes that lie in memory. -/
import Derived.WalkKit
import Derived.WalkSpells
import Derived.WalkLawsBesides
import Derived.Laws.BitsAllLaws
import Derived.Handy
namespace Go.Proofs.YtekegfbjbainhaaGreat
set_option linter.unusedVariables false
set_option linter.unusedSimpArgs false
open Go.RowKit

/-- One byte more of a digest's number. -/
def mixB (h : Int) (b : UInt8) : Int := IntKind.u64.wrap (bits BinOp.xor IntKind.u64 h (b.toNat : Int) * 1099511628211)
/-- The number of some bytes, ahead of the last stirring. -/
def rawD (l : List UInt8) : Int := l.foldl mixB 14695981039346656037
/-- The first and the second half of the stirring. -/
def stirA (n : Int) : Int := IntKind.u64.wrap (bits BinOp.xor IntKind.u64 n (n / 4294967296) * 11400714819323198485)
def stirB (n : Int) : Int := bits BinOp.xor IntKind.u64 n (n / 536870912)
/-- The number of a digest. -/
def numD (l : List UInt8) : Int := stirB (stirA (rawD l))
/-- A byte as a value. -/
def u8c (b : UInt8) : Value := .int .u8 (b.toNat : Int)
/-- A number's byte above the first d. -/
def byteN (n d : Int) : UInt8 := UInt8.ofNat (n / d % 256).toNat
/-- A number's eight bytes, the highest one first. -/
def bytesN (n : Int) : List UInt8 := [byteN n 72057594037927936, byteN n 281474976710656, byteN n 1099511627776, byteN n 4294967296, byteN n 16777216, byteN n 65536, byteN n 256, byteN n 1]
/-- THE digest of some bytes, as bytes; as a value. -/
def digB (l : List UInt8) : List UInt8 := bytesN (numD l)
def digV (l : List UInt8) : Value := .agg ((digB l).map u8c).toArray

theorem byteN_c (n d : Int) : u8c (byteN n d) = .int .u8 (n / d % 256) := by
  unfold u8c byteN
  have h : (n / d % 256).toNat < 256 := by omega
  rw [UInt8.toNat_ofNat_of_lt' h]
  congr 1
  omega
theorem digB_length (l : List UInt8) : (digB l).length = 8 := rfl
theorem cells_bytesN (n : Int) (h0 : 0 ≤ n) (h1 : n < 18446744073709551616) : ((bytesN n).map u8c).toArray =
    #[Value.int .u8 (n / 72057594037927936), .int .u8 (n / 281474976710656 % 256), .int .u8 (n / 1099511627776 % 256), .int .u8 (n / 4294967296 % 256), .int .u8 (n / 16777216 % 256), .int .u8 (n / 65536 % 256), .int .u8 (n / 256 % 256), .int .u8 (n % 256)] := by
  have e : n / 72057594037927936 % 256 = n / 72057594037927936 := by omega
  have e1 : n / 1 = n := by omega
  simp only [bytesN, List.map_cons, List.map_nil, byteN_c, e, e1]

theorem digV_form (l : List UInt8) : ∃ x0 x1 x2 x3 x4 x5 x6 x7 : Int, digV l = .agg #[.int .u8 x0, .int .u8 x1, .int .u8 x2, .int .u8 x3, .int .u8 x4, .int .u8 x5, .int .u8 x6, .int .u8 x7] :=
  ⟨_, _, _, _, _, _, _, _, rfl⟩

theorem wrap_u64_nonneg (x : Int) : 0 ≤ IntKind.u64.wrap x := by
  simp only [IntKind.wrap_u64]; omega
theorem wrap_u64_lt (x : Int) : IntKind.u64.wrap x < 18446744073709551616 := by
  simp only [IntKind.wrap_u64]; omega
theorem rawD_snoc (l : List UInt8) (b : UInt8) : rawD (l ++ [b]) = mixB (rawD l) b := by simp [rawD]
theorem rawD_bd (l : List UInt8) : 0 ≤ rawD l ∧ rawD l < 18446744073709551616 := by
  rcases List.eq_nil_or_concat l with rfl | ⟨l', b, rfl⟩
  · simp [rawD]
  · rw [List.concat_eq_append, rawD_snoc]
    exact ⟨wrap_u64_nonneg _, wrap_u64_lt _⟩
theorem stirA_bd (n : Int) : 0 ≤ stirA n ∧ stirA n < 18446744073709551616 := ⟨wrap_u64_nonneg _, wrap_u64_lt _⟩

theorem stirB_bd (n : Int) (h0 : 0 ≤ n) (h1 : n < 18446744073709551616) : 0 ≤ stirB n ∧ stirB n < 18446744073709551616 := by
  unfold stirB
  rw [u64_xor _ _ h0 h1 (by omega) (by omega)]
  have h := Nat.xor_lt_two_pow (x := n.toNat) (y := (n / 536870912).toNat) (n := 64) (by omega) (by omega)
  have e : (2 : Nat) ^ 64 = 18446744073709551616 := by decide
  rw [e] at h
  exact ⟨by omega, by omega⟩
theorem numD_bd (l : List UInt8) : 0 ≤ numD l ∧ numD l < 18446744073709551616 := stirB_bd _ (stirA_bd _).1 (stirA_bd _).2

/-- Bytes lie in block b from o on. -/
def BAt (w : World) (b o : Nat) (l : List UInt8) : Prop := ∀ i (h : i < l.length), w.cell? ⟨b, o + i, none⟩ = some (.int .u8 (l[i].toNat : Int))

/-- The bytes of a slice whose array begins at a (nil, or empty, or not). -/
def SlB (w : World) (a : Option Addr) (l : List UInt8) : Prop := ∀ i (h : i < l.length), ∃ b o, a = some ⟨b, o, none⟩ ∧ b < w.heap.size ∧ w.cell? ⟨b, o + i, none⟩ = some (.int .u8 (l[i].toNat : Int))

theorem SlB.nil (w : World) (a : Option Addr) : SlB w a [] := fun i h => absurd h (Nat.not_lt_zero _)
theorem SlB.mk {w : World} {b o : Nat} {l : List UInt8} (hb : b < w.heap.size) (h : BAt w b o l) : SlB w (some ⟨b, o, none⟩) l := fun i hi => ⟨b, o, rfl, hb, h i hi⟩
theorem BAt.below {w w' : World} {b o B : Nat} {l : List UInt8} (h : BAt w b o l) (hb : b < B) (hw : Below B w w') : BAt w' b o l := fun i hi => by
  rw [hw.cell (p := ⟨b, o + i, none⟩) hb]; exact h i hi
theorem SlB.below {w w' : World} {a : Option Addr} {B : Nat} {l : List UInt8} (h : SlB w a l) (hw : Below B w w') (hB : w.heap.size ≤ B) : SlB w' a l := fun i hi => by
  obtain ⟨b, o, ha, hb, hc⟩ := h i hi
  exact ⟨b, o, ha, Nat.lt_of_lt_of_le hb hw.size, by rw [hw.cell (p := ⟨b, o + i, none⟩) (Nat.lt_of_lt_of_le hb hB)]; exact hc⟩

/-- But for the blocks of S (and new ones) the world is as it was. -/
structure Frame (S : Nat → Prop) (w w' : World) : Prop where
  os : w'.os = w.os
  tape : w'.tape = w.tape
  output : w'.output = w.output
  size : w.heap.size ≤ w'.heap.size
  block : ∀ k, k < w.heap.size → ¬ S k → w'.heap[k]? = w.heap[k]?

theorem Frame.refl (S : Nat → Prop) (w : World) : Frame S w w := ⟨rfl, rfl, rfl, Nat.le_refl _, fun _ _ _ => rfl⟩
theorem Frame.trans {S : Nat → Prop} {a b c : World} (h : Frame S a b) (k : Frame S b c) : Frame S a c :=
  ⟨k.os.trans h.os, k.tape.trans h.tape, k.output.trans h.output, Nat.le_trans h.size k.size, fun i hi hs => (k.block i (Nat.lt_of_lt_of_le hi h.size) hs).trans (h.block i hi hs)⟩
theorem Frame.mono {S T : Nat → Prop} {w w' : World} (h : Frame S w w') (hs : ∀ k, k < w.heap.size → S k → T k) : Frame T w w' :=
  ⟨h.os, h.tape, h.output, h.size, fun k hk hn => h.block k hk (fun x => hn (hs k hk x))⟩
theorem Frame.of_below {B : Nat} {w w' : World} (h : Below B w w') : Frame (fun k => B ≤ k) w w' :=
  ⟨h.os, h.tape, h.output, h.size, fun k _ hn => h.block k (by omega)⟩
theorem Frame.of_below_all {S : Nat → Prop} {w w' : World} (h : Below w.heap.size w w') : Frame S w w' :=
  ⟨h.os, h.tape, h.output, h.size, fun k hk _ => h.block k hk⟩
theorem Frame.setCell {S : Nat → Prop} {w w' : World} (h : Frame S w w') {p : Addr} (hp : S p.block) (u : Value) : Frame S w (w'.setCell p u) :=
  h.trans ⟨rfl, rfl, rfl, by simp [World.setCell], fun k _ hn => Below.heap_setCell _ _ _ _ (fun e => hn (e ▸ hp))⟩
theorem Frame.alloc {S : Nat → Prop} {w w' : World} (h : Frame S w w') (o : Obj) : Frame S w (w'.alloc o) :=
  h.trans ⟨rfl, rfl, rfl, by simp, fun k hk _ => Below.heap_alloc _ _ _ hk⟩
theorem Frame.drew {S : Nat → Prop} {w w' : World} (h : Frame S w w') : Frame S w w'.drew := ⟨h.os, h.tape, h.output, h.size, h.block⟩
theorem Frame.below {S : Nat → Prop} {B : Nat} {w w' : World} (h : Frame S w w') (hB : B ≤ w.heap.size) (hs : ∀ k, S k → B ≤ k) : Below B w w' :=
  ⟨h.os, h.tape, h.output, h.size, fun k hk => h.block k (by omega) (fun x => by have := hs k x; omega)⟩

theorem take_snocL (l : List UInt8) (k : Nat) (h : k < l.length) : l.take (k + 1) = l.take k ++ [l[k]] := by
  rw [List.take_succ_eq_append_getElem h]

theorem list8 {α : Type} (l : List α) (h : l.length = 8) : ∃ z0 z1 z2 z3 z4 z5 z6 z7, l = [z0, z1, z2, z3, z4, z5, z6, z7] := by
  match l, h with
  | [z0, z1, z2, z3, z4, z5, z6, z7], _ => exact ⟨z0, z1, z2, z3, z4, z5, z6, z7, rfl⟩

/-- A byte of a list, as a value. -/
def u8at (l : List UInt8) (i : Nat) : Value := .int .u8 ((l.getD i 0).toNat : Int)
/-- One step of a script, as it was read. -/
structure OpR where
  kind : Int
  a : Int
  b : Int
  c : Int
  s : ByteArray
  t : ByteArray
  u : ByteArray
  d : List UInt8
  e : List UInt8
  path : Value
def OpR.cells (o : OpR) : List Value := [.int .i64 o.kind, .int .i64 o.a, .int .i64 o.b, .int .i64 o.c, .string o.s, .string o.t, .string o.u,
  u8at o.d 0, u8at o.d 1, u8at o.d 2, u8at o.d 3, u8at o.d 4, u8at o.d 5, u8at o.d 6, u8at o.d 7,
  u8at o.e 0, u8at o.e 1, u8at o.e 2, u8at o.e 3, u8at o.e 4, u8at o.e 5, u8at o.e 6, u8at o.e 7, o.path]

end Go.Proofs.YtekegfbjbainhaaGreat
