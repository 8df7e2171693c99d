import Derived.WalkKit
import Derived.WalkSpells
import Derived.WalkLawsBesides
import Derived.Laws.BitsAllLaws
import Derived.Handy
import Derived.Test.YtekegfbjbainhaaGreatRows
import Derived.Lib.LazyBuf
import Derived.Lib.SlBuf
import Derived.Deep.OwnRows
import Derived.Laws.OwnMore
import Derived.Laws.IdiomStrings
/- Plain functions and words that the walks of this seat share: the digest as a number, its eight bytes, bytes that lie in memory. -/
namespace Go.Proofs.YtekegfbjbainhaaGreat
set_option linter.unusedVariables false
set_option linter.unusedSimpArgs false
open Go.RowKit

/-- One byte more of a digest's number. -/
def mixB (h : Int) (b : UInt8) : Int := IntKind.u64.wrap (bits BinOp.xor IntKind.u64 h (b.toNat : Int) * 1099511628211)
/-- The number of some bytes, ahead of the last stirring. -/
def rawD (l : List UInt8) : Int := l.foldl mixB 14695981039346656037
/-- The first and the second half of the stirring. -/
def stirA (n : Int) : Int := IntKind.u64.wrap (bits BinOp.xor IntKind.u64 n (n / 4294967296) * 11400714819323198485)
def stirB (n : Int) : Int := bits BinOp.xor IntKind.u64 n (n / 536870912)
/-- The number of a digest. -/
def numD (l : List UInt8) : Int := stirB (stirA (rawD l))
/-- A byte as a value. -/
def u8c (b : UInt8) : Value := .int .u8 (b.toNat : Int)
/-- A number's byte above the first d. -/
def byteN (n d : Int) : UInt8 := UInt8.ofNat (n / d % 256).toNat
/-- A number's eight bytes, the highest one first. -/
def bytesN (n : Int) : List UInt8 := [byteN n 72057594037927936, byteN n 281474976710656, byteN n 1099511627776, byteN n 4294967296, byteN n 16777216, byteN n 65536, byteN n 256, byteN n 1]
/-- THE digest of some bytes, as bytes; as a value. -/
def digB (l : List UInt8) : List UInt8 := bytesN (numD l)
def digV (l : List UInt8) : Value := .agg ((digB l).map u8c).toArray

theorem byteN_c (n d : Int) : u8c (byteN n d) = .int .u8 (n / d % 256) := by
  unfold u8c byteN
  have h : (n / d % 256).toNat < 256 := by omega
  rw [UInt8.toNat_ofNat_of_lt' h]
  congr 1
  omega
theorem digB_length (l : List UInt8) : (digB l).length = 8 := rfl
theorem cells_bytesN (n : Int) (h0 : 0 ≤ n) (h1 : n < 18446744073709551616) : ((bytesN n).map u8c).toArray =
    #[Value.int .u8 (n / 72057594037927936), .int .u8 (n / 281474976710656 % 256), .int .u8 (n / 1099511627776 % 256), .int .u8 (n / 4294967296 % 256), .int .u8 (n / 16777216 % 256), .int .u8 (n / 65536 % 256), .int .u8 (n / 256 % 256), .int .u8 (n % 256)] := by
  have e : n / 72057594037927936 % 256 = n / 72057594037927936 := by omega
  have e1 : n / 1 = n := by omega
  simp only [bytesN, List.map_cons, List.map_nil, byteN_c, e, e1]

theorem digV_form (l : List UInt8) : ∃ x0 x1 x2 x3 x4 x5 x6 x7 : Int, digV l = .agg #[.int .u8 x0, .int .u8 x1, .int .u8 x2, .int .u8 x3, .int .u8 x4, .int .u8 x5, .int .u8 x6, .int .u8 x7] :=
  ⟨_, _, _, _, _, _, _, _, rfl⟩

theorem wrap_u64_nonneg (x : Int) : 0 ≤ IntKind.u64.wrap x := by
  simp only [IntKind.wrap_u64]; omega
theorem wrap_u64_lt (x : Int) : IntKind.u64.wrap x < 18446744073709551616 := by
  simp only [IntKind.wrap_u64]; omega
theorem rawD_snoc (l : List UInt8) (b : UInt8) : rawD (l ++ [b]) = mixB (rawD l) b := by simp [rawD]
theorem rawD_bd (l : List UInt8) : 0 ≤ rawD l ∧ rawD l < 18446744073709551616 := by
  rcases List.eq_nil_or_concat l with rfl | ⟨l', b, rfl⟩
  · simp [rawD]
  · rw [List.concat_eq_append, rawD_snoc]
    exact ⟨wrap_u64_nonneg _, wrap_u64_lt _⟩
theorem stirA_bd (n : Int) : 0 ≤ stirA n ∧ stirA n < 18446744073709551616 := ⟨wrap_u64_nonneg _, wrap_u64_lt _⟩

theorem stirB_bd (n : Int) (h0 : 0 ≤ n) (h1 : n < 18446744073709551616) : 0 ≤ stirB n ∧ stirB n < 18446744073709551616 := by
  unfold stirB
  rw [u64_xor _ _ h0 h1 (by omega) (by omega)]
  have h := Nat.xor_lt_two_pow (x := n.toNat) (y := (n / 536870912).toNat) (n := 64) (by omega) (by omega)
  have e : (2 : Nat) ^ 64 = 18446744073709551616 := by decide
  rw [e] at h
  exact ⟨by omega, by omega⟩
theorem numD_bd (l : List UInt8) : 0 ≤ numD l ∧ numD l < 18446744073709551616 := stirB_bd _ (stirA_bd _).1 (stirA_bd _).2

/-- Bytes lie in block b from o on. -/
def BAt (w : World) (b o : Nat) (l : List UInt8) : Prop := ∀ i (h : i < l.length), w.cell? ⟨b, o + i, none⟩ = some (.int .u8 (l[i].toNat : Int))

/-- The bytes of a slice whose array begins at a (nil, or empty, or not). -/
def SlB (w : World) (a : Option Addr) (l : List UInt8) : Prop := ∀ i (h : i < l.length), ∃ b o, a = some ⟨b, o, none⟩ ∧ b < w.heap.size ∧ w.cell? ⟨b, o + i, none⟩ = some (.int .u8 (l[i].toNat : Int))

theorem SlB.nil (w : World) (a : Option Addr) : SlB w a [] := fun i h => absurd h (Nat.not_lt_zero _)
theorem SlB.mk {w : World} {b o : Nat} {l : List UInt8} (hb : b < w.heap.size) (h : BAt w b o l) : SlB w (some ⟨b, o, none⟩) l := fun i hi => ⟨b, o, rfl, hb, h i hi⟩
theorem BAt.below {w w' : World} {b o B : Nat} {l : List UInt8} (h : BAt w b o l) (hb : b < B) (hw : Below B w w') : BAt w' b o l := fun i hi => by
  rw [hw.cell (p := ⟨b, o + i, none⟩) hb]; exact h i hi
theorem SlB.below {w w' : World} {a : Option Addr} {B : Nat} {l : List UInt8} (h : SlB w a l) (hw : Below B w w') (hB : w.heap.size ≤ B) : SlB w' a l := fun i hi => by
  obtain ⟨b, o, ha, hb, hc⟩ := h i hi
  exact ⟨b, o, ha, Nat.lt_of_lt_of_le hb hw.size, by rw [hw.cell (p := ⟨b, o + i, none⟩) (Nat.lt_of_lt_of_le hb hB)]; exact hc⟩

/-- But for the blocks of S (and new ones) the world is as it was. -/
structure Frame (S : Nat → Prop) (w w' : World) : Prop where
  os : w'.os = w.os
  tape : w'.tape = w.tape
  output : w'.output = w.output
  size : w.heap.size ≤ w'.heap.size
  block : ∀ k, k < w.heap.size → ¬ S k → w'.heap[k]? = w.heap[k]?

theorem Frame.refl (S : Nat → Prop) (w : World) : Frame S w w := ⟨rfl, rfl, rfl, Nat.le_refl _, fun _ _ _ => rfl⟩
theorem Frame.trans {S : Nat → Prop} {a b c : World} (h : Frame S a b) (k : Frame S b c) : Frame S a c :=
  ⟨k.os.trans h.os, k.tape.trans h.tape, k.output.trans h.output, Nat.le_trans h.size k.size, fun i hi hs => (k.block i (Nat.lt_of_lt_of_le hi h.size) hs).trans (h.block i hi hs)⟩
theorem Frame.mono {S T : Nat → Prop} {w w' : World} (h : Frame S w w') (hs : ∀ k, k < w.heap.size → S k → T k) : Frame T w w' :=
  ⟨h.os, h.tape, h.output, h.size, fun k hk hn => h.block k hk (fun x => hn (hs k hk x))⟩
theorem Frame.of_below {B : Nat} {w w' : World} (h : Below B w w') : Frame (fun k => B ≤ k) w w' :=
  ⟨h.os, h.tape, h.output, h.size, fun k _ hn => h.block k (by omega)⟩
theorem Frame.of_below_all {S : Nat → Prop} {w w' : World} (h : Below w.heap.size w w') : Frame S w w' :=
  ⟨h.os, h.tape, h.output, h.size, fun k hk _ => h.block k hk⟩
theorem Frame.setCell {S : Nat → Prop} {w w' : World} (h : Frame S w w') {p : Addr} (hp : S p.block) (u : Value) : Frame S w (w'.setCell p u) :=
  h.trans ⟨rfl, rfl, rfl, by simp [World.setCell], fun k _ hn => Below.heap_setCell _ _ _ _ (fun e => hn (e ▸ hp))⟩
theorem Frame.alloc {S : Nat → Prop} {w w' : World} (h : Frame S w w') (o : Obj) : Frame S w (w'.alloc o) :=
  h.trans ⟨rfl, rfl, rfl, by simp, fun k hk _ => Below.heap_alloc _ _ _ hk⟩
theorem Frame.drew {S : Nat → Prop} {w w' : World} (h : Frame S w w') : Frame S w w'.drew := ⟨h.os, h.tape, h.output, h.size, h.block⟩
theorem Frame.below {S : Nat → Prop} {B : Nat} {w w' : World} (h : Frame S w w') (hB : B ≤ w.heap.size) (hs : ∀ k, S k → B ≤ k) : Below B w w' :=
  ⟨h.os, h.tape, h.output, h.size, fun k hk => h.block k (by omega) (fun x => by have := hs k x; omega)⟩

theorem take_snocL (l : List UInt8) (k : Nat) (h : k < l.length) : l.take (k + 1) = l.take k ++ [l[k]] := by
  rw [List.take_succ_eq_append_getElem h]

theorem list8 {α : Type} (l : List α) (h : l.length = 8) : ∃ z0 z1 z2 z3 z4 z5 z6 z7, l = [z0, z1, z2, z3, z4, z5, z6, z7] := by
  match l, h with
  | [z0, z1, z2, z3, z4, z5, z6, z7], _ => exact ⟨z0, z1, z2, z3, z4, z5, z6, z7, rfl⟩

/-- A byte of a list, as a value. -/
def u8at (l : List UInt8) (i : Nat) : Value := .int .u8 ((l.getD i 0).toNat : Int)
/-- One step of a script, as it was read. -/
structure OpR where
  kind : Int
  a : Int
  b : Int
  c : Int
  s : ByteArray
  t : ByteArray
  u : ByteArray
  d : List UInt8
  e : List UInt8
  path : Value
def OpR.cells (o : OpR) : List Value := [.int .i64 o.kind, .int .i64 o.a, .int .i64 o.b, .int .i64 o.c, .string o.s, .string o.t, .string o.u,
  u8at o.d 0, u8at o.d 1, u8at o.d 2, u8at o.d 3, u8at o.d 4, u8at o.d 5, u8at o.d 6, u8at o.d 7,
  u8at o.e 0, u8at o.e 1, u8at o.e 2, u8at o.e 3, u8at o.e 4, u8at o.e 5, u8at o.e 6, u8at o.e 7, o.path]

end Go.Proofs.YtekegfbjbainhaaGreat

/- The digest's functions, walked: each gives the digest of the bytes that it is handed, and turns nothing that was there. -/
namespace Go.Proofs.YtekegfbjbainhaaGreat
set_option linter.unusedVariables false
set_option linter.unusedSimpArgs false
open Go.RowKit

set_option maxRecDepth 100000 in
set_option maxHeartbeats 400000 in
theorem refDigest_any (a : Option Addr) (n cap : Nat) (l : List UInt8) (w : World) (hn : n = l.length) (hl : l.length ≤ maxLen) (hc : SlB w a l) :
    Calls Tryz.prog 10 #[.slice a n cap] w fun e w' => e = .returned (digV l) ∧ Below w.heap.size w w' := by
  subst hn
  unfold maxLen at hl
  go_enter Tryz.func10, Tryz.ntmps10
  go_wp2
  go_loop [3, 4] (fun n i => ∃ k : Nat, k ≤ l.length ∧ i = .int .i64 k ∧ n = .int .u64 (rawD (l.take k))) (fun _ i => l.length - (intOf i).toNat)
  case atStart => exact ⟨0, Nat.zero_le _, rfl, rfl⟩
  case round =>
    obtain ⟨k, hk, rfl, rfl⟩ := hrel
    by_cases hlt : k < l.length
    · obtain ⟨b, o, rfl, hb, hcell⟩ := hc k hlt
      have hrb := rawD_bd (l.take k)
      have h256 : (l[k].toNat : Int) < 256 := by have := l[k].toNat_lt; omega
      have HS : Hid (rawD (l.take (k + 1)) = mixB (rawD (l.take k)) l[k]) := by rw [take_snocL _ _ hlt]; exact rawD_snoc _ _
      go_wp2
      go_round
      case rel => exact ⟨k + 1, by omega, by go_num, by rw [HS.out]; unfold mixB; with_reducible rfl⟩
      case measure => simp [intOf]; omega
    · have hrb := rawD_bd (l.take k)
      have HE : Hid (l.take k = l) := List.take_of_length_le (by omega)
      go_wp2
      rw [HE.out]
      have HA := stirA_bd (rawD l)
      have HB := stirB_bd (stirA (rawD l)) HA.1 HA.2
      have hN : Hid (digV l = .agg ((bytesN (stirB (stirA (rawD l)))).map u8c).toArray) := rfl
      rw [show (IntKind.u64.wrap (bits BinOp.xor IntKind.u64 (rawD l) (rawD l / 4294967296) * 11400714819323198485)) = stirA (rawD l) from rfl]
      rw [show bits BinOp.xor IntKind.u64 (stirA (rawD l)) (stirA (rawD l) / 536870912) = stirB (stirA (rawD l)) from rfl]
      generalize stirB (stirA (rawD l)) = N at *
      have hcs : Hid (digV l = _) := hN.out.trans (congrArg Value.agg (cells_bytesN N HB.1 HB.2))
      clear hN
      go_rounds 9
      go_returns
      exact ⟨by rw [hcs.out], by go_grown⟩

set_option maxRecDepth 100000 in
set_option maxHeartbeats 400000 in
theorem stir_any (n : Int) (w : World) (h0 : 0 ≤ n) :
    Calls Tryz.prog 108 #[.int .u64 n] w fun e w' => e = .returned (.int .u64 (stirB (stirA n))) ∧ w' = w := by
  go_enter Tryz.func108, Tryz.ntmps108
  go_wp2
  go_ret
  exact ⟨rfl, rfl⟩

set_option maxRecDepth 100000 in
set_option maxHeartbeats 400000 in
theorem fromNumber_any (N : Int) (w : World) (h0 : 0 ≤ N) (h1 : N < 18446744073709551616) :
    Calls Tryz.prog 107 #[.int .u64 N] w fun e w' => e = .returned (.agg ((bytesN N).map u8c).toArray) ∧ ∃ c1 c2 : Array Value, w' = (w.alloc (.cells c1 36)).alloc (.cells c2 36) := by
  have hcs : Hid (((bytesN N).map u8c).toArray = _) := cells_bytesN N h0 h1
  go_enter Tryz.func107, Tryz.ntmps107
  go_wp2
  go_rounds 9
  go_returns
  exact ⟨by rw [hcs.out], _, _, rfl⟩

set_option maxRecDepth 100000 in
set_option maxHeartbeats 400000 in
theorem of_any (a : Option Addr) (cap : Nat) (l : List UInt8) (w : World) (hl : l.length ≤ maxLen) (hc : SlB w a l) :
    Calls Tryz.prog 67 #[.slice a l.length cap] w fun e w' => e = .returned (digV l) ∧ ∃ c1 c2 c3 : Array Value, w' = ((w.alloc (.cells c1 36)).alloc (.cells c2 36)).alloc (.cells c3 36) := by
  unfold maxLen at hl
  go_enter Tryz.func67, Tryz.ntmps67
  go_wp2
  go_loop [3, 8] (fun n i => ∃ k : Nat, k ≤ l.length ∧ i = .int .i64 k ∧ n = .int .u64 (rawD (l.take k))) (fun _ i => l.length - (intOf i).toNat)
  case atStart => exact ⟨0, Nat.zero_le _, rfl, rfl⟩
  case round =>
    obtain ⟨k, hk, rfl, rfl⟩ := hrel
    by_cases hlt : k < l.length
    · obtain ⟨b, o, rfl, hb, hcell⟩ := hc k hlt
      have hrb := rawD_bd (l.take k)
      have h256 : (l[k].toNat : Int) < 256 := by have := l[k].toNat_lt; omega
      have HS : Hid (rawD (l.take (k + 1)) = mixB (rawD (l.take k)) l[k]) := by rw [take_snocL _ _ hlt]; exact rawD_snoc _ _
      go_wp2
      go_round
      case rel => exact ⟨k + 1, by omega, by go_num, by rw [HS.out]; unfold mixB; with_reducible rfl⟩
      case measure => simp [intOf]; omega
    · have hrb := rawD_bd (l.take k)
      have HE : Hid (l.take k = l) := List.take_of_length_le (by omega)
      go_wp2_with fail
      rw [HE.out] at hrb ⊢
      have HN := numD_bd l
      refine (stir_any _ _ hrb.1).mono ?_
      rintro e w1 ⟨rfl, rfl⟩
      rw [show stirB (stirA (rawD l)) = numD l from rfl]
      go_wp2_with fail
      refine (fromNumber_any (numD l) _ HN.1 HN.2).mono ?_
      rintro e w1 ⟨rfl, c1, c2, rfl⟩
      have hcs : Hid (digV l = _) := congrArg Value.agg (cells_bytesN (numD l) HN.1 HN.2)
      rw [cells_bytesN (numD l) HN.1 HN.2]
      go_wp2
      go_returns
      exact ⟨by rw [hcs.out], _, _, _, rfl⟩

set_option maxRecDepth 100000 in
set_option maxHeartbeats 400000 in
theorem digest_any (a : Option Addr) (n cap : Nat) (l : List UInt8) (w : World) (hn : n = l.length) (hl : l.length ≤ maxLen) (hc : SlB w a l) :
    Calls Tryz.prog 35 #[.slice a n cap] w fun e w' => e = .returned (digV l) ∧ Below w.heap.size w w' := by
  subst hn
  have HN := numD_bd l
  have hcs : Hid (digV l = _) := congrArg Value.agg (cells_bytesN (numD l) HN.1 HN.2)
  go_enter Tryz.func35, Tryz.ntmps35
  go_wp2_with fail
  refine (of_any a cap l _ hl (hc.below ((Below.refl _ _).alloc (Nat.le_refl _) _) (Nat.le_refl _))).mono ?_
  rintro e w1 ⟨rfl, c1, c2, c3, rfl⟩
  rw [hcs.out]
  go_wp2
  go_returns
  exact ⟨by rw [hcs.out], by go_grown⟩
end Go.Proofs.YtekegfbjbainhaaGreat

/- Rows of bytes that lie whole in a block: read, stored into, made, copied to. -/
namespace Go.Proofs.YtekegfbjbainhaaGreat
set_option linter.unusedVariables false
set_option linter.unusedSimpArgs false
open Go.RowKit

/-- Block b is a row of just these cells, of this type, none frozen. -/
def RowV (w : World) (b : Nat) (t : TypeId) (l : List Value) : Prop := w.heap[b]? = some (.cells l.toArray t (0, 0))
/-- .. of bytes. -/
def RowB (w : World) (b : Nat) (l : List UInt8) : Prop := RowV w b 5 (l.map u8c)

theorem RowV.cell {w : World} {b t : Nat} {l : List Value} (h : RowV w b t l) (i : Nat) (hi : i < l.length) : w.cell? ⟨b, i, none⟩ = some l[i] := by
  unfold RowV at h; simp [World.cell?, h, hi]
theorem RowV.cell? {w : World} {b t : Nat} {l : List Value} (h : RowV w b t l) (i : Nat) : w.cell? ⟨b, i, none⟩ = l[i]? := by
  unfold RowV at h; simp [World.cell?, h]
theorem RowV.frozen {w : World} {b t : Nat} {l : List Value} (h : RowV w b t l) (i : Nat) : w.frozen? ⟨b, i, none⟩ = false := by
  unfold RowV at h; simp [World.frozen?, h]
theorem RowV.lt {w : World} {b t : Nat} {l : List Value} (h : RowV w b t l) : b < w.heap.size := by
  unfold RowV at h; exact (Array.getElem?_eq_some_iff.1 h).1
theorem RowV.of_block {w w' : World} {b t : Nat} {l : List Value} (h : RowV w b t l) (e : w'.heap[b]? = w.heap[b]?) : RowV w' b t l := by
  unfold RowV at h ⊢; rw [e, h]
theorem RowV.below {w w' : World} {b t B : Nat} {l : List Value} (h : RowV w b t l) (hb : b < B) (hw : Below B w w') : RowV w' b t l := h.of_block (hw.block b hb)
theorem RowV.alloc {w : World} {b t : Nat} {l : List Value} (h : RowV w b t l) (o : Obj) : RowV (w.alloc o) b t l := h.of_block (Below.heap_alloc w o b h.lt)
theorem RowV.set {w : World} {b t : Nat} {l : List Value} (h : RowV w b t l) (i : Nat) (v : Value) : RowV (w.setCell ⟨b, i, none⟩ v) b t (l.set i v) := by
  unfold RowV at h ⊢
  simp [World.setCell, Array.getElem?_modify, h]
theorem RowV.other {w : World} {b t : Nat} {l : List Value} (h : RowV w b t l) {a : Addr} (ha : b ≠ a.block) (v : Value) : RowV (w.setCell a v) b t l := h.of_block (Below.heap_setCell w a v b ha)
theorem RowV.new (w : World) (t : Nat) (l : List Value) : RowV (w.alloc (.cells l.toArray t)) w.heap.size t l := by
  unfold RowV; show (w.heap.push _)[w.heap.size]? = _; simp

theorem RowB.cell {w : World} {b : Nat} {l : List UInt8} (h : RowB w b l) (i : Nat) (hi : i < l.length) : w.cell? ⟨b, i, none⟩ = some (.int .u8 (l[i].toNat : Int)) := by
  have := RowV.cell h i (by simpa using hi)
  rw [this]; simp [u8c]
theorem RowB.frozen {w : World} {b : Nat} {l : List UInt8} (h : RowB w b l) (i : Nat) : w.frozen? ⟨b, i, none⟩ = false := RowV.frozen h i
theorem RowB.lt {w : World} {b : Nat} {l : List UInt8} (h : RowB w b l) : b < w.heap.size := RowV.lt h
theorem RowB.below {w w' : World} {b B : Nat} {l : List UInt8} (h : RowB w b l) (hb : b < B) (hw : Below B w w') : RowB w' b l := RowV.below h hb hw
theorem RowB.set {w : World} {b : Nat} {l : List UInt8} (h : RowB w b l) (i : Nat) (x : UInt8) : RowB (w.setCell ⟨b, i, none⟩ (.int .u8 (x.toNat : Int))) b (l.set i x) := by
  have := RowV.set h i (u8c x)
  unfold RowB
  rw [← List.map_set] at this
  exact this
theorem RowB.at {w : World} {b : Nat} {l : List UInt8} (h : RowB w b l) (o : Nat) (m : List UInt8) (hm : ∀ i (hi : i < m.length), l[o + i]? = some m[i]) : BAt w b o m := fun i hi => by
  have h1 := hm i hi
  obtain ⟨h2, h3⟩ := List.getElem?_eq_some_iff.1 h1
  rw [h.cell _ h2, h3]
theorem RowB.made (w : World) (n : Nat) : RowB (w.alloc (.cells (madeCells #[.int .u8 0] n) 5)) w.heap.size (List.replicate n 0) := by
  have e : madeCells #[Value.int .u8 0] n = ((List.replicate n (0 : UInt8)).map u8c).toArray := by
    apply Array.toList_inj.1
    rw [toList_madeCells_one]
    simp [u8c]
  rw [e]
  exact RowV.new _ _ _
theorem RowB.setCells {b : Nat} : ∀ (m : List UInt8) (o : Nat) (w : World) (l : List UInt8), RowB w b l → o + m.length ≤ l.length →
    RowB (w.setCells b o (m.map fun x => Value.int .u8 (x.toNat : Int))) b (l.take o ++ m ++ l.drop (o + m.length))
  | [], o, w, l, h, _ => by simpa [World.setCells] using h
  | x :: m, o, w, l, h, hl => by
    simp only [List.length_cons] at hl
    simp only [List.map_cons, World.setCells]
    have h2 := RowB.setCells m (o + 1) _ _ (h.set o x) (by simp; omega)
    refine cast (congrArg (RowB _ b) ?_) h2
    rw [List.drop_set_of_lt (by omega)]
    rw [List.take_add_one, List.take_set, List.getElem?_set_self (by omega)]
    rw [List.set_eq_of_length_le (by simp; omega)]
    simp only [List.length_cons, List.append_assoc, Option.toList, List.cons_append, List.nil_append]
    rw [show o + 1 + m.length = o + (m.length + 1) by omega]
theorem addr_add (b o j : Nat) : (Addr.mk b o none).add j = ⟨b, o + j, none⟩ := by
  unfold Addr.add
  by_cases h : j = 0
  · subst h; simp
  · simp [h]
/-- 'string(b)'. -/
theorem run_string_BAt {P : Program} (w : World) (src dst e : TypeId) (b o cap : Nat) (l : List UInt8) (hs : P.underlying src = some (.slice e)) (he : P.underlying e = some (.int .u8)) (hd : P.underlying dst = some .string)
    (hc : BAt w b o l) : (convert src dst (.slice (some ⟨b, o, none⟩) l.length cap)).run P w = .ok (.string ⟨l.toArray⟩) w :=
  run_convert_bytes_back w src dst e ⟨b, o, none⟩ cap l hs he hd (fun j hj => by rw [addr_add]; exact hc j hj)
theorem byteArray_toList (s : ByteArray) : (⟨s.data.toList.toArray⟩ : ByteArray) = s := by simp
theorem bcell {W w1 : World} (hb : Below W.heap.size W w1) : (∀ b o, b < W.heap.size → w1.cell? ⟨b, o, none⟩ = W.cell? ⟨b, o, none⟩) ∧ (∀ b o, b < W.heap.size → w1.frozen? ⟨b, o, none⟩ = W.frozen? ⟨b, o, none⟩) :=
  ⟨fun b o h => hb.cell (p := ⟨b, o, none⟩) h, fun b o h => hb.frozen (p := ⟨b, o, none⟩) h⟩
/-- The bytes of '[]byte(s)', in a world that only drew since. -/
theorem bytes_of_string (w : World) (s : ByteArray) (cap : Nat) (t : TypeId) (fr : Nat × Nat) : BAt (w.alloc (.cells (bytesRow s cap) t fr)) w.heap.size 0 s.data.toList := fun i hi => by
  rw [Nat.zero_add, World.cell?_alloc_mark, bytesRow_at s cap i (by simpa using hi)]
  simp
theorem below_setCells {B b : Nat} {a : World} (hb : B ≤ b) (vs : List Value) (o : Nat) (w : World) (h : Below B a w) : Below B a (w.setCells b o vs) := Go.below_setCells hb vs o w h
theorem size_setCells (b : Nat) : ∀ (vs : List Value) (o : Nat) (w : World), (w.setCells b o vs).heap.size = w.heap.size
  | [], _, _ => rfl
  | v :: r, o, w => by rw [World.setCells, size_setCells b r]; simp
end Go.Proofs.YtekegfbjbainhaaGreat
