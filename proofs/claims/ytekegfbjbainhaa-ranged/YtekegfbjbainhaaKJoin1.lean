import Derived.WalkKit
import Derived.WalkSpells
import Derived.WalkLawsBesides
import Derived.Laws.BitsAllLaws
import Derived.Handy
import Derived.Lib.LazyBuf
import Derived.Lib.SlBuf
import Derived.Deep.OwnRows
import Derived.Laws.OwnMore
import Derived.Laws.IdiomStrings
import Derived.Test.YtekegfbjbainhaaRows
import Derived.Maps.AppendAt
import Derived.Laws.AppendOwnNone
import Derived.Deep.MidRow
import Derived.Lib.AppendStr
set_option linter.unusedVariables false
set_option linter.unusedSimpArgs false

namespace Go.Proofs.Ytekegfbjbainhaa
open Go.RowKit
def mixB (h : Int) (b : UInt8) : Int := IntKind.u64.wrap (bits BinOp.xor IntKind.u64 h (b.toNat : Int) * 1099511628211)
def rawD (l : List UInt8) : Int := l.foldl mixB 14695981039346656037
def stirA (n : Int) : Int := IntKind.u64.wrap (bits BinOp.xor IntKind.u64 n (n / 4294967296) * 11400714819323198485)
def stirB (n : Int) : Int := bits BinOp.xor IntKind.u64 n (n / 536870912)
def numD (l : List UInt8) : Int := stirB (stirA (rawD l))
def u8c (b : UInt8) : Value := .int .u8 (b.toNat : Int)
def byteN (n d : Int) : UInt8 := UInt8.ofNat (n / d % 256).toNat
def bytesN (n : Int) : List UInt8 := [byteN n 72057594037927936, byteN n 281474976710656, byteN n 1099511627776, byteN n 4294967296, byteN n 16777216, byteN n 65536, byteN n 256, byteN n 1]
def digB (l : List UInt8) : List UInt8 := bytesN (numD l)
def digV (l : List UInt8) : Value := .agg ((digB l).map u8c).toArray
theorem byteN_c (n d : Int) : u8c (byteN n d) = .int .u8 (n / d % 256) := by
 unfold u8c byteN
 have h : (n / d % 256).toNat < 256 := by omega
 rw [UInt8.toNat_ofNat_of_lt' h]
 congr 1
 omega
theorem digB_length (l : List UInt8) : (digB l).length = 8 := rfl
theorem cells_bytesN (n : Int) (h0 : 0 ≤ n) (h1 : n < 18446744073709551616) : ((bytesN n).map u8c).toArray =
  #[Value.int .u8 (n / 72057594037927936), .int .u8 (n / 281474976710656 % 256), .int .u8 (n / 1099511627776 % 256), .int .u8 (n / 4294967296 % 256), .int .u8 (n / 16777216 % 256), .int .u8 (n / 65536 % 256), .int .u8 (n / 256 % 256), .int .u8 (n % 256)] := by
 have e : n / 72057594037927936 % 256 = n / 72057594037927936 := by omega
 have e1 : n / 1 = n := by omega
 simp only [bytesN, List.map_cons, List.map_nil, byteN_c, e, e1]
theorem wrap_u64_nonneg (x : Int) : 0 ≤ IntKind.u64.wrap x := by
 simp only [IntKind.wrap_u64]; omega
theorem wrap_u64_lt (x : Int) : IntKind.u64.wrap x < 18446744073709551616 := by
 simp only [IntKind.wrap_u64]; omega
theorem rawD_snoc (l : List UInt8) (b : UInt8) : rawD (l ++ [b]) = mixB (rawD l) b := by simp [rawD]
theorem rawD_bd (l : List UInt8) : 0 ≤ rawD l ∧ rawD l < 18446744073709551616 := by
 rcases List.eq_nil_or_concat l with rfl | ⟨l', b, rfl⟩
 ·simp [rawD]
 ·rw [List.concat_eq_append, rawD_snoc]
  exact ⟨wrap_u64_nonneg _, wrap_u64_lt _⟩
theorem stirA_bd (n : Int) : 0 ≤ stirA n ∧ stirA n < 18446744073709551616 := ⟨wrap_u64_nonneg _, wrap_u64_lt _⟩
theorem stirB_bd (n : Int) (h0 : 0 ≤ n) (h1 : n < 18446744073709551616) : 0 ≤ stirB n ∧ stirB n < 18446744073709551616 := by
 unfold stirB
 rw [u64_xor _ _ h0 h1 (by omega) (by omega)]
 have h := Nat.xor_lt_two_pow (x := n.toNat) (y := (n / 536870912).toNat) (n := 64) (by omega) (by omega)
 have e : (2 : Nat) ^ 64 = 18446744073709551616 := by decide
 rw [e] at h
 exact ⟨by omega, by omega⟩
theorem numD_bd (l : List UInt8) : 0 ≤ numD l ∧ numD l < 18446744073709551616 := stirB_bd _ (stirA_bd _).1 (stirA_bd _).2
def BAt (w : World) (b o : Nat) (l : List UInt8) : Prop := ∀ i (h : i < l.length), w.cell? ⟨b, o + i, none⟩ = some (.int .u8 (l[i].toNat : Int))
def SlB (w : World) (a : Option Addr) (l : List UInt8) : Prop := ∀ i (h : i < l.length), ∃ b o, a = some ⟨b, o, none⟩ ∧ b < w.heap.size ∧ w.cell? ⟨b, o + i, none⟩ = some (.int .u8 (l[i].toNat : Int))
theorem SlB.nil (w : World) (a : Option Addr) : SlB w a [] := fun i h => absurd h (Nat.not_lt_zero _)
theorem SlB.mk {w : World} {b o : Nat} {l : List UInt8} (hb : b < w.heap.size) (h : BAt w b o l) : SlB w (some ⟨b, o, none⟩) l := fun i hi => ⟨b, o, rfl, hb, h i hi⟩
theorem SlB.below {w w' : World} {a : Option Addr} {B : Nat} {l : List UInt8} (h : SlB w a l) (hw : Below B w w') (hB : w.heap.size ≤ B) : SlB w' a l := fun i hi => by
 obtain ⟨b, o, ha, hb, hc⟩ := h i hi
 exact ⟨b, o, ha, Nat.lt_of_lt_of_le hb hw.size, by rw [hw.cell (p := ⟨b, o + i, none⟩) (Nat.lt_of_lt_of_le hb hB)]; exact hc⟩
structure Frame (S : Nat → Prop) (w w' : World) : Prop where
 os : w'.os = w.os
 tape : w'.tape = w.tape
 output : w'.output = w.output
 size : w.heap.size ≤ w'.heap.size
 block : ∀ k, k < w.heap.size → ¬ S k → w'.heap[k]? = w.heap[k]?
theorem Frame.refl (S : Nat → Prop) (w : World) : Frame S w w := ⟨rfl, rfl, rfl, Nat.le_refl _, fun _ _ _ => rfl⟩
theorem Frame.trans {S : Nat → Prop} {a b c : World} (h : Frame S a b) (k : Frame S b c) : Frame S a c :=
 ⟨k.os.trans h.os, k.tape.trans h.tape, k.output.trans h.output, Nat.le_trans h.size k.size, fun i hi hs => (k.block i (Nat.lt_of_lt_of_le hi h.size) hs).trans (h.block i hi hs)⟩
theorem Frame.mono {S T : Nat → Prop} {w w' : World} (h : Frame S w w') (hs : ∀ k, k < w.heap.size → S k → T k) : Frame T w w' :=
 ⟨h.os, h.tape, h.output, h.size, fun k hk hn => h.block k hk (fun x => hn (hs k hk x))⟩
theorem Frame.of_below {B : Nat} {w w' : World} (h : Below B w w') : Frame (fun k => B ≤ k) w w' :=
 ⟨h.os, h.tape, h.output, h.size, fun k _ hn => h.block k (by omega)⟩
theorem Frame.of_below_all {S : Nat → Prop} {w w' : World} (h : Below w.heap.size w w') : Frame S w w' :=
 ⟨h.os, h.tape, h.output, h.size, fun k hk _ => h.block k hk⟩
theorem Frame.setCell {S : Nat → Prop} {w w' : World} (h : Frame S w w') {p : Addr} (hp : S p.block) (u : Value) : Frame S w (w'.setCell p u) :=
 h.trans ⟨rfl, rfl, rfl, by simp [World.setCell], fun k _ hn => Below.heap_setCell _ _ _ _ (fun e => hn (e ▸ hp))⟩
theorem Frame.alloc {S : Nat → Prop} {w w' : World} (h : Frame S w w') (o : Obj) : Frame S w (w'.alloc o) :=
 h.trans ⟨rfl, rfl, rfl, by simp, fun k hk _ => Below.heap_alloc _ _ _ hk⟩
theorem Frame.drew {S : Nat → Prop} {w w' : World} (h : Frame S w w') : Frame S w w'.drew := ⟨h.os, h.tape, h.output, h.size, h.block⟩
theorem Frame.below {S : Nat → Prop} {B : Nat} {w w' : World} (h : Frame S w w') (hB : B ≤ w.heap.size) (hs : ∀ k, S k → B ≤ k) : Below B w w' :=
 ⟨h.os, h.tape, h.output, h.size, fun k hk => h.block k (by omega) (fun x => by have := hs k x; omega)⟩
theorem take_snocL (l : List UInt8) (k : Nat) (h : k < l.length) : l.take (k + 1) = l.take k ++ [l[k]] := by
 rw [List.take_succ_eq_append_getElem h]
theorem list8 {α : Type} (l : List α) (h : l.length = 8) : ∃ z0 z1 z2 z3 z4 z5 z6 z7, l = [z0, z1, z2, z3, z4, z5, z6, z7] := by
 match l, h with
 | [z0, z1, z2, z3, z4, z5, z6, z7], _ => exact ⟨z0, z1, z2, z3, z4, z5, z6, z7, rfl⟩
end Go.Proofs.Ytekegfbjbainhaa


namespace Go.Proofs.Ytekegfbjbainhaa
open Go.RowKit
def RowV (w : World) (b : Nat) (t : TypeId) (l : List Value) : Prop := w.heap[b]? = some (.cells l.toArray t (0, 0))
theorem RowV.cell {w : World} {b t : Nat} {l : List Value} (h : RowV w b t l) (i : Nat) (hi : i < l.length) : w.cell? ⟨b, i, none⟩ = some l[i] := by
 unfold RowV at h; simp [World.cell?, h, hi]
theorem RowV.cell? {w : World} {b t : Nat} {l : List Value} (h : RowV w b t l) (i : Nat) : w.cell? ⟨b, i, none⟩ = l[i]? := by
 unfold RowV at h; simp [World.cell?, h]
theorem RowV.frozen {w : World} {b t : Nat} {l : List Value} (h : RowV w b t l) (i : Nat) : w.frozen? ⟨b, i, none⟩ = false := by
 unfold RowV at h; simp [World.frozen?, h]
theorem RowV.lt {w : World} {b t : Nat} {l : List Value} (h : RowV w b t l) : b < w.heap.size := by
 unfold RowV at h; exact (Array.getElem?_eq_some_iff.1 h).1
theorem RowV.of_block {w w' : World} {b t : Nat} {l : List Value} (h : RowV w b t l) (e : w'.heap[b]? = w.heap[b]?) : RowV w' b t l := by
 unfold RowV at h ⊢; rw [e, h]
theorem RowV.below {w w' : World} {b t B : Nat} {l : List Value} (h : RowV w b t l) (hb : b < B) (hw : Below B w w') : RowV w' b t l := h.of_block (hw.block b hb)
theorem RowV.alloc {w : World} {b t : Nat} {l : List Value} (h : RowV w b t l) (o : Obj) : RowV (w.alloc o) b t l := h.of_block (Below.heap_alloc w o b h.lt)
theorem RowV.set {w : World} {b t : Nat} {l : List Value} (h : RowV w b t l) (i : Nat) (v : Value) : RowV (w.setCell ⟨b, i, none⟩ v) b t (l.set i v) := by
 unfold RowV at h ⊢
 simp [World.setCell, Array.getElem?_modify, h]
theorem RowV.other {w : World} {b t : Nat} {l : List Value} (h : RowV w b t l) {a : Addr} (ha : b ≠ a.block) (v : Value) : RowV (w.setCell a v) b t l := h.of_block (Below.heap_setCell w a v b ha)
theorem RowV.new (w : World) (t : Nat) (l : List Value) : RowV (w.alloc (.cells l.toArray t)) w.heap.size t l := by
 unfold RowV; show (w.heap.push _)[w.heap.size]? = _; simp
theorem addr_add (b o j : Nat) : (Addr.mk b o none).add j = ⟨b, o + j, none⟩ := by
 unfold Addr.add
 by_cases h : j = 0
 ·subst h; simp
 ·simp [h]
theorem run_string_BAt {P : Program} (w : World) (src dst e : TypeId) (b o cap : Nat) (l : List UInt8) (hs : P.underlying src = some (.slice e)) (he : P.underlying e = some (.int .u8)) (hd : P.underlying dst = some .string)
  (hc : BAt w b o l) : (convert src dst (.slice (some ⟨b, o, none⟩) l.length cap)).run P w = .ok (.string ⟨l.toArray⟩) w :=
 run_convert_bytes_back w src dst e ⟨b, o, none⟩ cap l hs he hd (fun j hj => by rw [addr_add]; exact hc j hj)
theorem bytes_of_string (w : World) (s : ByteArray) (cap : Nat) (t : TypeId) (fr : Nat × Nat) : BAt (w.alloc (.cells (bytesRow s cap) t fr)) w.heap.size 0 s.data.toList := fun i hi => by
 rw [Nat.zero_add, World.cell?_alloc_mark, bytesRow_at s cap i (by simpa using hi)]
 simp
theorem size_setCells (b : Nat) : ∀ (vs : List Value) (o : Nat) (w : World), (w.setCells b o vs).heap.size = w.heap.size
 | [], _, _ => rfl
 | v :: r, o, w => by rw [World.setCells, size_setCells b r]; simp
end Go.Proofs.Ytekegfbjbainhaa


namespace Go.Proofs.Ytekegfbjbainhaa
open Go.RowKit
theorem Try.infoU8 : (Try.prog.info? 5).map (fun i => (i.zero, i.size, i.bytes)) = some (some (.int .u8 0), 1, 1) := by kernel_rfl
theorem Try.sizeU8 (w : World) : (Go.sizeOf 5).run Try.prog w = .ok 1 w := by kernel_rfl
end Go.Proofs.Ytekegfbjbainhaa


namespace Go.Proofs.Ytekegfbjbainhaa
open Go.RowKit
def SlV (w : World) (a : Option Addr) (cs : List Value) : Prop := ∀ i (h : i < cs.length), ∃ b o, a = some ⟨b, o, none⟩ ∧ b < w.heap.size ∧ w.cell? ⟨b, o + i, none⟩ = some cs[i]
theorem SlV.nil (w : World) (a : Option Addr) : SlV w a [] := fun i h => absurd h (Nat.not_lt_zero _)
theorem SlV.of_block {w w' : World} {a : Option Addr} {cs : List Value} (h : SlV w a cs) (hz : w.heap.size ≤ w'.heap.size) (hb : ∀ x, a = some x → x.block < w.heap.size → w'.heap[x.block]? = w.heap[x.block]?) : SlV w' a cs := fun i hi => by
 obtain ⟨b, o, ha, hlt, hc⟩ := h i hi
 refine ⟨b, o, ha, Nat.lt_of_lt_of_le hlt hz, ?_⟩
 have h1 := hb ⟨b, o, none⟩ ha hlt
 rw [World.cell?_of_block (w := w) (w' := w') (a := ⟨b, o + i, none⟩) h1]
 exact hc
theorem SlV.below {w w' : World} {a : Option Addr} {B : Nat} {cs : List Value} (h : SlV w a cs) (hw : Below B w w') (hB : ∀ x, a = some x → x.block < B) : SlV w' a cs :=
 h.of_block hw.size (fun x hx _ => hw.block _ (hB x hx))
theorem SlV.below_all {w w' : World} {a : Option Addr} {cs : List Value} (h : SlV w a cs) (hw : Below w.heap.size w w') : SlV w' a cs :=
 h.of_block hw.size (fun x hx hlt => hw.block _ hlt)
theorem SlV.frame {w w' : World} {S : Nat → Prop} {a : Option Addr} {cs : List Value} (h : SlV w a cs) (hw : Frame S w w') (hS : ∀ x, a = some x → ¬ S x.block) : SlV w' a cs :=
 h.of_block hw.size (fun x hx hlt => hw.block _ hlt (hS x hx))
theorem SlB.toV {w : World} {a : Option Addr} {l : List UInt8} (h : SlB w a l) : SlV w a (l.map u8c) := fun i hi => by
 obtain ⟨b, o, ha, hb, hc⟩ := h i (by simpa using hi)
 exact ⟨b, o, ha, hb, by simpa [u8c] using hc⟩
theorem SlV.toB {w : World} {a : Option Addr} {l : List UInt8} (h : SlV w a (l.map u8c)) : SlB w a l := fun i hi => by
 obtain ⟨b, o, ha, hb, hc⟩ := h i (by simpa using hi)
 exact ⟨b, o, ha, hb, by simpa [u8c] using hc⟩
theorem SlB.frame {w w' : World} {S : Nat → Prop} {a : Option Addr} {l : List UInt8} (h : SlB w a l) (hw : Frame S w w') (hS : ∀ x, a = some x → ¬ S x.block) : SlB w' a l := (h.toV.frame hw hS).toB
theorem SlV.alloc_new (w : World) (cs : List Value) (t : TypeId) : SlV (w.alloc (.cells cs.toArray t)) (some ⟨w.heap.size, 0, none⟩) cs := fun i hi => ⟨w.heap.size, 0, rfl, by simp, by rw [Nat.zero_add, World.cell?_alloc_new]; simp [hi]⟩
theorem SlB.of_row {w : World} {b t : Nat} {l : List UInt8} (h : RowV w b t (l.map u8c)) : SlB w (some ⟨b, 0, none⟩) l :=
 SlB.mk h.lt (fun i hi => by
  rw [Nat.zero_add, h.cell i (by simpa using hi)]
  simp [u8c])
theorem RowV.new_at (w : World) (t g : Nat) (l : List Value) (hg : g = w.heap.size) : RowV (w.alloc (.cells l.toArray t)) g t l := by
 subst hg; exact RowV.new w t l
theorem RowV.there {w : World} {b t : Nat} {l : List Value} (h : RowV w b t l) (n : Nat) (hn : n = l.length) : w.there b 0 n := fun j hj => by
 rw [Nat.zero_add]
 exact ⟨by rw [h.cell j (by omega)]; rfl, h.frozen j⟩
theorem RowV.range {w : World} {b t : Nat} {l : List Value} (h : RowV w b t l) : w.rangeAt b 0 l := fun j v hv => by
 rw [Nat.zero_add, h.cell? j]; exact hv
theorem RowV.setCells {b t : Nat} : ∀ (vs : List Value) (o : Nat) (w : World) (l : List Value), RowV w b t l → o + vs.length ≤ l.length → RowV (w.setCells b o vs) b t (l.take o ++ vs ++ l.drop (o + vs.length))
 | [], o, w, l, h, _ => by simpa [World.setCells] using h
 | x :: m, o, w, l, h, hl => by
  simp only [List.length_cons] at hl
  simp only [World.setCells]
  have h2 := RowV.setCells m (o + 1) _ _ (h.set o x) (by simp; omega)
  refine cast (congrArg (RowV _ b t) ?_) h2
  rw [List.drop_set_of_lt (by omega)]
  rw [List.take_add_one, List.take_set, List.getElem?_set_self (by omega)]
  rw [List.set_eq_of_length_le (by simp; omega)]
  simp only [List.length_cons, List.append_assoc, Option.toList, List.cons_append, List.nil_append]
  rw [show o + 1 + m.length = o + (m.length + 1) by omega]
theorem RowV.setAll {b t : Nat} {w : World} {l : List Value} (h : RowV w b t l) (vs : List Value) (hl : vs.length = l.length) : RowV (w.setCells b 0 vs) b t vs := by
 have h2 := RowV.setCells vs 0 w l h (by omega)
 refine cast (congrArg (RowV _ b t) ?_) h2
 simp [hl]
theorem Frame.setCells {S : Nat → Prop} {b : Nat} {a : World} (hb : S b) : ∀ (vs : List Value) (o : Nat) (w : World), Frame S a w → Frame S a (w.setCells b o vs)
 | [], _, _, h => h
 | v :: r, o, w, h => Frame.setCells hb r (o + 1) _ (h.setCell (by exact hb) v)
theorem owns_form {w : World} {base e size n : Nat} {v : Value} {xs : List Value} (h : w.ownsRow base e size v n xs) :
  ∃ a cap, v = .slice a n cap ∧ SlV w a xs ∧ (a = none → cap = 0 ∧ n = 0) ∧ (∀ x, a = some x → x.off = 0 ∧ x.spot = none ∧ base ≤ x.block ∧ x.block < w.heap.size) ∧ (∀ k, v.ownBlock = some k ↔ a = some ⟨k, 0, none⟩) := by
 rcases h.2 with ⟨rfl, rfl⟩ | ⟨g, cap, cur, rfl, hg, hb, hc, hm, hs, ht⟩
 ·have : xs = [] := List.eq_nil_of_length_eq_zero (by simpa using h.1)
  subst this
  exact ⟨none, 0, rfl, SlV.nil _ _, fun _ => ⟨rfl, rfl⟩, (fun x hx => by cases hx), (fun k => by simp [Value.ownBlock])⟩
 ·have hlt := (Array.getElem?_eq_some_iff.1 hb).1
  refine ⟨_, _, rfl, (fun i hi => ⟨g, 0, rfl, hlt, ?_⟩), (fun hx => by cases hx), (fun x hx => by cases hx; exact ⟨rfl, rfl, hg, hlt⟩), (fun k => by simp [Value.ownBlock])⟩
  rw [Nat.zero_add]
  have h1 : cur.toList[i]? = some xs[i] := by
   have h2 : (cur.toList.take (n * size))[i]? = xs[i]? := by rw [ht]
   rw [List.getElem?_take_of_lt (by rw [← h.1]; exact hi)] at h2
   rw [h2]; simp [hi]
  unfold World.cell?
  simp only [hb]
  simpa using h1
theorem owns_cap {w : World} {base e size n : Nat} {a : Option Addr} {n' cap : Nat} {xs : List Value} (h : w.ownsRow base e size (.slice a n' cap) n xs) : n' = n ∧ n ≤ cap ∧ cap ≤ maxLen ∧ (a = none ∧ n = 0 ∧ cap = 0 ∨ ∃ g, a = some ⟨g, 0, none⟩ ∧ base ≤ g ∧ g < w.heap.size) := by
 rcases h.2 with ⟨hv, rfl⟩ | ⟨g, cap', cur, hv, hg, hb, hc, hm, hs, ht⟩
 ·cases hv; exact ⟨rfl, Nat.le_refl _, by simp [maxLen], Or.inl ⟨rfl, rfl, rfl⟩⟩
 ·cases hv; exact ⟨rfl, hc, hm, Or.inr ⟨g, rfl, hg, (Array.getElem?_eq_some_iff.1 hb).1⟩⟩
theorem owns_built (w : World) (base e size n : Nat) (cs : List Value) (hb : base ≤ w.heap.size) (hl : cs.length = n * size) (hn : n ≤ maxLen) :
  (w.alloc (.cells cs.toArray e)).ownsRow base e size (.slice (some ⟨w.heap.size, 0, none⟩) n n) n cs := by
 refine ⟨hl, Or.inr ⟨w.heap.size, n, cs.toArray, rfl, hb, ?_, Nat.le_refl _, hn, by simp [hl], by simp [← hl]⟩⟩
 show (w.heap.push _)[w.heap.size]? = _
 simp
theorem owns_frame {w w' : World} {S : Nat → Prop} {base e size n : Nat} {v : Value} {xs : List Value} (h : w.ownsRow base e size v n xs) (hw : Frame S w w') (hS : ∀ k, v.ownBlock = some k → ¬ S k) : w'.ownsRow base e size v n xs := by
 refine ⟨h.1, ?_⟩
 rcases h.2 with hn | ⟨g, cap, cur, rfl, hg, hb, rest⟩
 ·exact Or.inl hn
 ·exact Or.inr ⟨g, cap, cur, rfl, hg, by rw [hw.block g (Array.getElem?_eq_some_iff.1 hb).1 (hS g rfl)]; exact hb, rest⟩
theorem owns_below {w w' : World} {base e size n : Nat} {v : Value} {xs : List Value} (h : w.ownsRow base e size v n xs) (hw : Below w.heap.size w w') : w'.ownsRow base e size v n xs :=
 owns_frame h (Frame.of_below_all (S := fun _ => False) hw) (fun _ _ x => x)
theorem owns_base {w : World} {base base' e size n : Nat} {v : Value} {xs : List Value} (h : w.ownsRow base e size v n xs) (hb : ∀ k, v.ownBlock = some k → base' ≤ k) : w.ownsRow base' e size v n xs := by
 refine ⟨h.1, ?_⟩
 rcases h.2 with hn | ⟨g, cap, cur, rfl, hg, rest⟩
 ·exact Or.inl hn
 ·exact Or.inr ⟨g, cap, cur, rfl, hb g rfl, rest⟩
theorem below_drewN {B m : Nat} {w w' : World} (h : Below B (w.drewN m) w') : Below B w w' := ⟨h.os, h.tape, h.output, h.size, h.block⟩
theorem Frame.of_grown {w w' : World} {row : Option Nat} (h : w.grownBy w' row) : Frame (fun k => row = some k) w w' :=
 ⟨h.os, h.tape, h.output, h.size, fun k hk hn => h.block k hk (fun e => hn e.symm)⟩
theorem wp_appendV {P : Program} {w : World} {ops : Array Oper} {rest : List Oper} {o : Oper} {a : Act} {Q : Exit → Act → World → Prop} (hgd : o.guard = none) (s x : Operand) (t : TypeId)
  (ho : o.op = .call { callee := .builtin .append, args := #[s, x], argTypes := #[t, t] })
  (base : Nat) (e : TypeId) (z : Value) (size bytes : Nat) (ht : P.underlying t = some (.slice e)) (hi : (P.info? e).map (fun i => (i.zero, i.size, i.bytes)) = some (some z, size, bytes)) (hzs : z.cells.size = size) (hsz : 0 < size)
  (v : Value) (n : Nat) (xs : List Value) (hs : a.eval s = v) (hown : w.ownsRow base e size v n xs)
  (ax : Option Addr) (m c : Nat) (news : List Value) (hx : a.eval x = .slice ax m c) (hl : news.length = m * size) (hnews : SlV w ax news) (hnil : ax = none → m = 0 ∧ c = 0) (h1 : ∀ u ∈ news, u.oneCell' = true)
  (h63 : n + m ≤ maxLen) (hbytes : (n + m) * bytes ≤ 140737488355328) (hbase : base ≤ w.heap.size)
  (h : ∀ v' w', w'.ownsRow base e size v' (n + m) (xs ++ news) → Frame (fun k => v.ownBlock = some k) w w' → (v'.ownBlock = v.ownBlock ∨ v'.ownBlock = some w.heap.size) → wpList P ops Q rest (a.put o.dst v') w') :
  wpList P ops Q (o :: rest) a w := by
 obtain ⟨i, hi0, hz, hsize, hby⟩ := info_parts hi
 cases ax with
 | none =>
  obtain ⟨rfl, rfl⟩ := hnil rfl
  have hn : news = [] := List.eq_nil_of_length_eq_zero (by simpa using hl)
  subst hn
  refine wpList_append_own_none hgd s x t ho base e i size ht hi0 v n xs hs hown hx ?_
  refine h v w ?_ (Frame.refl _ _) (Or.inl rfl)
  simpa using hown
 | some ad =>
  refine wpList_append_own_at w hgd s x t ho base e i z size bytes ht hi0 hz hsize hby hzs hsz v n xs hs hown ad m c news hx hl (fun j u hj => ?_) h1 h63 hbytes hbase ?_
  ·obtain ⟨hj1, hj2⟩ := List.getElem?_eq_some_iff.1 hj
   obtain ⟨b, k, ha, _, hc⟩ := hnews j hj1
   cases ha
   rw [addr_add, hc, hj2]
  ·intro v' w' ho' hg _ hat
   exact h v' w' ho' (Frame.of_grown hg) hat
def OwnB (w : World) (base : Nat) (v : Value) (l : List UInt8) : Prop := w.ownsRow base 5 1 v l.length (l.map u8c)
theorem u8c_one (l : List UInt8) : ∀ u ∈ l.map u8c, u.oneCell' = true := fun u hu => by
 obtain ⟨x, _, rfl⟩ := List.mem_map.1 hu
 rfl
theorem OwnB.built (w : World) (base : Nat) (l : List UInt8) (hb : base ≤ w.heap.size) (hl : l.length ≤ maxLen) : OwnB (w.alloc (.cells (l.map u8c).toArray 5)) base (.slice (some ⟨w.heap.size, 0, none⟩) l.length l.length) l :=
 owns_built w base _ 1 l.length (l.map u8c) hb (by simp) hl
theorem OwnB.sl {w : World} {base : Nat} {a : Option Addr} {n cap : Nat} {l : List UInt8} (h : OwnB w base (.slice a n cap) l) : SlB w a l ∧ n = l.length ∧ (a = none → cap = 0) := by
 obtain ⟨a', cap', hv, hs, hn, _⟩ := owns_form h
 cases hv
 exact ⟨hs.toB, rfl, fun h => (hn h).1⟩
theorem wp_appendB {w : World} {ops : Array Oper} {rest : List Oper} {o : Oper} {a : Act} {Q : Exit → Act → World → Prop} (hgd : o.guard = none) (s x : Operand)
  (ho : o.op = .call { callee := .builtin .append, args := #[s, x], argTypes := #[35, 35] })
  (base : Nat) (v : Value) (l : List UInt8) (hs : a.eval s = v) (hown : OwnB w base v l)
  (ax : Option Addr) (n c : Nat) (m : List UInt8) (hx : a.eval x = .slice ax n c) (hn : n = m.length) (hm : SlB w ax m) (hnil : ax = none → c = 0)
  (hlen : l.length + m.length ≤ 140737488355328) (hbase : base ≤ w.heap.size)
  (h : ∀ a' n' cap' w', n' = l.length + m.length → OwnB w' base (.slice a' n' cap') (l ++ m) → SlB w' a' (l ++ m) → Frame (fun k => v.ownBlock = some k) w w' → ((Value.slice a' n' cap').ownBlock = v.ownBlock ∨ (Value.slice a' n' cap').ownBlock = some w.heap.size) → wpList Try.prog ops Q rest (a.put o.dst (.slice a' n' cap')) w') :
  wpList Try.prog ops Q (o :: rest) a w := by
 subst hn
 refine wp_appendV hgd s x 35 ho base 5 (.int .u8 0) 1 1 Try.underlying35 Try.infoU8 rfl (by decide) v l.length (l.map u8c) hs hown ax m.length c (m.map u8c) hx (by simp) hm.toV ?_ (u8c_one m) (by unfold maxLen; omega) (by omega) hbase ?_
 ·intro ha
  refine ⟨?_, hnil ha⟩
  cases m with
  | nil => rfl
  | cons y r =>
   obtain ⟨b, k, hb, _⟩ := hm 0 (by simp)
   rw [ha] at hb; cases hb
 ·intro v' w' ho' hf hat
  obtain ⟨a', cap', rfl, hs', _⟩ := owns_form ho'
  rw [← List.map_append] at ho' hs'
  refine h a' _ cap' w' rfl ?_ hs'.toB hf hat
  unfold OwnB
  rw [List.length_append]
  exact ho'
theorem wp_appendS {w : World} {ops : Array Oper} {rest : List Oper} {o : Oper} {a : Act} {Q : Exit → Act → World → Prop} (hgd : o.guard = none) (s x : Operand)
  (ho : o.op = .call { callee := .builtin .append, args := #[s, x], argTypes := #[35, 9] })
  (base : Nat) (v : Value) (l : List UInt8) (hs : a.eval s = v) (hown : OwnB w base v l) (m : List UInt8) (hx : a.eval x = .string ⟨m.toArray⟩)
  (hlen : l.length + m.length ≤ 140737488355328) (hbase : base ≤ w.heap.size)
  (h : ∀ a' n' cap' w', OwnB w' base (.slice a' n' cap') (l ++ m) → SlB w' a' (l ++ m) → Frame (fun k => v.ownBlock = some k) w w' → wpList Try.prog ops Q rest (a.put o.dst (.slice a' n' cap')) w') :
  wpList Try.prog ops Q (o :: rest) a w := by
 obtain ⟨i, hi0, hz, hsize, hby⟩ := info_parts Try.infoU8
 have hsz : (ByteArray.mk m.toArray).size = m.length := by simp [ByteArray.size]
 have hsc : Lib.strCells ⟨m.toArray⟩ = m.map u8c := by unfold Lib.strCells; simp [u8c]
 refine Lib.wpList_append_own_string w hgd s x 35 9 ho base 5 i Try.underlying35 Try.underlying9 hi0 hz hsize hby v l.length (l.map u8c) hs hown ⟨m.toArray⟩ hx (by unfold maxLen; omega) (by omega) hbase ?_
 intro v' w' ho' hg _
 rw [hsc, hsz, ← List.map_append] at ho'
 obtain ⟨a', cap', rfl, hs', _⟩ := owns_form ho'
 refine h a' _ cap' w' ?_ hs'.toB (Frame.of_grown hg)
 unfold OwnB
 rw [List.length_append]
 exact ho'
theorem owns_ne {w : World} {base e size n b t : Nat} {v : Value} {xs l : List Value} (h : w.ownsRow base e size v n xs) (hr : RowV w b t l) (hne : e ≠ t) : v.ownBlock ≠ some b := by
 intro hv
 rcases h.2 with ⟨rfl, _⟩ | ⟨g, cap, cur, rfl, hg, hb, _⟩
 ·simp [Value.ownBlock] at hv
 ·simp [Value.ownBlock] at hv
  subst hv
  unfold RowV at hr
  rw [hb] at hr
  simp at hr
  exact hne hr.2
def dV (d : List UInt8) : Value := .agg (d.map u8c).toArray
theorem digV_eq (l : List UInt8) : digV l = dV (digB l) := rfl
theorem Try.infoDig : (Try.prog.info? 45).map (·.size) = some 8 := by kernel_rfl
theorem wp_storeD {ops : Array Oper} {rest : List Oper} {o : Oper} {a : Act} {w : World} {Q : Exit → Act → World → Prop} (hgd : o.guard = none) (x y : Operand) (ho : o.op = .store 45 x y)
  (b : Nat) (hx : a.eval x = .pointer (some ⟨b, 0, none⟩)) (d : List UInt8) (hd : d.length = 8) (hy : a.eval y = dV d) {l : List Value} (hR : RowV w b 45 l) (hl : l.length = 8)
  (h : ∀ w', RowV w' b 45 (d.map u8c) → Frame (fun k => k = b) w w' → w'.heap.size = w.heap.size → wpList Try.prog ops Q rest (a.put o.dst undef) w') : wpList Try.prog ops Q (o :: rest) a w := by
 refine wpList_store_mid hgd 45 x y ho b 0 (d.map u8c).toArray hx hy (by simpa [hd] using hR.there 8 hl.symm) (by simpa [hd] using Try.infoDig) (all_oneCell_toArray (u8c_one d)) ?_
 exact h _ (hR.setAll _ (by simp [hd, hl])) (Frame.setCells (S := fun k => k = b) rfl _ _ _ (Frame.refl _ _)) (size_setCells _ _ _ _)
theorem ret_dig {fn : Func} {R : Ending → World → Prop} {a : Act} {w : World} {k b : Nat} {d : List UInt8} (hf : fn.results = #[ResultVar.cell k 45]) (ha : a.tmps.getD k undef = .pointer (some ⟨b, 0, none⟩))
  (hR : RowV w b 45 (d.map u8c)) (hd : d.length = 8) (hdf : a.defers = []) (h : R (.returned (dV d)) w) : bodyPost Try.prog fn R .ret a w := by
 refine bodyPost_ret (v := dV d) ?_ hdf h
 have hl := run_loadVar_mid (P := Try.prog) w b 0 45 (d.map u8c) _ hR.range Try.underlying45 rfl (by simpa [hd] using Try.infoDig)
 have ha' : a.tmps[k]?.getD undef = .pointer (some ⟨b, 0, none⟩) := by rw [← ha]; simp [Array.getD_eq_getD_getElem?]
 unfold results
 rw [hf]
 simp [ha', hl, dV, asAddr]
theorem ret_agg {fn : Func} {R : Ending → World → Prop} {a : Act} {w : World} {k b T : Nat} {cs : List Value} {d : TypeDesc} (hf : fn.results = #[ResultVar.cell k T]) (ha : a.tmps.getD k undef = .pointer (some ⟨b, 0, none⟩))
  (hR : RowV w b T cs) (hu : Try.prog.underlying T = some d) (hd : d.isRow = true) (hi : (Try.prog.info? T).map (·.size) = some cs.length) (hdf : a.defers = []) (h : R (.returned (.agg cs.toArray)) w) : bodyPost Try.prog fn R .ret a w := by
 refine bodyPost_ret (v := .agg cs.toArray) ?_ hdf h
 have hl := run_loadVar_mid (P := Try.prog) w b 0 T cs d hR.range hu hd hi
 have ha' : a.tmps[k]?.getD undef = .pointer (some ⟨b, 0, none⟩) := by rw [← ha]; simp [Array.getD_eq_getD_getElem?]
 unfold results
 rw [hf]
 simp [ha', hl, asAddr]
end Go.Proofs.Ytekegfbjbainhaa
