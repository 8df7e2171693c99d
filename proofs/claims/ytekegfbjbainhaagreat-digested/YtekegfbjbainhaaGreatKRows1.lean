/- Rows of bytes that lie whole in a block: read, stored into, made, copied to. -/
import Derived.Test.YtekegfbjbainhaaGreatKPlain
import Derived.Lib.LazyBuf
import Derived.Lib.SlBuf
import Derived.Deep.OwnRows
import Derived.Laws.OwnMore
import Derived.Laws.IdiomStrings
namespace Go.Proofs.YtekegfbjbainhaaGreat
set_option linter.unusedVariables false
set_option linter.unusedSimpArgs false
open Go.RowKit

/-- Block b is a row of just these cells, of this type, none frozen. -/
def RowV (w : World) (b : Nat) (t : TypeId) (l : List Value) : Prop := w.heap[b]? = some (.cells l.toArray t (0, 0))
/-- .. of bytes. -/
def RowB (w : World) (b : Nat) (l : List UInt8) : Prop := RowV w b 5 (l.map u8c)

theorem RowV.cell {w : World} {b t : Nat} {l : List Value} (h : RowV w b t l) (i : Nat) (hi : i < l.length) : w.cell? ⟨b, i, none⟩ = some l[i] := by
  unfold RowV at h; simp [World.cell?, h, hi]
theorem RowV.cell? {w : World} {b t : Nat} {l : List Value} (h : RowV w b t l) (i : Nat) : w.cell? ⟨b, i, none⟩ = l[i]? := by
  unfold RowV at h; simp [World.cell?, h]
theorem RowV.frozen {w : World} {b t : Nat} {l : List Value} (h : RowV w b t l) (i : Nat) : w.frozen? ⟨b, i, none⟩ = false := by
  unfold RowV at h; simp [World.frozen?, h]
theorem RowV.lt {w : World} {b t : Nat} {l : List Value} (h : RowV w b t l) : b < w.heap.size := by
  unfold RowV at h; exact (Array.getElem?_eq_some_iff.1 h).1
theorem RowV.of_block {w w' : World} {b t : Nat} {l : List Value} (h : RowV w b t l) (e : w'.heap[b]? = w.heap[b]?) : RowV w' b t l := by
  unfold RowV at h ⊢; rw [e, h]
theorem RowV.below {w w' : World} {b t B : Nat} {l : List Value} (h : RowV w b t l) (hb : b < B) (hw : Below B w w') : RowV w' b t l := h.of_block (hw.block b hb)
theorem RowV.alloc {w : World} {b t : Nat} {l : List Value} (h : RowV w b t l) (o : Obj) : RowV (w.alloc o) b t l := h.of_block (Below.heap_alloc w o b h.lt)
theorem RowV.set {w : World} {b t : Nat} {l : List Value} (h : RowV w b t l) (i : Nat) (v : Value) : RowV (w.setCell ⟨b, i, none⟩ v) b t (l.set i v) := by
  unfold RowV at h ⊢
  simp [World.setCell, Array.getElem?_modify, h]
theorem RowV.other {w : World} {b t : Nat} {l : List Value} (h : RowV w b t l) {a : Addr} (ha : b ≠ a.block) (v : Value) : RowV (w.setCell a v) b t l := h.of_block (Below.heap_setCell w a v b ha)
theorem RowV.new (w : World) (t : Nat) (l : List Value) : RowV (w.alloc (.cells l.toArray t)) w.heap.size t l := by
  unfold RowV; show (w.heap.push _)[w.heap.size]? = _; simp

theorem RowB.cell {w : World} {b : Nat} {l : List UInt8} (h : RowB w b l) (i : Nat) (hi : i < l.length) : w.cell? ⟨b, i, none⟩ = some (.int .u8 (l[i].toNat : Int)) := by
  have := RowV.cell h i (by simpa using hi)
  rw [this]; simp [u8c]
theorem RowB.frozen {w : World} {b : Nat} {l : List UInt8} (h : RowB w b l) (i : Nat) : w.frozen? ⟨b, i, none⟩ = false := RowV.frozen h i
theorem RowB.lt {w : World} {b : Nat} {l : List UInt8} (h : RowB w b l) : b < w.heap.size := RowV.lt h
theorem RowB.below {w w' : World} {b B : Nat} {l : List UInt8} (h : RowB w b l) (hb : b < B) (hw : Below B w w') : RowB w' b l := RowV.below h hb hw
theorem RowB.set {w : World} {b : Nat} {l : List UInt8} (h : RowB w b l) (i : Nat) (x : UInt8) : RowB (w.setCell ⟨b, i, none⟩ (.int .u8 (x.toNat : Int))) b (l.set i x) := by
  have := RowV.set h i (u8c x)
  unfold RowB
  rw [← List.map_set] at this
  exact this
theorem RowB.at {w : World} {b : Nat} {l : List UInt8} (h : RowB w b l) (o : Nat) (m : List UInt8) (hm : ∀ i (hi : i < m.length), l[o + i]? = some m[i]) : BAt w b o m := fun i hi => by
  have h1 := hm i hi
  obtain ⟨h2, h3⟩ := List.getElem?_eq_some_iff.1 h1
  rw [h.cell _ h2, h3]
theorem RowB.made (w : World) (n : Nat) : RowB (w.alloc (.cells (madeCells #[.int .u8 0] n) 5)) w.heap.size (List.replicate n 0) := by
  have e : madeCells #[Value.int .u8 0] n = ((List.replicate n (0 : UInt8)).map u8c).toArray := by
    apply Array.toList_inj.1
    rw [toList_madeCells_one]
    simp [u8c]
  rw [e]
  exact RowV.new _ _ _
theorem RowB.setCells {b : Nat} : ∀ (m : List UInt8) (o : Nat) (w : World) (l : List UInt8), RowB w b l → o + m.length ≤ l.length →
    RowB (w.setCells b o (m.map fun x => Value.int .u8 (x.toNat : Int))) b (l.take o ++ m ++ l.drop (o + m.length))
  | [], o, w, l, h, _ => by simpa [World.setCells] using h
  | x :: m, o, w, l, h, hl => by
    simp only [List.length_cons] at hl
    simp only [List.map_cons, World.setCells]
    have h2 := RowB.setCells m (o + 1) _ _ (h.set o x) (by simp; omega)
    refine cast (congrArg (RowB _ b) ?_) h2
    rw [List.drop_set_of_lt (by omega)]
    rw [List.take_add_one, List.take_set, List.getElem?_set_self (by omega)]
    rw [List.set_eq_of_length_le (by simp; omega)]
    simp only [List.length_cons, List.append_assoc, Option.toList, List.cons_append, List.nil_append]
    rw [show o + 1 + m.length = o + (m.length + 1) by omega]
theorem addr_add (b o j : Nat) : (Addr.mk b o none).add j = ⟨b, o + j, none⟩ := by
  unfold Addr.add
  by_cases h : j = 0
  · subst h; simp
  · simp [h]
/-- 'string(b)'. -/
theorem run_string_BAt {P : Program} (w : World) (src dst e : TypeId) (b o cap : Nat) (l : List UInt8) (hs : P.underlying src = some (.slice e)) (he : P.underlying e = some (.int .u8)) (hd : P.underlying dst = some .string)
    (hc : BAt w b o l) : (convert src dst (.slice (some ⟨b, o, none⟩) l.length cap)).run P w = .ok (.string ⟨l.toArray⟩) w :=
  run_convert_bytes_back w src dst e ⟨b, o, none⟩ cap l hs he hd (fun j hj => by rw [addr_add]; exact hc j hj)
theorem byteArray_toList (s : ByteArray) : (⟨s.data.toList.toArray⟩ : ByteArray) = s := by simp
theorem bcell {W w1 : World} (hb : Below W.heap.size W w1) : (∀ b o, b < W.heap.size → w1.cell? ⟨b, o, none⟩ = W.cell? ⟨b, o, none⟩) ∧ (∀ b o, b < W.heap.size → w1.frozen? ⟨b, o, none⟩ = W.frozen? ⟨b, o, none⟩) :=
  ⟨fun b o h => hb.cell (p := ⟨b, o, none⟩) h, fun b o h => hb.frozen (p := ⟨b, o, none⟩) h⟩
/-- The bytes of '[]byte(s)', in a world that only drew since. -/
theorem bytes_of_string (w : World) (s : ByteArray) (cap : Nat) (t : TypeId) (fr : Nat × Nat) : BAt (w.alloc (.cells (bytesRow s cap) t fr)) w.heap.size 0 s.data.toList := fun i hi => by
  rw [Nat.zero_add, World.cell?_alloc_mark, bytesRow_at s cap i (by simpa using hi)]
  simp
theorem below_setCells {B b : Nat} {a : World} (hb : B ≤ b) (vs : List Value) (o : Nat) (w : World) (h : Below B a w) : Below B a (w.setCells b o vs) := Go.below_setCells hb vs o w h
theorem size_setCells (b : Nat) : ∀ (vs : List Value) (o : Nat) (w : World), (w.setCells b o vs).heap.size = w.heap.size
  | [], _, _ => rfl
  | v :: r, o, w => by rw [World.setCells, size_setCells b r]; simp
end Go.Proofs.YtekegfbjbainhaaGreat
