/- Laws for the walks: slices of whatever cells, and append onto a row that the call made. -/
import Derived.Test.YtekegfbjbainhaaGreatKJoin1
import Derived.Maps.AppendAt
import Derived.Laws.AppendOwnNone
import Derived.Deep.MidRow
import Derived.Lib.AppendStr
namespace Go.Proofs.YtekegfbjbainhaaGreat
set_option linter.unusedVariables false
set_option linter.unusedSimpArgs false
open Go.RowKit

/-- The cells of a slice whose array begins at a (nil, or empty, or not). -/
def SlV (w : World) (a : Option Addr) (cs : List Value) : Prop := ∀ i (h : i < cs.length), ∃ b o, a = some ⟨b, o, none⟩ ∧ b < w.heap.size ∧ w.cell? ⟨b, o + i, none⟩ = some cs[i]

theorem SlV.nil (w : World) (a : Option Addr) : SlV w a [] := fun i h => absurd h (Nat.not_lt_zero _)
theorem SlV.of_block {w w' : World} {a : Option Addr} {cs : List Value} (h : SlV w a cs) (hz : w.heap.size ≤ w'.heap.size) (hb : ∀ x, a = some x → x.block < w.heap.size → w'.heap[x.block]? = w.heap[x.block]?) : SlV w' a cs := fun i hi => by
  obtain ⟨b, o, ha, hlt, hc⟩ := h i hi
  refine ⟨b, o, ha, Nat.lt_of_lt_of_le hlt hz, ?_⟩
  have h1 := hb ⟨b, o, none⟩ ha hlt
  rw [World.cell?_of_block (w := w) (w' := w') (a := ⟨b, o + i, none⟩) h1]
  exact hc
theorem SlV.below {w w' : World} {a : Option Addr} {B : Nat} {cs : List Value} (h : SlV w a cs) (hw : Below B w w') (hB : ∀ x, a = some x → x.block < B) : SlV w' a cs :=
  h.of_block hw.size (fun x hx _ => hw.block _ (hB x hx))
theorem SlV.below_all {w w' : World} {a : Option Addr} {cs : List Value} (h : SlV w a cs) (hw : Below w.heap.size w w') : SlV w' a cs :=
  h.of_block hw.size (fun x hx hlt => hw.block _ hlt)
theorem SlV.frame {w w' : World} {S : Nat → Prop} {a : Option Addr} {cs : List Value} (h : SlV w a cs) (hw : Frame S w w') (hS : ∀ x, a = some x → ¬ S x.block) : SlV w' a cs :=
  h.of_block hw.size (fun x hx hlt => hw.block _ hlt (hS x hx))
theorem SlB.toV {w : World} {a : Option Addr} {l : List UInt8} (h : SlB w a l) : SlV w a (l.map u8c) := fun i hi => by
  obtain ⟨b, o, ha, hb, hc⟩ := h i (by simpa using hi)
  exact ⟨b, o, ha, hb, by simpa [u8c] using hc⟩
theorem SlV.toB {w : World} {a : Option Addr} {l : List UInt8} (h : SlV w a (l.map u8c)) : SlB w a l := fun i hi => by
  obtain ⟨b, o, ha, hb, hc⟩ := h i (by simpa using hi)
  exact ⟨b, o, ha, hb, by simpa [u8c] using hc⟩

theorem SlB.frame {w w' : World} {S : Nat → Prop} {a : Option Addr} {l : List UInt8} (h : SlB w a l) (hw : Frame S w w') (hS : ∀ x, a = some x → ¬ S x.block) : SlB w' a l := (h.toV.frame hw hS).toB

theorem SlV.alloc_new (w : World) (cs : List Value) (t : TypeId) : SlV (w.alloc (.cells cs.toArray t)) (some ⟨w.heap.size, 0, none⟩) cs := fun i hi => ⟨w.heap.size, 0, rfl, by simp, by rw [Nat.zero_add, World.cell?_alloc_new]; simp [hi]⟩

/-- A row of bytes, whatever its type's number: its bytes as a slice. -/
theorem SlB.of_row {w : World} {b t : Nat} {l : List UInt8} (h : RowV w b t (l.map u8c)) : SlB w (some ⟨b, 0, none⟩) l :=
  SlB.mk h.lt (fun i hi => by
    rw [Nat.zero_add, h.cell i (by simpa using hi)]
    simp [u8c])

theorem RowV.new_at (w : World) (t g : Nat) (l : List Value) (hg : g = w.heap.size) : RowV (w.alloc (.cells l.toArray t)) g t l := by
  subst hg; exact RowV.new w t l
theorem RowV.there {w : World} {b t : Nat} {l : List Value} (h : RowV w b t l) (n : Nat) (hn : n = l.length) : w.there b 0 n := fun j hj => by
  rw [Nat.zero_add]
  exact ⟨by rw [h.cell j (by omega)]; rfl, h.frozen j⟩
theorem RowV.range {w : World} {b t : Nat} {l : List Value} (h : RowV w b t l) : w.rangeAt b 0 l := fun j v hv => by
  rw [Nat.zero_add, h.cell? j]; exact hv
theorem RowV.setCells {b t : Nat} : ∀ (vs : List Value) (o : Nat) (w : World) (l : List Value), RowV w b t l → o + vs.length ≤ l.length → RowV (w.setCells b o vs) b t (l.take o ++ vs ++ l.drop (o + vs.length))
  | [], o, w, l, h, _ => by simpa [World.setCells] using h
  | x :: m, o, w, l, h, hl => by
    simp only [List.length_cons] at hl
    simp only [World.setCells]
    have h2 := RowV.setCells m (o + 1) _ _ (h.set o x) (by simp; omega)
    refine cast (congrArg (RowV _ b t) ?_) h2
    rw [List.drop_set_of_lt (by omega)]
    rw [List.take_add_one, List.take_set, List.getElem?_set_self (by omega)]
    rw [List.set_eq_of_length_le (by simp; omega)]
    simp only [List.length_cons, List.append_assoc, Option.toList, List.cons_append, List.nil_append]
    rw [show o + 1 + m.length = o + (m.length + 1) by omega]
theorem RowV.setAll {b t : Nat} {w : World} {l : List Value} (h : RowV w b t l) (vs : List Value) (hl : vs.length = l.length) : RowV (w.setCells b 0 vs) b t vs := by
  have h2 := RowV.setCells vs 0 w l h (by omega)
  refine cast (congrArg (RowV _ b t) ?_) h2
  simp [hl]
theorem Frame.setCells {S : Nat → Prop} {b : Nat} {a : World} (hb : S b) : ∀ (vs : List Value) (o : Nat) (w : World), Frame S a w → Frame S a (w.setCells b o vs)
  | [], _, _, h => h
  | v :: r, o, w, h => Frame.setCells hb r (o + 1) _ (h.setCell (by exact hb) v)

/-- What an owned row's value looks like, and its cells. -/
theorem owns_form {w : World} {base e size n : Nat} {v : Value} {xs : List Value} (h : w.ownsRow base e size v n xs) :
    ∃ a cap, v = .slice a n cap ∧ SlV w a xs ∧ (a = none → cap = 0 ∧ n = 0) ∧ (∀ x, a = some x → x.off = 0 ∧ x.spot = none ∧ base ≤ x.block ∧ x.block < w.heap.size) ∧ (∀ k, v.ownBlock = some k ↔ a = some ⟨k, 0, none⟩) := by
  rcases h.2 with ⟨rfl, rfl⟩ | ⟨g, cap, cur, rfl, hg, hb, hc, hm, hs, ht⟩
  · have : xs = [] := List.eq_nil_of_length_eq_zero (by simpa using h.1)
    subst this
    exact ⟨none, 0, rfl, SlV.nil _ _, fun _ => ⟨rfl, rfl⟩, (fun x hx => by cases hx), (fun k => by simp [Value.ownBlock])⟩
  · have hlt := (Array.getElem?_eq_some_iff.1 hb).1
    refine ⟨_, _, rfl, (fun i hi => ⟨g, 0, rfl, hlt, ?_⟩), (fun hx => by cases hx), (fun x hx => by cases hx; exact ⟨rfl, rfl, hg, hlt⟩), (fun k => by simp [Value.ownBlock])⟩
    rw [Nat.zero_add]
    have h1 : cur.toList[i]? = some xs[i] := by
      have h2 : (cur.toList.take (n * size))[i]? = xs[i]? := by rw [ht]
      rw [List.getElem?_take_of_lt (by rw [← h.1]; exact hi)] at h2
      rw [h2]; simp [hi]
    unfold World.cell?
    simp only [hb]
    simpa using h1

theorem owns_cap {w : World} {base e size n : Nat} {a : Option Addr} {n' cap : Nat} {xs : List Value} (h : w.ownsRow base e size (.slice a n' cap) n xs) : n' = n ∧ n ≤ cap ∧ cap ≤ maxLen ∧ (a = none ∧ n = 0 ∧ cap = 0 ∨ ∃ g, a = some ⟨g, 0, none⟩ ∧ base ≤ g ∧ g < w.heap.size) := by
  rcases h.2 with ⟨hv, rfl⟩ | ⟨g, cap', cur, hv, hg, hb, hc, hm, hs, ht⟩
  · cases hv; exact ⟨rfl, Nat.le_refl _, by simp [maxLen], Or.inl ⟨rfl, rfl, rfl⟩⟩
  · cases hv; exact ⟨rfl, hc, hm, Or.inr ⟨g, rfl, hg, (Array.getElem?_eq_some_iff.1 hb).1⟩⟩

theorem owns_built (w : World) (base e size n : Nat) (cs : List Value) (hb : base ≤ w.heap.size) (hl : cs.length = n * size) (hn : n ≤ maxLen) :
    (w.alloc (.cells cs.toArray e)).ownsRow base e size (.slice (some ⟨w.heap.size, 0, none⟩) n n) n cs := by
  refine ⟨hl, Or.inr ⟨w.heap.size, n, cs.toArray, rfl, hb, ?_, Nat.le_refl _, hn, by simp [hl], by simp [← hl]⟩⟩
  show (w.heap.push _)[w.heap.size]? = _
  simp

theorem owns_frame {w w' : World} {S : Nat → Prop} {base e size n : Nat} {v : Value} {xs : List Value} (h : w.ownsRow base e size v n xs) (hw : Frame S w w') (hS : ∀ k, v.ownBlock = some k → ¬ S k) : w'.ownsRow base e size v n xs := by
  refine ⟨h.1, ?_⟩
  rcases h.2 with hn | ⟨g, cap, cur, rfl, hg, hb, rest⟩
  · exact Or.inl hn
  · exact Or.inr ⟨g, cap, cur, rfl, hg, by rw [hw.block g (Array.getElem?_eq_some_iff.1 hb).1 (hS g rfl)]; exact hb, rest⟩
theorem owns_below {w w' : World} {base e size n : Nat} {v : Value} {xs : List Value} (h : w.ownsRow base e size v n xs) (hw : Below w.heap.size w w') : w'.ownsRow base e size v n xs :=
  owns_frame h (Frame.of_below_all (S := fun _ => False) hw) (fun _ _ x => x)
theorem owns_base {w : World} {base base' e size n : Nat} {v : Value} {xs : List Value} (h : w.ownsRow base e size v n xs) (hb : ∀ k, v.ownBlock = some k → base' ≤ k) : w.ownsRow base' e size v n xs := by
  refine ⟨h.1, ?_⟩
  rcases h.2 with hn | ⟨g, cap, cur, rfl, hg, rest⟩
  · exact Or.inl hn
  · exact Or.inr ⟨g, cap, cur, rfl, hb g rfl, rest⟩

theorem below_drewN {B m : Nat} {w w' : World} (h : Below B (w.drewN m) w') : Below B w w' := ⟨h.os, h.tape, h.output, h.size, h.block⟩
theorem frame_drewN {S : Nat → Prop} {m : Nat} {w w' : World} (h : Frame S (w.drewN m) w') : Frame S w w' := ⟨h.os, h.tape, h.output, h.size, h.block⟩
theorem Frame.of_grown {w w' : World} {row : Option Nat} (h : w.grownBy w' row) : Frame (fun k => row = some k) w w' :=
  ⟨h.os, h.tape, h.output, h.size, fun k hk hn => h.block k hk (fun e => hn e.symm)⟩

/-- append(v, x...): v the call's own, x whatever, nil too. -/
theorem wp_appendV {P : Program} {w : World} {ops : Array Oper} {rest : List Oper} {o : Oper} {a : Act} {Q : Exit → Act → World → Prop} (hgd : o.guard = none) (s x : Operand) (t : TypeId)
    (ho : o.op = .call { callee := .builtin .append, args := #[s, x], argTypes := #[t, t] })
    (base : Nat) (e : TypeId) (z : Value) (size bytes : Nat) (ht : P.underlying t = some (.slice e)) (hi : (P.info? e).map (fun i => (i.zero, i.size, i.bytes)) = some (some z, size, bytes)) (hzs : z.cells.size = size) (hsz : 0 < size)
    (v : Value) (n : Nat) (xs : List Value) (hs : a.eval s = v) (hown : w.ownsRow base e size v n xs)
    (ax : Option Addr) (m c : Nat) (news : List Value) (hx : a.eval x = .slice ax m c) (hl : news.length = m * size) (hnews : SlV w ax news) (hnil : ax = none → m = 0 ∧ c = 0) (h1 : ∀ u ∈ news, u.oneCell' = true)
    (h63 : n + m ≤ maxLen) (hbytes : (n + m) * bytes ≤ 140737488355328) (hbase : base ≤ w.heap.size)
    (h : ∀ v' w', w'.ownsRow base e size v' (n + m) (xs ++ news) → Frame (fun k => v.ownBlock = some k) w w' → (v'.ownBlock = v.ownBlock ∨ v'.ownBlock = some w.heap.size) → wpList P ops Q rest (a.put o.dst v') w') :
    wpList P ops Q (o :: rest) a w := by
  obtain ⟨i, hi0, hz, hsize, hby⟩ := info_parts hi
  cases ax with
  | none =>
    obtain ⟨rfl, rfl⟩ := hnil rfl
    have hn : news = [] := List.eq_nil_of_length_eq_zero (by simpa using hl)
    subst hn
    refine wpList_append_own_none hgd s x t ho base e i size ht hi0 v n xs hs hown hx ?_
    refine h v w ?_ (Frame.refl _ _) (Or.inl rfl)
    simpa using hown
  | some ad =>
    refine wpList_append_own_at w hgd s x t ho base e i z size bytes ht hi0 hz hsize hby hzs hsz v n xs hs hown ad m c news hx hl (fun j u hj => ?_) h1 h63 hbytes hbase ?_
    · obtain ⟨hj1, hj2⟩ := List.getElem?_eq_some_iff.1 hj
      obtain ⟨b, k, ha, _, hc⟩ := hnews j hj1
      cases ha
      rw [addr_add, hc, hj2]
    · intro v' w' ho' hg _ hat
      exact h v' w' ho' (Frame.of_grown hg) hat

/-- A slice of bytes that the call itself made. -/
def OwnB (w : World) (base : Nat) (v : Value) (l : List UInt8) : Prop := w.ownsRow base 5 1 v l.length (l.map u8c)
theorem u8c_one (l : List UInt8) : ∀ u ∈ l.map u8c, u.oneCell' = true := fun u hu => by
  obtain ⟨x, _, rfl⟩ := List.mem_map.1 hu
  rfl
theorem OwnB.built (w : World) (base : Nat) (l : List UInt8) (hb : base ≤ w.heap.size) (hl : l.length ≤ maxLen) : OwnB (w.alloc (.cells (l.map u8c).toArray 5)) base (.slice (some ⟨w.heap.size, 0, none⟩) l.length l.length) l :=
  owns_built w base _ 1 l.length (l.map u8c) hb (by simp) hl
theorem OwnB.sl {w : World} {base : Nat} {a : Option Addr} {n cap : Nat} {l : List UInt8} (h : OwnB w base (.slice a n cap) l) : SlB w a l ∧ n = l.length ∧ (a = none → cap = 0) := by
  obtain ⟨a', cap', hv, hs, hn, _⟩ := owns_form h
  cases hv
  exact ⟨hs.toB, rfl, fun h => (hn h).1⟩

/-- append(v, x...) of bytes. -/
theorem wp_appendB {w : World} {ops : Array Oper} {rest : List Oper} {o : Oper} {a : Act} {Q : Exit → Act → World → Prop} (hgd : o.guard = none) (s x : Operand)
    (ho : o.op = .call { callee := .builtin .append, args := #[s, x], argTypes := #[38, 38] })
    (base : Nat) (v : Value) (l : List UInt8) (hs : a.eval s = v) (hown : OwnB w base v l)
    (ax : Option Addr) (n c : Nat) (m : List UInt8) (hx : a.eval x = .slice ax n c) (hn : n = m.length) (hm : SlB w ax m) (hnil : ax = none → c = 0)
    (hlen : l.length + m.length ≤ 140737488355328) (hbase : base ≤ w.heap.size)
    (h : ∀ a' n' cap' w', n' = l.length + m.length → OwnB w' base (.slice a' n' cap') (l ++ m) → SlB w' a' (l ++ m) → Frame (fun k => v.ownBlock = some k) w w' → ((Value.slice a' n' cap').ownBlock = v.ownBlock ∨ (Value.slice a' n' cap').ownBlock = some w.heap.size) → wpList Tryz.prog ops Q rest (a.put o.dst (.slice a' n' cap')) w') :
    wpList Tryz.prog ops Q (o :: rest) a w := by
  subst hn
  refine wp_appendV hgd s x 38 ho base 5 (.int .u8 0) 1 1 Tryz.underlying38 Tryz.infoU8 rfl (by decide) v l.length (l.map u8c) hs hown ax m.length c (m.map u8c) hx (by simp) hm.toV ?_ (u8c_one m) (by unfold maxLen; omega) (by omega) hbase ?_
  · intro ha
    refine ⟨?_, hnil ha⟩
    cases m with
    | nil => rfl
    | cons y r =>
      obtain ⟨b, k, hb, _⟩ := hm 0 (by simp)
      rw [ha] at hb; cases hb
  · intro v' w' ho' hf hat
    obtain ⟨a', cap', rfl, hs', _⟩ := owns_form ho'
    rw [← List.map_append] at ho' hs'
    refine h a' _ cap' w' rfl ?_ hs'.toB hf hat
    unfold OwnB
    rw [List.length_append]
    exact ho'

/-- append(v, s...), s a text. -/
theorem wp_appendS {w : World} {ops : Array Oper} {rest : List Oper} {o : Oper} {a : Act} {Q : Exit → Act → World → Prop} (hgd : o.guard = none) (s x : Operand)
    (ho : o.op = .call { callee := .builtin .append, args := #[s, x], argTypes := #[38, 9] })
    (base : Nat) (v : Value) (l : List UInt8) (hs : a.eval s = v) (hown : OwnB w base v l) (m : List UInt8) (hx : a.eval x = .string ⟨m.toArray⟩)
    (hlen : l.length + m.length ≤ 140737488355328) (hbase : base ≤ w.heap.size)
    (h : ∀ a' n' cap' w', OwnB w' base (.slice a' n' cap') (l ++ m) → SlB w' a' (l ++ m) → Frame (fun k => v.ownBlock = some k) w w' → wpList Tryz.prog ops Q rest (a.put o.dst (.slice a' n' cap')) w') :
    wpList Tryz.prog ops Q (o :: rest) a w := by
  obtain ⟨i, hi0, hz, hsize, hby⟩ := info_parts Tryz.infoU8
  have hsz : (ByteArray.mk m.toArray).size = m.length := by simp [ByteArray.size]
  have hsc : Lib.strCells ⟨m.toArray⟩ = m.map u8c := by unfold Lib.strCells; simp [u8c]
  refine Lib.wpList_append_own_string w hgd s x 38 9 ho base 5 i Tryz.underlying38 Tryz.underlying9 hi0 hz hsize hby v l.length (l.map u8c) hs hown ⟨m.toArray⟩ hx (by unfold maxLen; omega) (by omega) hbase ?_
  intro v' w' ho' hg _
  rw [hsc, hsz, ← List.map_append] at ho'
  obtain ⟨a', cap', rfl, hs', _⟩ := owns_form ho'
  refine h a' _ cap' w' ?_ hs'.toB (Frame.of_grown hg)
  unfold OwnB
  rw [List.length_append]
  exact ho'

/-- Rows of unlike element types are not one. -/
theorem owns_ne {w : World} {base e size n b t : Nat} {v : Value} {xs l : List Value} (h : w.ownsRow base e size v n xs) (hr : RowV w b t l) (hne : e ≠ t) : v.ownBlock ≠ some b := by
  intro hv
  rcases h.2 with ⟨rfl, _⟩ | ⟨g, cap, cur, rfl, hg, hb, _⟩
  · simp [Value.ownBlock] at hv
  · simp [Value.ownBlock] at hv
    subst hv
    unfold RowV at hr
    rw [hb] at hr
    simp at hr
    exact hne hr.2

/-- A digest as a value. -/
def dV (d : List UInt8) : Value := .agg (d.map u8c).toArray
theorem digV_eq (l : List UInt8) : digV l = dV (digB l) := rfl
theorem Tryz.infoDig : (Tryz.prog.info? 36).map (·.size) = some 8 := by kernel_rfl

/-- A digest stored into a row of eight. -/
theorem wp_storeD {ops : Array Oper} {rest : List Oper} {o : Oper} {a : Act} {w : World} {Q : Exit → Act → World → Prop} (hgd : o.guard = none) (x y : Operand) (ho : o.op = .store 36 x y)
    (b : Nat) (hx : a.eval x = .pointer (some ⟨b, 0, none⟩)) (d : List UInt8) (hd : d.length = 8) (hy : a.eval y = dV d) {l : List Value} (hR : RowV w b 36 l) (hl : l.length = 8)
    (h : ∀ w', RowV w' b 36 (d.map u8c) → Frame (fun k => k = b) w w' → w'.heap.size = w.heap.size → wpList Tryz.prog ops Q rest (a.put o.dst undef) w') : wpList Tryz.prog ops Q (o :: rest) a w := by
  refine wpList_store_mid hgd 36 x y ho b 0 (d.map u8c).toArray hx hy (by simpa [hd] using hR.there 8 hl.symm) (by simpa [hd] using Tryz.infoDig) (all_oneCell_toArray (u8c_one d)) ?_
  exact h _ (hR.setAll _ (by simp [hd, hl])) (Frame.setCells (S := fun k => k = b) rfl _ _ _ (Frame.refl _ _)) (size_setCells _ _ _ _)

/-- The end of a function whose one result is a digest that lies in a row. -/
theorem ret_dig {fn : Func} {R : Ending → World → Prop} {a : Act} {w : World} {k b : Nat} {d : List UInt8} (hf : fn.results = #[ResultVar.cell k 36]) (ha : a.tmps.getD k undef = .pointer (some ⟨b, 0, none⟩))
    (hR : RowV w b 36 (d.map u8c)) (hd : d.length = 8) (hdf : a.defers = []) (h : R (.returned (dV d)) w) : bodyPost Tryz.prog fn R .ret a w := by
  refine bodyPost_ret (v := dV d) ?_ hdf h
  have hl := run_loadVar_mid (P := Tryz.prog) w b 0 36 (d.map u8c) _ hR.range Tryz.underlying36 rfl (by simpa [hd] using Tryz.infoDig)
  have ha' : a.tmps[k]?.getD undef = .pointer (some ⟨b, 0, none⟩) := by rw [← ha]; simp [Array.getD_eq_getD_getElem?]
  unfold results
  rw [hf]
  simp [ha', hl, dV, asAddr]
/-- The end of a function whose one result is a struct or an array that lies in a row. -/
theorem ret_agg {fn : Func} {R : Ending → World → Prop} {a : Act} {w : World} {k b T : Nat} {cs : List Value} {d : TypeDesc} (hf : fn.results = #[ResultVar.cell k T]) (ha : a.tmps.getD k undef = .pointer (some ⟨b, 0, none⟩))
    (hR : RowV w b T cs) (hu : Tryz.prog.underlying T = some d) (hd : d.isRow = true) (hi : (Tryz.prog.info? T).map (·.size) = some cs.length) (hdf : a.defers = []) (h : R (.returned (.agg cs.toArray)) w) : bodyPost Tryz.prog fn R .ret a w := by
  refine bodyPost_ret (v := .agg cs.toArray) ?_ hdf h
  have hl := run_loadVar_mid (P := Tryz.prog) w b 0 T cs d hR.range hu hd hi
  have ha' : a.tmps[k]?.getD undef = .pointer (some ⟨b, 0, none⟩) := by rw [← ha]; simp [Array.getD_eq_getD_getElem?]
  unfold results
  rw [hf]
  simp [ha', hl, asAddr]
end Go.Proofs.YtekegfbjbainhaaGreat
