/- The reference's store: what is there, in order; Put and Delete, walked. -/
import Derived.Test.YtekegfbjbainhaaGreatKLaws1
import Derived.Deep.DrawnRows
import Derived.Deep.QuietTactic
import Derived.BigQuiet
namespace Go.Proofs.YtekegfbjbainhaaGreat
set_option linter.unusedVariables false
set_option linter.unusedSimpArgs false
open Go.RowKit

theorem flat_length {α : Type} (f : α → List Value) (m : Nat) : ∀ (l : List α), (∀ x ∈ l, (f x).length = m) → (l.flatMap f).length = l.length * m
  | [], _ => by simp
  | x :: l, h => by
    have := flat_length f m l (fun y hy => h y (by simp [hy]))
    rw [List.flatMap_cons, List.length_append, this, h x (by simp), List.length_cons, Nat.add_mul]; omega
theorem flat_split {α : Type} (f : α → List Value) (l : List α) (k : Nat) : l.flatMap f = (l.take k).flatMap f ++ (l.drop k).flatMap f := by
  rw [← List.flatMap_append, List.take_append_drop]
theorem flat_take {α : Type} (f : α → List Value) (m : Nat) (l : List α) (h : ∀ x ∈ l, (f x).length = m) (k : Nat) (hk : k ≤ l.length) : (l.flatMap f).take (k * m) = (l.take k).flatMap f := by
  rw [flat_split f l k]
  have hl : ((l.take k).flatMap f).length = k * m := by rw [flat_length f m _ (fun x hx => h x (List.mem_of_mem_take hx)), List.length_take, Nat.min_eq_left hk]
  rw [← hl, List.take_left]
theorem flat_drop {α : Type} (f : α → List Value) (m : Nat) (l : List α) (h : ∀ x ∈ l, (f x).length = m) (k : Nat) (hk : k ≤ l.length) : (l.flatMap f).drop (k * m) = (l.drop k).flatMap f := by
  conv => lhs; rw [flat_split f l k]
  have hl : ((l.take k).flatMap f).length = k * m := by rw [flat_length f m _ (fun x hx => h x (List.mem_of_mem_take hx)), List.length_take, Nat.min_eq_left hk]
  rw [← hl, List.drop_left]
theorem flat_get {α : Type} (f : α → List Value) (m : Nat) (l : List α) (h : ∀ x ∈ l, (f x).length = m) (i : Nat) (hi : i < l.length) (j : Nat) (hj : j < m) : (l.flatMap f)[i * m + j]? = (f l[i])[j]? := by
  rw [← List.getElem?_drop, flat_drop f m l h i (by omega), List.drop_eq_getElem_cons hi, List.flatMap_cons, List.getElem?_append_left (by rw [h _ (List.getElem_mem hi)]; exact hj)]

/-- An entry of a page, as the reference has it. -/
structure ItR where
  key : List UInt8
  more : List UInt8
  below : Nat
def strV (l : List UInt8) : Value := .string ⟨l.toArray⟩
def itC (x : ItR) : List Value := [strV x.key, strV x.more, .int .i64 (x.below : Int)]
def itsC (l : List ItR) : List Value := l.flatMap itC
theorem itC_length (x : ItR) : (itC x).length = 3 := rfl
theorem itsC_length (l : List ItR) : (itsC l).length = l.length * 3 := flat_length itC 3 l (fun _ _ => rfl)
theorem ba_toList (l : List UInt8) : (ByteArray.mk l.toArray).toList = l := by rw [Lib.toList_data]
theorem ba_size (l : List UInt8) : (ByteArray.mk l.toArray).size = l.length := by simp [ByteArray.size]

/-- Entries in memory, as a slice. -/
def SlI (w : World) (a : Option Addr) (l : List ItR) : Prop := SlV w a (itsC l)
theorem SlV.at {w : World} {a : Option Addr} {cs : List Value} (h : SlV w a cs) {i : Nat} {v : Value} (hv : cs[i]? = some v) : ∃ b o, a = some ⟨b, o, none⟩ ∧ b < w.heap.size ∧ w.cell? ⟨b, o + i, none⟩ = some v := by
  obtain ⟨h1, h2⟩ := List.getElem?_eq_some_iff.1 hv
  obtain ⟨b, o, ha, hb, hc⟩ := h i h1
  exact ⟨b, o, ha, hb, by rw [hc, h2]⟩
theorem SlI.cells {w : World} {a : Option Addr} {l : List ItR} (h : SlI w a l) (i : Nat) (hi : i < l.length) : ∃ b o, a = some ⟨b, o, none⟩ ∧ b < w.heap.size ∧
    w.cell? ⟨b, o + i * 3, none⟩ = some (strV l[i].key) ∧ w.cell? ⟨b, o + i * 3 + 1, none⟩ = some (strV l[i].more) ∧ w.cell? ⟨b, o + i * 3 + 2, none⟩ = some (.int .i64 (l[i].below : Int)) := by
  have g := fun j (hj : j < 3) => flat_get itC 3 l (fun _ _ => rfl) i hi j hj
  obtain ⟨b, o, ha, hb, c0⟩ := SlV.at h (g 0 (by omega))
  obtain ⟨b1, o1, ha1, _, c1⟩ := SlV.at h (g 1 (by omega))
  obtain ⟨b2, o2, ha2, _, c2⟩ := SlV.at h (g 2 (by omega))
  rw [ha] at ha1 ha2
  cases ha1; cases ha2
  exact ⟨b, o, ha, hb, c0, by rw [Nat.add_assoc]; exact c1, by rw [Nat.add_assoc]; exact c2⟩

set_option maxRecDepth 100000 in
theorem keyFits_any (a : Option Addr) (n cap : Nat) (w : World) (hn : n ≤ maxLen) :
    Calls Tryz.prog 31 #[.slice a n cap] w fun e w' => e = .returned (.bool (decide (1 ≤ n) && decide (n ≤ 12))) ∧ w' = w := by
  unfold maxLen at hn
  by_cases h1 : 1 ≤ n
  · by_cases h2 : n ≤ 12
    · have h1' : (1 : Int) ≤ n := by omega
      have h2' : (n : Int) ≤ 12 := by omega
      go_enter Tryz.func31, Tryz.ntmps31
      go_wp2
      go_ret
      exact ⟨by simp [h1, h2], rfl⟩
    · have h1' : (1 : Int) ≤ n := by omega
      have h2' : ¬ (n : Int) ≤ 12 := by omega
      go_enter Tryz.func31, Tryz.ntmps31
      go_wp2
      go_ret
      exact ⟨by simp [h1, h2], rfl⟩
  · have h1' : ¬ (1 : Int) ≤ n := by omega
    go_enter Tryz.func31, Tryz.ntmps31
    go_wp2
    go_ret
    exact ⟨by simp [h1], rfl⟩

/-- Which entries stand ahead of a key; where it stands, or would; does it? -/
def lessK (key : List UInt8) (x : ItR) : Bool := Op.bytesLess x.key key
def placeN (l : List ItR) (key : List UInt8) : Nat := (l.takeWhile (lessK key)).length
def thereB (l : List ItR) (key : List UInt8) : Bool := ((l[placeN l key]?).map (fun x => x.key == key)).getD false

set_option maxRecDepth 100000 in
set_option maxHeartbeats 400000 in
theorem place_any (sb : Nat) (a : Option Addr) (cap : Nat) (l : List ItR) (key : List UInt8) (w : World) (hl : l.length ≤ 1000000) (h0 : w.cell? ⟨sb, 0, none⟩ = some (.slice a l.length cap)) (hs : SlI w a l) :
    Calls Tryz.prog 80 #[.pointer (some ⟨sb, 0, none⟩), strV key] w fun e w' => e = .returned (.tuple #[.int .i64 (placeN l key : Int), .bool (thereB l key)]) ∧ ∃ n, w' = w.drewN n := by
  unfold strV
  go_enter Tryz.func80, Tryz.ntmps80
  go_wp2
  go_loop [6] (fun i => ∃ k : Nat, k ≤ l.length ∧ i = .int .i64 k ∧ Hid (placeN l key = k + ((l.drop k).takeWhile (lessK key)).length)) (fun i => l.length - (intOf i).toNat)
  case atStart => exact ⟨0, by omega, rfl, by simp [Hid, placeN]⟩
  case round =>
    obtain ⟨k, hk, rfl, HP⟩ := hrel
    by_cases hlt : k < l.length
    · obtain ⟨b, o, rfl, hb, c0, _, _⟩ := hs.cells k hlt
      unfold strV at c0
      have HD : Hid (l.drop k = l[k] :: l.drop (k + 1)) := List.drop_eq_getElem_cons hlt
      have hltI : (k : Int) < l.length := by omega
      by_cases hless : lessK key l[k] = true
      · have hlb : Op.bytesLess l[k].key key = true := hless
        go_wp2
        go_round
        case rel => exact ⟨k + 1, by omega, by go_num, by
          have := HP.out
          rw [HD.out, List.takeWhile_cons, if_pos hless, List.length_cons] at this
          unfold Hid; omega⟩
        case measure => simp [intOf]; omega
      · have hlb : Op.bytesLess l[k].key key = false := by unfold lessK at hless; simpa using hless
        have HE : Hid (placeN l key = k) := by
          have := HP.out
          rw [HD.out, List.takeWhile_cons, if_neg hless] at this
          unfold Hid; simpa using this
        have HT : Hid (thereB l key = (l[k].key == key)) := by
          unfold Hid thereB
          rw [HE.out, List.getElem?_eq_getElem hlt]; rfl
        go_wp2
        go_quiet (fail)
        go_wp2
        go_ret2
        exact ⟨by rw [HE.out, HT.out]; rfl, _, rfl⟩
    · have HE : Hid (placeN l key = k) := by
          have := HP.out
          rw [List.drop_eq_nil_of_le (by omega)] at this
          unfold Hid; simpa using this
      have HT : Hid (thereB l key = false) := by
        unfold Hid thereB
        rw [HE.out, List.getElem?_eq_none (by omega)]; rfl
      have hltI : ¬ (k : Int) < l.length := by omega
      go_wp2
      go_quiet (fail)
      go_wp2
      go_ret2
      exact ⟨by rw [HE.out, HT.out]; rfl, _, rfl⟩

theorem placeN_le (l : List ItR) (key : List UInt8) : placeN l key ≤ l.length := (List.takeWhile_prefix _).length_le
theorem thereB_lt {l : List ItR} {key : List UInt8} (h : thereB l key = true) : placeN l key < l.length := by
  unfold thereB at h
  by_cases hlt : placeN l key < l.length
  · exact hlt
  · rw [List.getElem?_eq_none (by omega)] at h; simp at h

/-- What is there behind a Put, a Delete. -/
def putN (l : List ItR) (key value : List UInt8) : List ItR := l.take (placeN l key) ++ [⟨key, value, 0⟩] ++ l.drop (if thereB l key then placeN l key + 1 else placeN l key)
def delN (l : List ItR) (key : List UInt8) : List ItR := l.take (placeN l key) ++ l.drop (placeN l key + 1)

/-- Entries that the call itself has laid, as a slice. -/
def OwnI (w : World) (base : Nat) (v : Value) (l : List ItR) : Prop := w.ownsRow base 84 3 v l.length (itsC l)
theorem Tryz.infoItem : (Tryz.prog.info? 84).map (fun i => (i.zero, i.size, i.bytes)) = some (some (.agg #[.string ⟨#[]⟩, .string ⟨#[]⟩, .int .i64 0]), 3, 40) := by kernel_rfl
theorem itsC_one (l : List ItR) : ∀ u ∈ itsC l, u.oneCell' = true := fun u hu => by
  obtain ⟨x, _, hx⟩ := List.mem_flatMap.1 hu
  simp only [itC, strV, List.mem_cons, List.not_mem_nil, or_false] at hx
  rcases hx with rfl | rfl | rfl <;> rfl
theorem itsC_append (l m : List ItR) : itsC (l ++ m) = itsC l ++ itsC m := by simp [itsC]

/-- append(v, x...) of entries. -/
theorem wp_appendI {w : World} {ops : Array Oper} {rest : List Oper} {o : Oper} {a : Act} {Q : Exit → Act → World → Prop} (hgd : o.guard = none) (s x : Operand)
    (ho : o.op = .call { callee := .builtin .append, args := #[s, x], argTypes := #[78, 78] })
    (base : Nat) (v : Value) (l : List ItR) (hs : a.eval s = v) (hown : OwnI w base v l)
    (ax : Option Addr) (n c : Nat) (m : List ItR) (hx : a.eval x = .slice ax n c) (hn : n = m.length) (hm : SlI w ax m) (hnil : ax = none → n = 0 ∧ c = 0)
    (hlen : l.length + m.length ≤ 1000000) (hbase : base ≤ w.heap.size)
    (h : ∀ a' n' cap' w', OwnI w' base (.slice a' n' cap') (l ++ m) → Frame (fun k => v.ownBlock = some k) w w' → ((Value.slice a' n' cap').ownBlock = v.ownBlock ∨ (Value.slice a' n' cap').ownBlock = some w.heap.size) → wpList Tryz.prog ops Q rest (a.put o.dst (.slice a' n' cap')) w') :
    wpList Tryz.prog ops Q (o :: rest) a w := by
  subst hn
  refine wp_appendV hgd s x 78 ho base 84 _ 3 40 Tryz.underlying78 Tryz.infoItem rfl (by decide) v l.length (itsC l) hs hown ax m.length c (itsC m) hx (itsC_length m) hm hnil (itsC_one m) (by unfold maxLen; omega) (by omega) hbase ?_
  intro v' w' ho' hf hat
  rw [← itsC_append] at ho'
  obtain ⟨a', cap', rfl, _⟩ := owns_form ho'
  refine h a' _ cap' w' ?_ hf hat
  unfold OwnI
  rw [List.length_append]
  exact ho'
/-- .. at the operation itself, of entries of whatever width. -/
theorem op_appendV {P : Program} {w : World} {o : Oper} {a : Act} {K : Act → World → Prop} {Q : Exit → Act → World → Prop} (s x : Operand) (t : TypeId)
    (ho : o.op = .call { callee := .builtin .append, args := #[s, x], argTypes := #[t, t] })
    (base : Nat) (e : TypeId) (z : Value) (size bytes : Nat) (ht : P.underlying t = some (.slice e)) (hi : (P.info? e).map (fun i => (i.zero, i.size, i.bytes)) = some (some z, size, bytes)) (hzs : z.cells.size = size) (hsz : 0 < size)
    (v : Value) (n : Nat) (xs : List Value) (hs : a.eval s = v) (hown : w.ownsRow base e size v n xs)
    (ad : Addr) (m c : Nat) (news : List Value) (hx : a.eval x = .slice (some ad) m c) (hl : news.length = m * size) (hnews : SlV w (some ad) news) (h1 : ∀ u ∈ news, u.oneCell' = true)
    (h63 : n + m ≤ maxLen) (hbytes : (n + m) * bytes ≤ 140737488355328) (hbase : base ≤ w.heap.size)
    (h : ∀ v' w', w'.ownsRow base e size v' (n + m) (xs ++ news) → Frame (fun k => v.ownBlock = some k) w w' → (v'.ownBlock = v.ownBlock ∨ v'.ownBlock = some w.heap.size) → K (a.put o.dst v') w') : o.wp P a w K Q := by
  obtain ⟨i, hi0, hz, hsize, hby⟩ := info_parts hi
  obtain ⟨v', w', hr, h2, h3, _, h5⟩ := run_append_own_at (P := P) w base t o.type e i z size bytes ht hi0 hz hsize hby hzs hsz v n xs hown ad m c news hl (fun j u hj => by
    obtain ⟨hj1, hj2⟩ := List.getElem?_eq_some_iff.1 hj
    obtain ⟨b, k, ha, _, hc⟩ := hnews j hj1
    cases ha
    rw [addr_add, hc, hj2]) h1 h63 hbytes hbase
  unfold Oper.wp execOp
  simp only [ho, resolve, invoke, builtin, Sem.run_bind, Sem.run_pure, Result.andThen_ok, List.map_toArray, List.map_cons, List.map_nil, hs, hx, hr]
  exact h v' w' h2 (Frame.of_grown h3) h5

/-- append(v, x) of one entry, as a step of a region that draws its order. -/
theorem step_appendI {ops : Array Oper} {w : World} {o : Oper} {a : Act} {K : Act → World → Prop} {Q : Exit → Act → World → Prop} {E : Prop} (hgd : o.guard = none) (s x : Operand)
    (ho : o.op = .call { callee := .builtin .append, args := #[s, x], argTypes := #[78, 78] })
    (base : Nat) (v : Value) (l : List ItR) (hs : a.eval s = v) (hown : OwnI w base v l) (ad : Addr) (n c : Nat) (m : List ItR) (hx : a.eval x = .slice (some ad) n c) (hn : n = m.length) (hm : SlI w (some ad) m)
    (hlen : l.length + m.length ≤ 1000000) (hbase : base ≤ w.heap.size)
    (h : ∀ a' n' cap' w', OwnI w' base (.slice a' n' cap') (l ++ m) → Frame (fun k => v.ownBlock = some k) w w' → ((Value.slice a' n' cap').ownBlock = v.ownBlock ∨ (Value.slice a' n' cap').ownBlock = some w.heap.size) → K (a.put o.dst (.slice a' n' cap')) w') :
    if Region.wanted o (yielded ops a.tmps) = true then Oper.wp Tryz.prog o a w K Q else E := by
  have hw : Region.wanted o (yielded ops a.tmps) = true := by simp [Region.wanted, hgd]
  rw [if_pos hw]
  subst hn
  refine op_appendV s x 78 ho base 84 _ 3 40 Tryz.underlying78 Tryz.infoItem rfl (by decide) v l.length (itsC l) hs hown ad m.length c (itsC m) hx (itsC_length m) hm (itsC_one m) (by unfold maxLen; omega) (by omega) hbase ?_
  intro v' w' ho' hf hat
  rw [← itsC_append] at ho'
  obtain ⟨a', cap', rfl, _⟩ := owns_form ho'
  refine h a' _ cap' w' ?_ hf hat
  unfold OwnI
  rw [List.length_append]
  exact ho'
theorem SlI.take {w : World} {a : Option Addr} {l : List ItR} (h : SlI w a l) (k : Nat) (hk : k ≤ l.length) : SlI w a (l.take k) := by
  intro i hi
  have e := flat_take itC 3 l (fun _ _ => rfl) k hk
  have hv : (itsC l)[i]? = some ((itsC (l.take k))[i]) := by
    have h1 : (itsC (l.take k))[i]? = ((itsC l).take (k * 3))[i]? := by unfold itsC; rw [e]
    have hlt : i < k * 3 := by
      have := itsC_length (l.take k)
      rw [List.length_take, Nat.min_eq_left hk] at this; omega
    rw [List.getElem?_take_of_lt hlt] at h1
    rw [← h1]; exact List.getElem?_eq_getElem hi
  exact SlV.at h hv
theorem SlI.drop {w : World} {b o : Nat} {l : List ItR} (h : SlI w (some ⟨b, o, none⟩) l) (k : Nat) (hk : k ≤ l.length) : SlI w (some ⟨b, o + k * 3, none⟩) (l.drop k) := by
  intro i hi
  have e := flat_drop itC 3 l (fun _ _ => rfl) k hk
  have hv : (itsC l)[k * 3 + i]? = some ((itsC (l.drop k))[i]) := by
    rw [← List.getElem?_drop]
    unfold itsC at hi ⊢
    rw [e]; exact List.getElem?_eq_getElem hi
  obtain ⟨b', o', ha, hb, hc⟩ := SlV.at h hv
  cases ha
  exact ⟨b, o + k * 3, rfl, hb, by rw [Nat.add_assoc]; exact hc⟩
end Go.Proofs.YtekegfbjbainhaaGreat
