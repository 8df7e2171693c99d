import Derived.Test.YtekegfbjbainhaaGreatKJoin1
import Derived.Deep.DrawnRows
import Derived.Deep.QuietTactic
import Derived.BigQuiet
import Derived.Test.YtekegfbjbainhaaGreatRows
set_option linter.unusedVariables false
set_option linter.unusedSimpArgs false

namespace Go.Proofs.YtekegfbjbainhaaGreat
open Go.RowKit
theorem flat_length {α : Type} (f : α → List Value) (m : Nat) : ∀ (l : List α), (∀ x ∈ l, (f x).length = m) → (l.flatMap f).length = l.length * m
 | [], _ => by simp
 | x :: l, h => by
  have := flat_length f m l (fun y hy => h y (by simp [hy]))
  rw [List.flatMap_cons, List.length_append, this, h x (by simp), List.length_cons, Nat.add_mul]; omega
theorem flat_split {α : Type} (f : α → List Value) (l : List α) (k : Nat) : l.flatMap f = (l.take k).flatMap f ++ (l.drop k).flatMap f := by
 rw [← List.flatMap_append, List.take_append_drop]
theorem flat_take {α : Type} (f : α → List Value) (m : Nat) (l : List α) (h : ∀ x ∈ l, (f x).length = m) (k : Nat) (hk : k ≤ l.length) : (l.flatMap f).take (k * m) = (l.take k).flatMap f := by
 rw [flat_split f l k]
 have hl : ((l.take k).flatMap f).length = k * m := by rw [flat_length f m _ (fun x hx => h x (List.mem_of_mem_take hx)), List.length_take, Nat.min_eq_left hk]
 rw [← hl, List.take_left]
theorem flat_drop {α : Type} (f : α → List Value) (m : Nat) (l : List α) (h : ∀ x ∈ l, (f x).length = m) (k : Nat) (hk : k ≤ l.length) : (l.flatMap f).drop (k * m) = (l.drop k).flatMap f := by
 conv => lhs; rw [flat_split f l k]
 have hl : ((l.take k).flatMap f).length = k * m := by rw [flat_length f m _ (fun x hx => h x (List.mem_of_mem_take hx)), List.length_take, Nat.min_eq_left hk]
 rw [← hl, List.drop_left]
theorem flat_get {α : Type} (f : α → List Value) (m : Nat) (l : List α) (h : ∀ x ∈ l, (f x).length = m) (i : Nat) (hi : i < l.length) (j : Nat) (hj : j < m) : (l.flatMap f)[i * m + j]? = (f l[i])[j]? := by
 rw [← List.getElem?_drop, flat_drop f m l h i (by omega), List.drop_eq_getElem_cons hi, List.flatMap_cons, List.getElem?_append_left (by rw [h _ (List.getElem_mem hi)]; exact hj)]
structure ItR where
 key : List UInt8
 more : List UInt8
 below : Nat
def strV (l : List UInt8) : Value := .string ⟨l.toArray⟩
def itC (x : ItR) : List Value := [strV x.key, strV x.more, .int .i64 (x.below : Int)]
def itsC (l : List ItR) : List Value := l.flatMap itC
theorem itsC_length (l : List ItR) : (itsC l).length = l.length * 3 := flat_length itC 3 l (fun _ _ => rfl)
def SlI (w : World) (a : Option Addr) (l : List ItR) : Prop := SlV w a (itsC l)
theorem SlV.at {w : World} {a : Option Addr} {cs : List Value} (h : SlV w a cs) {i : Nat} {v : Value} (hv : cs[i]? = some v) : ∃ b o, a = some ⟨b, o, none⟩ ∧ b < w.heap.size ∧ w.cell? ⟨b, o + i, none⟩ = some v := by
 obtain ⟨h1, h2⟩ := List.getElem?_eq_some_iff.1 hv
 obtain ⟨b, o, ha, hb, hc⟩ := h i h1
 exact ⟨b, o, ha, hb, by rw [hc, h2]⟩
theorem SlI.cells {w : World} {a : Option Addr} {l : List ItR} (h : SlI w a l) (i : Nat) (hi : i < l.length) : ∃ b o, a = some ⟨b, o, none⟩ ∧ b < w.heap.size ∧
  w.cell? ⟨b, o + i * 3, none⟩ = some (strV l[i].key) ∧ w.cell? ⟨b, o + i * 3 + 1, none⟩ = some (strV l[i].more) ∧ w.cell? ⟨b, o + i * 3 + 2, none⟩ = some (.int .i64 (l[i].below : Int)) := by
 have g := fun j (hj : j < 3) => flat_get itC 3 l (fun _ _ => rfl) i hi j hj
 obtain ⟨b, o, ha, hb, c0⟩ := SlV.at h (g 0 (by omega))
 obtain ⟨b1, o1, ha1, _, c1⟩ := SlV.at h (g 1 (by omega))
 obtain ⟨b2, o2, ha2, _, c2⟩ := SlV.at h (g 2 (by omega))
 rw [ha] at ha1 ha2
 cases ha1; cases ha2
 exact ⟨b, o, ha, hb, c0, by rw [Nat.add_assoc]; exact c1, by rw [Nat.add_assoc]; exact c2⟩
set_option maxRecDepth 100000 in
theorem keyFits_any (a : Option Addr) (n cap : Nat) (w : World) (hn : n ≤ maxLen) :
  Calls Tryz.prog 31 #[.slice a n cap] w fun e w' => e = .returned (.bool (decide (1 ≤ n) && decide (n ≤ 12))) ∧ w' = w := by
 unfold maxLen at hn
 by_cases h1 : 1 ≤ n
 ·by_cases h2 : n ≤ 12
  ·have h1' : (1 : Int) ≤ n := by omega
   have h2' : (n : Int) ≤ 12 := by omega
   go_enter Tryz.func31, Tryz.ntmps31
   go_wp2
   go_ret
   exact ⟨by simp [h1, h2], rfl⟩
  ·have h1' : (1 : Int) ≤ n := by omega
   have h2' : ¬ (n : Int) ≤ 12 := by omega
   go_enter Tryz.func31, Tryz.ntmps31
   go_wp2
   go_ret
   exact ⟨by simp [h1, h2], rfl⟩
 ·have h1' : ¬ (1 : Int) ≤ n := by omega
  go_enter Tryz.func31, Tryz.ntmps31
  go_wp2
  go_ret
  exact ⟨by simp [h1], rfl⟩
def lessK (key : List UInt8) (x : ItR) : Bool := Op.bytesLess x.key key
def placeN (l : List ItR) (key : List UInt8) : Nat := (l.takeWhile (lessK key)).length
def thereB (l : List ItR) (key : List UInt8) : Bool := ((l[placeN l key]?).map (fun x => x.key == key)).getD false
set_option maxRecDepth 100000 in
set_option maxHeartbeats 400000 in
theorem place_any (sb : Nat) (a : Option Addr) (cap : Nat) (l : List ItR) (key : List UInt8) (w : World) (hl : l.length ≤ 1000000) (h0 : w.cell? ⟨sb, 0, none⟩ = some (.slice a l.length cap)) (hs : SlI w a l) :
  Calls Tryz.prog 80 #[.pointer (some ⟨sb, 0, none⟩), strV key] w fun e w' => e = .returned (.tuple #[.int .i64 (placeN l key : Int), .bool (thereB l key)]) ∧ ∃ n, w' = w.drewN n := by
 unfold strV
 go_enter Tryz.func80, Tryz.ntmps80
 go_wp2
 go_loop [6] (fun i => ∃ k : Nat, k ≤ l.length ∧ i = .int .i64 k ∧ Hid (placeN l key = k + ((l.drop k).takeWhile (lessK key)).length)) (fun i => l.length - (intOf i).toNat)
 case atStart => exact ⟨0, by omega, rfl, by simp [Hid, placeN]⟩
 case round =>
  obtain ⟨k, hk, rfl, HP⟩ := hrel
  by_cases hlt : k < l.length
  ·obtain ⟨b, o, rfl, hb, c0, _, _⟩ := hs.cells k hlt
   unfold strV at c0
   have HD : Hid (l.drop k = l[k] :: l.drop (k + 1)) := List.drop_eq_getElem_cons hlt
   have hltI : (k : Int) < l.length := by omega
   by_cases hless : lessK key l[k] = true
   ·have hlb : Op.bytesLess l[k].key key = true := hless
    go_wp2
    go_round
    case rel => exact ⟨k + 1, by omega, by go_num, by
     have := HP.out
     rw [HD.out, List.takeWhile_cons, if_pos hless, List.length_cons] at this
     unfold Hid; omega⟩
    case measure => simp [intOf]; omega
   ·have hlb : Op.bytesLess l[k].key key = false := by unfold lessK at hless; simpa using hless
    have HE : Hid (placeN l key = k) := by
     have := HP.out
     rw [HD.out, List.takeWhile_cons, if_neg hless] at this
     unfold Hid; simpa using this
    have HT : Hid (thereB l key = (l[k].key == key)) := by
     unfold Hid thereB
     rw [HE.out, List.getElem?_eq_getElem hlt]; rfl
    go_wp2
    go_quiet (fail)
    go_wp2
    go_ret2
    exact ⟨by rw [HE.out, HT.out]; rfl, _, rfl⟩
  ·have HE : Hid (placeN l key = k) := by
     have := HP.out
     rw [List.drop_eq_nil_of_le (by omega)] at this
     unfold Hid; simpa using this
   have HT : Hid (thereB l key = false) := by
    unfold Hid thereB
    rw [HE.out, List.getElem?_eq_none (by omega)]; rfl
   have hltI : ¬ (k : Int) < l.length := by omega
   go_wp2
   go_quiet (fail)
   go_wp2
   go_ret2
   exact ⟨by rw [HE.out, HT.out]; rfl, _, rfl⟩
theorem placeN_le (l : List ItR) (key : List UInt8) : placeN l key ≤ l.length := (List.takeWhile_prefix _).length_le
theorem thereB_lt {l : List ItR} {key : List UInt8} (h : thereB l key = true) : placeN l key < l.length := by
 unfold thereB at h
 by_cases hlt : placeN l key < l.length
 ·exact hlt
 ·rw [List.getElem?_eq_none (by omega)] at h; simp at h
def putN (l : List ItR) (key value : List UInt8) : List ItR := l.take (placeN l key) ++ [⟨key, value, 0⟩] ++ l.drop (if thereB l key then placeN l key + 1 else placeN l key)
def delN (l : List ItR) (key : List UInt8) : List ItR := l.take (placeN l key) ++ l.drop (placeN l key + 1)
def OwnI (w : World) (base : Nat) (v : Value) (l : List ItR) : Prop := w.ownsRow base 84 3 v l.length (itsC l)
theorem Tryz.infoItem : (Tryz.prog.info? 84).map (fun i => (i.zero, i.size, i.bytes)) = some (some (.agg #[.string ⟨#[]⟩, .string ⟨#[]⟩, .int .i64 0]), 3, 40) := by kernel_rfl
theorem itsC_one (l : List ItR) : ∀ u ∈ itsC l, u.oneCell' = true := fun u hu => by
 obtain ⟨x, _, hx⟩ := List.mem_flatMap.1 hu
 simp only [itC, strV, List.mem_cons, List.not_mem_nil, or_false] at hx
 rcases hx with rfl | rfl | rfl <;> rfl
theorem itsC_append (l m : List ItR) : itsC (l ++ m) = itsC l ++ itsC m := by simp [itsC]
theorem wp_appendI {w : World} {ops : Array Oper} {rest : List Oper} {o : Oper} {a : Act} {Q : Exit → Act → World → Prop} (hgd : o.guard = none) (s x : Operand)
  (ho : o.op = .call { callee := .builtin .append, args := #[s, x], argTypes := #[78, 78] })
  (base : Nat) (v : Value) (l : List ItR) (hs : a.eval s = v) (hown : OwnI w base v l)
  (ax : Option Addr) (n c : Nat) (m : List ItR) (hx : a.eval x = .slice ax n c) (hn : n = m.length) (hm : SlI w ax m) (hnil : ax = none → n = 0 ∧ c = 0)
  (hlen : l.length + m.length ≤ 1000000) (hbase : base ≤ w.heap.size)
  (h : ∀ a' n' cap' w', OwnI w' base (.slice a' n' cap') (l ++ m) → Frame (fun k => v.ownBlock = some k) w w' → ((Value.slice a' n' cap').ownBlock = v.ownBlock ∨ (Value.slice a' n' cap').ownBlock = some w.heap.size) → wpList Tryz.prog ops Q rest (a.put o.dst (.slice a' n' cap')) w') :
  wpList Tryz.prog ops Q (o :: rest) a w := by
 subst hn
 refine wp_appendV hgd s x 78 ho base 84 _ 3 40 Tryz.underlying78 Tryz.infoItem rfl (by decide) v l.length (itsC l) hs hown ax m.length c (itsC m) hx (itsC_length m) hm hnil (itsC_one m) (by unfold maxLen; omega) (by omega) hbase ?_
 intro v' w' ho' hf hat
 rw [← itsC_append] at ho'
 obtain ⟨a', cap', rfl, _⟩ := owns_form ho'
 refine h a' _ cap' w' ?_ hf hat
 unfold OwnI
 rw [List.length_append]
 exact ho'
theorem op_appendV {P : Program} {w : World} {o : Oper} {a : Act} {K : Act → World → Prop} {Q : Exit → Act → World → Prop} (s x : Operand) (t : TypeId)
  (ho : o.op = .call { callee := .builtin .append, args := #[s, x], argTypes := #[t, t] })
  (base : Nat) (e : TypeId) (z : Value) (size bytes : Nat) (ht : P.underlying t = some (.slice e)) (hi : (P.info? e).map (fun i => (i.zero, i.size, i.bytes)) = some (some z, size, bytes)) (hzs : z.cells.size = size) (hsz : 0 < size)
  (v : Value) (n : Nat) (xs : List Value) (hs : a.eval s = v) (hown : w.ownsRow base e size v n xs)
  (ad : Addr) (m c : Nat) (news : List Value) (hx : a.eval x = .slice (some ad) m c) (hl : news.length = m * size) (hnews : SlV w (some ad) news) (h1 : ∀ u ∈ news, u.oneCell' = true)
  (h63 : n + m ≤ maxLen) (hbytes : (n + m) * bytes ≤ 140737488355328) (hbase : base ≤ w.heap.size)
  (h : ∀ v' w', w'.ownsRow base e size v' (n + m) (xs ++ news) → Frame (fun k => v.ownBlock = some k) w w' → (v'.ownBlock = v.ownBlock ∨ v'.ownBlock = some w.heap.size) → K (a.put o.dst v') w') : o.wp P a w K Q := by
 obtain ⟨i, hi0, hz, hsize, hby⟩ := info_parts hi
 obtain ⟨v', w', hr, h2, h3, _, h5⟩ := run_append_own_at (P := P) w base t o.type e i z size bytes ht hi0 hz hsize hby hzs hsz v n xs hown ad m c news hl (fun j u hj => by
  obtain ⟨hj1, hj2⟩ := List.getElem?_eq_some_iff.1 hj
  obtain ⟨b, k, ha, _, hc⟩ := hnews j hj1
  cases ha
  rw [addr_add, hc, hj2]) h1 h63 hbytes hbase
 unfold Oper.wp execOp
 simp only [ho, resolve, invoke, builtin, Sem.run_bind, Sem.run_pure, Result.andThen_ok, List.map_toArray, List.map_cons, List.map_nil, hs, hx, hr]
 exact h v' w' h2 (Frame.of_grown h3) h5
theorem step_appendI {ops : Array Oper} {w : World} {o : Oper} {a : Act} {K : Act → World → Prop} {Q : Exit → Act → World → Prop} {E : Prop} (hgd : o.guard = none) (s x : Operand)
  (ho : o.op = .call { callee := .builtin .append, args := #[s, x], argTypes := #[78, 78] })
  (base : Nat) (v : Value) (l : List ItR) (hs : a.eval s = v) (hown : OwnI w base v l) (ad : Addr) (n c : Nat) (m : List ItR) (hx : a.eval x = .slice (some ad) n c) (hn : n = m.length) (hm : SlI w (some ad) m)
  (hlen : l.length + m.length ≤ 1000000) (hbase : base ≤ w.heap.size)
  (h : ∀ a' n' cap' w', OwnI w' base (.slice a' n' cap') (l ++ m) → Frame (fun k => v.ownBlock = some k) w w' → ((Value.slice a' n' cap').ownBlock = v.ownBlock ∨ (Value.slice a' n' cap').ownBlock = some w.heap.size) → K (a.put o.dst (.slice a' n' cap')) w') :
  if Region.wanted o (yielded ops a.tmps) = true then Oper.wp Tryz.prog o a w K Q else E := by
 have hw : Region.wanted o (yielded ops a.tmps) = true := by simp [Region.wanted, hgd]
 rw [if_pos hw]
 subst hn
 refine op_appendV s x 78 ho base 84 _ 3 40 Tryz.underlying78 Tryz.infoItem rfl (by decide) v l.length (itsC l) hs hown ad m.length c (itsC m) hx (itsC_length m) hm (itsC_one m) (by unfold maxLen; omega) (by omega) hbase ?_
 intro v' w' ho' hf hat
 rw [← itsC_append] at ho'
 obtain ⟨a', cap', rfl, _⟩ := owns_form ho'
 refine h a' _ cap' w' ?_ hf hat
 unfold OwnI
 rw [List.length_append]
 exact ho'
theorem SlI.take {w : World} {a : Option Addr} {l : List ItR} (h : SlI w a l) (k : Nat) (hk : k ≤ l.length) : SlI w a (l.take k) := by
 intro i hi
 have e := flat_take itC 3 l (fun _ _ => rfl) k hk
 have hv : (itsC l)[i]? = some ((itsC (l.take k))[i]) := by
  have h1 : (itsC (l.take k))[i]? = ((itsC l).take (k * 3))[i]? := by unfold itsC; rw [e]
  have hlt : i < k * 3 := by
   have := itsC_length (l.take k)
   rw [List.length_take, Nat.min_eq_left hk] at this; omega
  rw [List.getElem?_take_of_lt hlt] at h1
  rw [← h1]; exact List.getElem?_eq_getElem hi
 exact SlV.at h hv
theorem SlI.drop {w : World} {b o : Nat} {l : List ItR} (h : SlI w (some ⟨b, o, none⟩) l) (k : Nat) (hk : k ≤ l.length) : SlI w (some ⟨b, o + k * 3, none⟩) (l.drop k) := by
 intro i hi
 have e := flat_drop itC 3 l (fun _ _ => rfl) k hk
 have hv : (itsC l)[k * 3 + i]? = some ((itsC (l.drop k))[i]) := by
  rw [← List.getElem?_drop]
  unfold itsC at hi ⊢
  rw [e]; exact List.getElem?_eq_getElem hi
 obtain ⟨b', o', ha, hb, hc⟩ := SlV.at h hv
 cases ha
 exact ⟨b, o + k * 3, rfl, hb, by rw [Nat.add_assoc]; exact hc⟩
end Go.Proofs.YtekegfbjbainhaaGreat


namespace Go.Proofs.YtekegfbjbainhaaGreat
open Go.RowKit
set_option maxRecDepth 100000 in
set_option maxHeartbeats 400000 in
theorem refDigest_any (a : Option Addr) (n cap : Nat) (l : List UInt8) (w : World) (hn : n = l.length) (hl : l.length ≤ maxLen) (hc : SlB w a l) :
  Calls Tryz.prog 10 #[.slice a n cap] w fun e w' => e = .returned (digV l) ∧ Below w.heap.size w w' := by
 subst hn
 unfold maxLen at hl
 go_enter Tryz.func10, Tryz.ntmps10
 go_wp2
 go_loop [3, 4] (fun n i => ∃ k : Nat, k ≤ l.length ∧ i = .int .i64 k ∧ n = .int .u64 (rawD (l.take k))) (fun _ i => l.length - (intOf i).toNat)
 case atStart => exact ⟨0, Nat.zero_le _, rfl, rfl⟩
 case round =>
  obtain ⟨k, hk, rfl, rfl⟩ := hrel
  by_cases hlt : k < l.length
  ·obtain ⟨b, o, rfl, hb, hcell⟩ := hc k hlt
   have hrb := rawD_bd (l.take k)
   have h256 : (l[k].toNat : Int) < 256 := by have := l[k].toNat_lt; omega
   have HS : Hid (rawD (l.take (k + 1)) = mixB (rawD (l.take k)) l[k]) := by rw [take_snocL _ _ hlt]; exact rawD_snoc _ _
   go_wp2
   go_round
   case rel => exact ⟨k + 1, by omega, by go_num, by rw [HS.out]; unfold mixB; with_reducible rfl⟩
   case measure => simp [intOf]; omega
  ·have hrb := rawD_bd (l.take k)
   have HE : Hid (l.take k = l) := List.take_of_length_le (by omega)
   go_wp2
   rw [HE.out]
   have HA := stirA_bd (rawD l)
   have HB := stirB_bd (stirA (rawD l)) HA.1 HA.2
   have hN : Hid (digV l = .agg ((bytesN (stirB (stirA (rawD l)))).map u8c).toArray) := rfl
   rw [show (IntKind.u64.wrap (bits BinOp.xor IntKind.u64 (rawD l) (rawD l / 4294967296) * 11400714819323198485)) = stirA (rawD l) from rfl]
   rw [show bits BinOp.xor IntKind.u64 (stirA (rawD l)) (stirA (rawD l) / 536870912) = stirB (stirA (rawD l)) from rfl]
   generalize stirB (stirA (rawD l)) = N at *
   have hcs : Hid (digV l = _) := hN.out.trans (congrArg Value.agg (cells_bytesN N HB.1 HB.2))
   clear hN
   go_rounds 9
   go_returns
   exact ⟨by rw [hcs.out], by go_grown⟩
set_option maxRecDepth 100000 in
set_option maxHeartbeats 400000 in
theorem stir_any (n : Int) (w : World) (h0 : 0 ≤ n) :
  Calls Tryz.prog 108 #[.int .u64 n] w fun e w' => e = .returned (.int .u64 (stirB (stirA n))) ∧ w' = w := by
 go_enter Tryz.func108, Tryz.ntmps108
 go_wp2
 go_ret
 exact ⟨rfl, rfl⟩
set_option maxRecDepth 100000 in
set_option maxHeartbeats 400000 in
theorem fromNumber_any (N : Int) (w : World) (h0 : 0 ≤ N) (h1 : N < 18446744073709551616) :
  Calls Tryz.prog 107 #[.int .u64 N] w fun e w' => e = .returned (.agg ((bytesN N).map u8c).toArray) ∧ ∃ c1 c2 : Array Value, w' = (w.alloc (.cells c1 36)).alloc (.cells c2 36) := by
 have hcs : Hid (((bytesN N).map u8c).toArray = _) := cells_bytesN N h0 h1
 go_enter Tryz.func107, Tryz.ntmps107
 go_wp2
 go_rounds 9
 go_returns
 exact ⟨by rw [hcs.out], _, _, rfl⟩
set_option maxRecDepth 100000 in
set_option maxHeartbeats 400000 in
theorem of_any (a : Option Addr) (cap : Nat) (l : List UInt8) (w : World) (hl : l.length ≤ maxLen) (hc : SlB w a l) :
  Calls Tryz.prog 67 #[.slice a l.length cap] w fun e w' => e = .returned (digV l) ∧ ∃ c1 c2 c3 : Array Value, w' = ((w.alloc (.cells c1 36)).alloc (.cells c2 36)).alloc (.cells c3 36) := by
 unfold maxLen at hl
 go_enter Tryz.func67, Tryz.ntmps67
 go_wp2
 go_loop [3, 8] (fun n i => ∃ k : Nat, k ≤ l.length ∧ i = .int .i64 k ∧ n = .int .u64 (rawD (l.take k))) (fun _ i => l.length - (intOf i).toNat)
 case atStart => exact ⟨0, Nat.zero_le _, rfl, rfl⟩
 case round =>
  obtain ⟨k, hk, rfl, rfl⟩ := hrel
  by_cases hlt : k < l.length
  ·obtain ⟨b, o, rfl, hb, hcell⟩ := hc k hlt
   have hrb := rawD_bd (l.take k)
   have h256 : (l[k].toNat : Int) < 256 := by have := l[k].toNat_lt; omega
   have HS : Hid (rawD (l.take (k + 1)) = mixB (rawD (l.take k)) l[k]) := by rw [take_snocL _ _ hlt]; exact rawD_snoc _ _
   go_wp2
   go_round
   case rel => exact ⟨k + 1, by omega, by go_num, by rw [HS.out]; unfold mixB; with_reducible rfl⟩
   case measure => simp [intOf]; omega
  ·have hrb := rawD_bd (l.take k)
   have HE : Hid (l.take k = l) := List.take_of_length_le (by omega)
   go_wp2_with fail
   rw [HE.out] at hrb ⊢
   have HN := numD_bd l
   refine (stir_any _ _ hrb.1).mono ?_
   rintro e w1 ⟨rfl, rfl⟩
   rw [show stirB (stirA (rawD l)) = numD l from rfl]
   go_wp2_with fail
   refine (fromNumber_any (numD l) _ HN.1 HN.2).mono ?_
   rintro e w1 ⟨rfl, c1, c2, rfl⟩
   have hcs : Hid (digV l = _) := congrArg Value.agg (cells_bytesN (numD l) HN.1 HN.2)
   rw [cells_bytesN (numD l) HN.1 HN.2]
   go_wp2
   go_returns
   exact ⟨by rw [hcs.out], _, _, _, rfl⟩
end Go.Proofs.YtekegfbjbainhaaGreat


namespace Go.Proofs.YtekegfbjbainhaaGreat
open Go.RowKit
def bt (n : Nat) : UInt8 := UInt8.ofNat n
theorem bt_c {n : Nat} (h : n < 256) : u8c (bt n) = .int .u8 (n : Int) := by
 unfold u8c bt
 rw [UInt8.toNat_ofNat_of_lt' h]
def itB (level : Nat) (x : ItR) : List UInt8 := bt x.key.length :: x.key ++ ((if level = 0 then [bt x.more.length] else []) ++ x.more)
def codeB (level : Nat) (l : List ItR) : List UInt8 := bt level :: bt l.length :: l.flatMap (itB level)
def prefB (level n : Nat) (l : List ItR) : List UInt8 := bt level :: bt n :: l.flatMap (itB level)
def ItOk (x : ItR) : Prop := x.key.length ≤ 12 ∧ x.more.length ≤ 12
theorem itB_length (level : Nat) (x : ItR) (h : ItOk x) : (itB level x).length ≤ 26 := by
 obtain ⟨h1, h2⟩ := h
 unfold itB
 split <;> simp <;> omega
theorem flatB_length (level : Nat) : ∀ (l : List ItR), (∀ x ∈ l, ItOk x) → (l.flatMap (itB level)).length ≤ l.length * 26
 | [], _ => by simp
 | x :: l, h => by
  have h1 := flatB_length level l (fun y hy => h y (by simp [hy]))
  have h2 := itB_length level x (h x (by simp))
  rw [List.flatMap_cons, List.length_append, List.length_cons]; omega
theorem prefB_snoc (level n : Nat) (l : List ItR) (k : Nat) (hk : k < l.length) : prefB level n (l.take (k + 1)) = prefB level n (l.take k) ++ itB level l[k] := by
 unfold prefB
 rw [List.take_succ_eq_append_getElem hk, List.flatMap_append]; simp
theorem prefB_length (level n : Nat) (l : List ItR) (h : ∀ x ∈ l, ItOk x) : (prefB level n l).length ≤ l.length * 26 + 2 := by
 have := flatB_length level l h
 unfold prefB
 rw [List.length_cons, List.length_cons]; omega
def CodeSt (w : World) (xb : Nat) (P X : List Value) (W : World) : Prop := Below w.heap.size w W ∧ RowV W w.heap.size 80 P ∧ RowV W xb 84 X
theorem CodeSt.next {w W W' : World} {xb : Nat} {P X : List Value} {v : Value} {l : List UInt8} (h : CodeSt w xb P X W) (ho : OwnB W (w.heap.size + 1) v l) (hf : Frame (fun k => v.ownBlock = some k) W W') : CodeSt w xb P X W' := by
 have hz := h.1.size
 refine ⟨h.1.trans (hf.below (by omega) (fun k hk => by have := (ho.lt k hk).1; omega)), h.2.1.of_block (hf.block _ h.2.1.lt (owns_ne ho h.2.1 (by decide))), h.2.2.of_block (hf.block _ h.2.2.lt (owns_ne ho h.2.2 (by decide)))⟩
theorem CodeSt.alloc {w W : World} {xb : Nat} {P X : List Value} (h : CodeSt w xb P X W) (o : Obj) : CodeSt w xb P X (W.alloc o) := ⟨h.1.alloc h.1.size _, h.2.1.alloc _, h.2.2.alloc _⟩
theorem CodeSt.cells {w W : World} {xb : Nat} {p0 p1 x0 x1 x2 : Value} (h : CodeSt w xb [p0, p1] [x0, x1, x2] W) : W.cell? ⟨w.heap.size, 0, none⟩ = some p0 ∧ W.cell? ⟨w.heap.size, 1, none⟩ = some p1 ∧ W.cell? ⟨xb, 0, none⟩ = some x0 ∧ W.cell? ⟨xb, 1, none⟩ = some x1 :=
 ⟨h.2.1.cell 0 (by simp), h.2.1.cell 1 (by simp), h.2.2.cell 0 (by simp), h.2.2.cell 1 (by simp)⟩
set_option maxRecDepth 100000 in
set_option maxHeartbeats 1000000 in
theorem code_any (level : Nat) (a : Option Addr) (n cap : Nat) (l : List ItR) (w : World) (hn : n = l.length) (hl : l.length ≤ 200) (hlv : level ≤ 200) (hok : ∀ x ∈ l, ItOk x) (hs : SlI w a l) :
  Calls Tryz.prog 86 #[.agg #[.int .i64 (level : Int), .slice a n cap]] w fun e w' => ∃ a' n' c', e = .returned (.slice a' n' c') ∧ OwnB w' w.heap.size (.slice a' n' c') (codeB level l) ∧ Below w.heap.size w w' := by
 have hb1 : OwnB ((w.alloc (.cells #[.int .i64 (level : Int), .slice a n cap] 80)).alloc (.cells #[.int .u8 (level : Int), .int .u8 (n : Int)] 5)) (w.heap.size + 1) (.slice (some ⟨w.heap.size + 1, 0, none⟩) 2 2) (prefB level n []) := by
  have := OwnB.built (w.alloc (.cells #[.int .i64 (level : Int), .slice a n cap] 80)) (w.heap.size + 1) [bt level, bt n] (by simp) (by simp [maxLen])
  simp only [World.size_alloc, List.map_cons, List.map_nil] at this
  rw [bt_c (by omega), bt_c (by omega)] at this
  exact this
 have hp1 : RowV ((w.alloc (.cells #[.int .i64 (level : Int), .slice a n cap] 80)).alloc (.cells #[.int .u8 (level : Int), .int .u8 (n : Int)] 5)) w.heap.size 80 [.int .i64 (level : Int), .slice a n cap] := (RowV.new w _ _).alloc _
 have hlvI : (level : Int) ≤ 200 := by omega
 have hnI : (n : Int) ≤ 200 := by omega
 have HN : Hid (n = l.length) := hn
 clear hn
 go_enter Tryz.func86, Tryz.ntmps86
 go_wp2
 go_loopw [3, 4] (fun b i wr => ∃ (k n' c' : Nat) (a' : Option Addr), k ≤ n ∧ i = .int .i64 k ∧ b = .slice a' n' c' ∧ OwnB wr (w.heap.size + 1) (.slice a' n' c') (prefB level n (l.take k)) ∧ Below w.heap.size w wr ∧ RowV wr w.heap.size 80 [.int .i64 (level : Int), .slice a n cap]) (fun _ i _ => n - (intOf i).toNat)
 case atStart => exact ⟨0, 2, 2, _, by omega, by simp, rfl, by simpa using hb1, by go_grown, hp1⟩
 case round =>
  obtain ⟨k, n', c', a', hk, rfl, rfl, hown, hbel, hp⟩ := hrel
  have hc0 := hp.cell 0 (by simp)
  have hc1 := hp.cell 1 (by simp)
  simp only [List.getElem_cons_zero, List.getElem_cons_succ] at hc0 hc1
  by_cases hlt : k < n
  ·have hkl : k < l.length := by have := HN.out; omega
   obtain ⟨b, o, rfl, hb, x0, x1, x2⟩ := SlI.cells hs k hkl
   have y0 : wr.cell? ⟨b, o + k * 3, none⟩ = some (.string ⟨l[k].key.toArray⟩) := by rw [hbel.cell (p := ⟨b, o + k * 3, none⟩) hb]; exact x0
   have y1 : wr.cell? ⟨b, o + k * 3 + 1, none⟩ = some (.string ⟨l[k].more.toArray⟩) := by rw [hbel.cell (p := ⟨b, o + k * 3 + 1, none⟩) hb]; exact x1
   have y2 : wr.cell? ⟨b, o + k * 3 + 2, none⟩ = some (.int .i64 (l[k].below : Int)) := by rw [hbel.cell (p := ⟨b, o + k * 3 + 2, none⟩) hb]; exact x2
   clear x0 x1 x2 hb1 hp1 hs
   obtain ⟨hkl12, hml12⟩ := hok l[k] (List.getElem_mem hkl)
   have hst : CodeSt w wr.heap.size [.int .i64 (level : Int), .slice (some ⟨b, o, none⟩) n cap] [.string ⟨l[k].key.toArray⟩, .string ⟨l[k].more.toArray⟩, .int .i64 (l[k].below : Int)] (wr.alloc (.cells #[.string ⟨l[k].key.toArray⟩, .string ⟨l[k].more.toArray⟩, .int .i64 (l[k].below : Int)] 84)) :=
    ⟨hbel.alloc hbel.size _, hp.alloc _, RowV.new wr _ _⟩
   have HLN : Hid ((prefB level n (l.take k)).length ≤ 6000) := by
    have := prefB_length level n (l.take k) (fun x hx => hok x (List.mem_of_mem_take hx))
    rw [List.length_take] at this
    unfold Hid; omega
   have hklI : (l[k].key.length : Int) ≤ 12 := by omega
   have hmlI : (l[k].more.length : Int) ≤ 12 := by omega
   have hltI : (k : Int) < n := by omega
   by_cases hl0 : level = 0
   ·have hlI : ((level : Int) == 0) = true := by simp [hl0]
    have HPS : Hid (prefB level n (l.take (k + 1)) = prefB level n (l.take k) ++ [bt l[k].key.length] ++ l[k].key ++ [bt l[k].more.length] ++ l[k].more) := by
     unfold Hid; rw [prefB_snoc level n l k hkl]; simp [itB, hl0]
    clear hl0
    go_wp2_with (first
     | (at_builtin; refine wp_appendB (by rfl) (.tmp 26) (.tmp 31) (by rfl) (w.heap.size + 1) _ (prefB level n (l.take k)) (by rfl) (by exact (hown.alloc _).alloc _) (some ⟨wr.heap.size + 1, 0, none⟩) 1 1 [bt l[k].key.length] (by rfl) (by rfl) (by exact SlB.of_row (t := 5) (by rw [List.map_cons, List.map_nil, bt_c (by omega)]; exact RowV.new_at _ _ _ _ (by simp))) (fun h => by cases h) (by have := HLN.out; simp only [List.length_append, List.length_cons, List.length_nil] at this ⊢; omega) (by have := hbel.size; simp only [World.size_alloc]; omega) ?_; intro a1 n1 c1 w1 hn1 ho1 hs1 hf1 hat1; have hc1 := (hst.alloc _).next ((hown.alloc _).alloc _) hf1; obtain ⟨e10, e11, e12, e13⟩ := hc1.cells; clear hn1 hat1)
     | (at_builtin; refine wp_appendS (by rfl) (.tmp 33) (.tmp 35) (by rfl) (w.heap.size + 1) _ (prefB level n (l.take k) ++ [bt l[k].key.length]) (by rfl) ho1 l[k].key (by rfl) (by have := HLN.out; simp only [List.length_append, List.length_cons, List.length_nil] at this ⊢; omega) (by have := hbel.size; have := hc1.2.1.lt; omega) ?_; intro a2 n2 c2 w2 ho2 hs2 hf2; have hc2 := hc1.next ho1 hf2; obtain ⟨e20, e21, e22, e23⟩ := hc2.cells)
     | (at_builtin; refine wp_appendB (by rfl) (.tmp 40) (.tmp 45) (by rfl) (w.heap.size + 1) _ (prefB level n (l.take k) ++ [bt l[k].key.length] ++ l[k].key) (by rfl) (by exact ho2.alloc _) (some ⟨w2.heap.size, 0, none⟩) 1 1 [bt l[k].more.length] (by rfl) (by rfl) (by exact SlB.of_row (t := 5) (by rw [List.map_cons, List.map_nil, bt_c (by omega)]; exact RowV.new_at _ _ _ _ (by simp))) (fun h => by cases h) (by have := HLN.out; simp only [List.length_append, List.length_cons, List.length_nil] at this ⊢; omega) (by have := hbel.size; have := hc2.2.1.lt; simp only [World.size_alloc]; omega) ?_; intro a3 n3 c3 w3 hn3 ho3 hs3 hf3 hat3; have hc3 := (hc2.alloc _).next (ho2.alloc _) hf3; obtain ⟨e30, e31, e32, e33⟩ := hc3.cells; clear hn3 hat3)
     | (at_builtin; refine wp_appendS (by rfl) (.tmp 47) (.tmp 49) (by rfl) (w.heap.size + 1) _ (prefB level n (l.take k) ++ [bt l[k].key.length] ++ l[k].key ++ [bt l[k].more.length]) (by rfl) ho3 l[k].more (by rfl) (by have := HLN.out; simp only [List.length_append, List.length_cons, List.length_nil] at this ⊢; omega) (by have := hbel.size; have := hc3.2.1.lt; omega) ?_; intro a4 n4 c4 w4 ho4 hs4 hf4; have hc4 := hc3.next ho3 hf4))
    refine ⟨⟨k + 1, n4, c4, a4, by omega, by go_num, rfl, ?_, hc4.1, hc4.2.1⟩, by simp [intOf]; omega⟩
    rw [HPS.out]
    exact ho4
   ·have hlI : ((level : Int) == 0) = false := by simp; omega
    have HPS : Hid (prefB level n (l.take (k + 1)) = prefB level n (l.take k) ++ [bt l[k].key.length] ++ l[k].key ++ l[k].more) := by
     unfold Hid; rw [prefB_snoc level n l k hkl]; simp [itB, hl0]
    clear hl0
    go_wp2_with (first
     | (at_builtin; refine wp_appendB (by rfl) (.tmp 26) (.tmp 31) (by rfl) (w.heap.size + 1) _ (prefB level n (l.take k)) (by rfl) (by exact (hown.alloc _).alloc _) (some ⟨wr.heap.size + 1, 0, none⟩) 1 1 [bt l[k].key.length] (by rfl) (by rfl) (by exact SlB.of_row (t := 5) (by rw [List.map_cons, List.map_nil, bt_c (by omega)]; exact RowV.new_at _ _ _ _ (by simp))) (fun h => by cases h) (by have := HLN.out; simp only [List.length_append, List.length_cons, List.length_nil] at this ⊢; omega) (by have := hbel.size; simp only [World.size_alloc]; omega) ?_; intro a1 n1 c1 w1 hn1 ho1 hs1 hf1 hat1; have hc1 := (hst.alloc _).next ((hown.alloc _).alloc _) hf1; obtain ⟨e10, e11, e12, e13⟩ := hc1.cells; clear hn1 hat1)
     | (at_builtin; refine wp_appendS (by rfl) (.tmp 33) (.tmp 35) (by rfl) (w.heap.size + 1) _ (prefB level n (l.take k) ++ [bt l[k].key.length]) (by rfl) ho1 l[k].key (by rfl) (by have := HLN.out; simp only [List.length_append, List.length_cons, List.length_nil] at this ⊢; omega) (by have := hbel.size; have := hc1.2.1.lt; omega) ?_; intro a2 n2 c2 w2 ho2 hs2 hf2; have hc2 := hc1.next ho1 hf2; obtain ⟨e20, e21, e22, e23⟩ := hc2.cells)
     | (at_builtin; refine wp_appendS (by rfl) (.tmp 47) (.tmp 49) (by rfl) (w.heap.size + 1) _ (prefB level n (l.take k) ++ [bt l[k].key.length] ++ l[k].key) (by rfl) ho2 l[k].more (by rfl) (by have := HLN.out; simp only [List.length_append, List.length_cons, List.length_nil] at this ⊢; omega) (by have := hbel.size; have := hc2.2.1.lt; omega) ?_; intro a4 n4 c4 w4 ho4 hs4 hf4; have hc4 := hc2.next ho2 hf4))
    refine ⟨⟨k + 1, n4, c4, a4, by omega, by go_num, rfl, ?_, hc4.1, hc4.2.1⟩, by simp [intOf]; omega⟩
    rw [HPS.out]
    exact ho4
  ·have HE : Hid (prefB level n (l.take k) = codeB level l) := by
    unfold Hid prefB codeB; rw [List.take_of_length_le (by have := HN.out; omega), HN.out]
   go_wp2
   go_ret
   refine ⟨a', n', c', rfl, ?_, hbel⟩
   rw [HE.out] at hown
   exact owns_base hown (fun q hq => by have := (hown.lt q hq).1; omega)
end Go.Proofs.YtekegfbjbainhaaGreat


namespace Go.Proofs.YtekegfbjbainhaaGreat
open Go.RowKit
def endB (level : Nat) (key : List UInt8) : Bool := decide (level < 6) && ((digB (bt level :: key)).getD 7 0).toNat % 4 == 0
theorem mod4_nat (n : Nat) : ((n : Int) % 4 == 0) = (n % 4 == 0) := by
 rw [Bool.eq_iff_iff]; simp; omega
set_option maxRecDepth 100000 in
set_option maxHeartbeats 1000000 in
theorem isEnd_any (level : Nat) (key : List UInt8) (w : World) (hlv : level ≤ 200) (hk : key.length ≤ 200) :
  Calls Tryz.prog 144 #[.int .i64 (level : Int), .string ⟨key.toArray⟩] w fun e w' => e = .returned (.bool (endB level key)) ∧ Below w.heap.size w w' := by
 have hlvI : (level : Int) ≤ 200 := by omega
 have hb1 : OwnB (w.alloc (.cells #[.int .u8 (level : Int)] 5)) w.heap.size (.slice (some ⟨w.heap.size, 0, none⟩) 1 1) [bt level] := by
  have := OwnB.built w w.heap.size [bt level] (Nat.le_refl _) (by simp [maxLen])
  simp only [List.map_cons, List.map_nil] at this
  rw [bt_c (by omega)] at this
  exact this
 obtain ⟨dd, hdd⟩ : ∃ dd, dd = digB (bt level :: key) := ⟨_, rfl⟩
 have hdl : dd.length = 8 := by rw [hdd]; rfl
 obtain ⟨x0, x1, x2, x3, x4, x5, x6, x7, rfl⟩ := list8 dd hdl
 have HE : Hid (endB level key = (decide (level < 6) && x7.toNat % 4 == 0)) := by
  unfold Hid endB; rw [← hdd]; rfl
 have HV : Hid (digV (bt level :: key) = .agg #[.int .u8 (x0.toNat : Int), .int .u8 (x1.toNat : Int), .int .u8 (x2.toNat : Int), .int .u8 (x3.toNat : Int), .int .u8 (x4.toNat : Int), .int .u8 (x5.toNat : Int), .int .u8 (x6.toNat : Int), .int .u8 (x7.toNat : Int)]) := by
  unfold Hid; rw [digV_eq, ← hdd]; rfl
 clear hdd hdl
 have h7 : (x7.toNat : Int) ≤ 255 := by have := x7.toNat_lt; omega
 by_cases h6 : level < 6
 all_goals
  have H6 : Hid (((level : Int) < 6) ↔ level < 6) := by unfold Hid; omega
  go_enter Tryz.func144, Tryz.ntmps144
  go_wp2_with (at_builtin; refine wp_appendS (by rfl) (.tmp 10) (.tmp 11) (by rfl) w.heap.size _ [bt level] (by rfl) hb1 key (by rfl) (by simp; omega) (by simp) ?_; intro a1 n1 c1 w1 ho1 hs1 hf1)
  obtain ⟨_, hn1, hnil1⟩ := ho1.sl
  refine (refDigest_any a1 _ c1 (bt level :: key) _ (by rw [hn1]; simp) (by simp [maxLen]; omega) (by simpa using hs1)).mono ?_
  rintro e w2 ⟨rfl, hb2⟩
  rw [HV.out]
  go_wp2
  go_ret
  refine ⟨?_, ?_⟩
  ·rw [HE.out]
   first
    | (show Ending.returned (.bool ((x7.toNat : Int) % 4 == 0)) = _; rw [mod4_nat]; simp [h6]; done)
    | (show Ending.returned (.bool false) = _; simp [h6]; done)
  ·have h1 := hf1.below (B := w.heap.size) (by simp) (fun k hk => by simp [Value.ownBlock] at hk; omega)
   have z1 := h1.size
   simp only [World.size_alloc] at z1
   have h3 := (((Below.refl w.heap.size w).alloc (Nat.le_refl _) (.cells #[.int .u8 (level : Int)] 5)).trans h1).trans (hb2.mono (by omega))
   exact h3.alloc (by have := h3.size; omega) _
end Go.Proofs.YtekegfbjbainhaaGreat
