import Derived.Test.YtekegfbjbainhaaGreatKJoin1
import Derived.Deep.DrawnRows
import Derived.Deep.QuietTactic
import Derived.BigQuiet
import Derived.Test.YtekegfbjbainhaaGreatRows
import Derived.Deep.RegionLaw
set_option linter.unusedVariables false
set_option linter.unusedSimpArgs false

namespace Go.Proofs.YtekegfbjbainhaaGreat
open Go.RowKit
theorem flat_length {α : Type} (f : α → List Value) (m : Nat) : ∀ (l : List α), (∀ x ∈ l, (f x).length = m) → (l.flatMap f).length = l.length * m
 | [], _ => by simp
 | x :: l, h => by
  have := flat_length f m l (fun y hy => h y (by simp [hy]))
  rw [List.flatMap_cons, List.length_append, this, h x (by simp), List.length_cons, Nat.add_mul]; omega
theorem flat_split {α : Type} (f : α → List Value) (l : List α) (k : Nat) : l.flatMap f = (l.take k).flatMap f ++ (l.drop k).flatMap f := by
 rw [← List.flatMap_append, List.take_append_drop]
theorem flat_take {α : Type} (f : α → List Value) (m : Nat) (l : List α) (h : ∀ x ∈ l, (f x).length = m) (k : Nat) (hk : k ≤ l.length) : (l.flatMap f).take (k * m) = (l.take k).flatMap f := by
 rw [flat_split f l k]
 have hl : ((l.take k).flatMap f).length = k * m := by rw [flat_length f m _ (fun x hx => h x (List.mem_of_mem_take hx)), List.length_take, Nat.min_eq_left hk]
 rw [← hl, List.take_left]
theorem flat_drop {α : Type} (f : α → List Value) (m : Nat) (l : List α) (h : ∀ x ∈ l, (f x).length = m) (k : Nat) (hk : k ≤ l.length) : (l.flatMap f).drop (k * m) = (l.drop k).flatMap f := by
 conv => lhs; rw [flat_split f l k]
 have hl : ((l.take k).flatMap f).length = k * m := by rw [flat_length f m _ (fun x hx => h x (List.mem_of_mem_take hx)), List.length_take, Nat.min_eq_left hk]
 rw [← hl, List.drop_left]
theorem flat_get {α : Type} (f : α → List Value) (m : Nat) (l : List α) (h : ∀ x ∈ l, (f x).length = m) (i : Nat) (hi : i < l.length) (j : Nat) (hj : j < m) : (l.flatMap f)[i * m + j]? = (f l[i])[j]? := by
 rw [← List.getElem?_drop, flat_drop f m l h i (by omega), List.drop_eq_getElem_cons hi, List.flatMap_cons, List.getElem?_append_left (by rw [h _ (List.getElem_mem hi)]; exact hj)]
structure ItR where
 key : List UInt8
 more : List UInt8
 below : Nat
def strV (l : List UInt8) : Value := .string ⟨l.toArray⟩
def itC (x : ItR) : List Value := [strV x.key, strV x.more, .int .i64 (x.below : Int)]
def itsC (l : List ItR) : List Value := l.flatMap itC
theorem itsC_length (l : List ItR) : (itsC l).length = l.length * 3 := flat_length itC 3 l (fun _ _ => rfl)
theorem ba_size (l : List UInt8) : (ByteArray.mk l.toArray).size = l.length := by simp [ByteArray.size]
def SlI (w : World) (a : Option Addr) (l : List ItR) : Prop := SlV w a (itsC l)
theorem SlV.at {w : World} {a : Option Addr} {cs : List Value} (h : SlV w a cs) {i : Nat} {v : Value} (hv : cs[i]? = some v) : ∃ b o, a = some ⟨b, o, none⟩ ∧ b < w.heap.size ∧ w.cell? ⟨b, o + i, none⟩ = some v := by
 obtain ⟨h1, h2⟩ := List.getElem?_eq_some_iff.1 hv
 obtain ⟨b, o, ha, hb, hc⟩ := h i h1
 exact ⟨b, o, ha, hb, by rw [hc, h2]⟩
theorem SlI.cells {w : World} {a : Option Addr} {l : List ItR} (h : SlI w a l) (i : Nat) (hi : i < l.length) : ∃ b o, a = some ⟨b, o, none⟩ ∧ b < w.heap.size ∧
  w.cell? ⟨b, o + i * 3, none⟩ = some (strV l[i].key) ∧ w.cell? ⟨b, o + i * 3 + 1, none⟩ = some (strV l[i].more) ∧ w.cell? ⟨b, o + i * 3 + 2, none⟩ = some (.int .i64 (l[i].below : Int)) := by
 have g := fun j (hj : j < 3) => flat_get itC 3 l (fun _ _ => rfl) i hi j hj
 obtain ⟨b, o, ha, hb, c0⟩ := SlV.at h (g 0 (by omega))
 obtain ⟨b1, o1, ha1, _, c1⟩ := SlV.at h (g 1 (by omega))
 obtain ⟨b2, o2, ha2, _, c2⟩ := SlV.at h (g 2 (by omega))
 rw [ha] at ha1 ha2
 cases ha1; cases ha2
 exact ⟨b, o, ha, hb, c0, by rw [Nat.add_assoc]; exact c1, by rw [Nat.add_assoc]; exact c2⟩
set_option maxRecDepth 100000 in
theorem keyFits_any (a : Option Addr) (n cap : Nat) (w : World) (hn : n ≤ maxLen) :
  Calls Tryz.prog 31 #[.slice a n cap] w fun e w' => e = .returned (.bool (decide (1 ≤ n) && decide (n ≤ 12))) ∧ w' = w := by
 unfold maxLen at hn
 by_cases h1 : 1 ≤ n
 ·by_cases h2 : n ≤ 12
  ·have h1' : (1 : Int) ≤ n := by omega
   have h2' : (n : Int) ≤ 12 := by omega
   go_enter Tryz.func31, Tryz.ntmps31
   go_wp2
   go_ret
   exact ⟨by simp [h1, h2], rfl⟩
  ·have h1' : (1 : Int) ≤ n := by omega
   have h2' : ¬ (n : Int) ≤ 12 := by omega
   go_enter Tryz.func31, Tryz.ntmps31
   go_wp2
   go_ret
   exact ⟨by simp [h1, h2], rfl⟩
 ·have h1' : ¬ (1 : Int) ≤ n := by omega
  go_enter Tryz.func31, Tryz.ntmps31
  go_wp2
  go_ret
  exact ⟨by simp [h1], rfl⟩
def lessK (key : List UInt8) (x : ItR) : Bool := Op.bytesLess x.key key
def placeN (l : List ItR) (key : List UInt8) : Nat := (l.takeWhile (lessK key)).length
def thereB (l : List ItR) (key : List UInt8) : Bool := ((l[placeN l key]?).map (fun x => x.key == key)).getD false
set_option maxRecDepth 100000 in
set_option maxHeartbeats 400000 in
theorem place_any (sb : Nat) (a : Option Addr) (cap : Nat) (l : List ItR) (key : List UInt8) (w : World) (hl : l.length ≤ 1000000) (h0 : w.cell? ⟨sb, 0, none⟩ = some (.slice a l.length cap)) (hs : SlI w a l) :
  Calls Tryz.prog 80 #[.pointer (some ⟨sb, 0, none⟩), strV key] w fun e w' => e = .returned (.tuple #[.int .i64 (placeN l key : Int), .bool (thereB l key)]) ∧ ∃ n, w' = w.drewN n := by
 unfold strV
 go_enter Tryz.func80, Tryz.ntmps80
 go_wp2
 go_loop [6] (fun i => ∃ k : Nat, k ≤ l.length ∧ i = .int .i64 k ∧ Hid (placeN l key = k + ((l.drop k).takeWhile (lessK key)).length)) (fun i => l.length - (intOf i).toNat)
 case atStart => exact ⟨0, by omega, rfl, by simp [Hid, placeN]⟩
 case round =>
  obtain ⟨k, hk, rfl, HP⟩ := hrel
  by_cases hlt : k < l.length
  ·obtain ⟨b, o, rfl, hb, c0, _, _⟩ := hs.cells k hlt
   unfold strV at c0
   have HD : Hid (l.drop k = l[k] :: l.drop (k + 1)) := List.drop_eq_getElem_cons hlt
   have hltI : (k : Int) < l.length := by omega
   by_cases hless : lessK key l[k] = true
   ·have hlb : Op.bytesLess l[k].key key = true := hless
    go_wp2
    go_round
    case rel => exact ⟨k + 1, by omega, by go_num, by
     have := HP.out
     rw [HD.out, List.takeWhile_cons, if_pos hless, List.length_cons] at this
     unfold Hid; omega⟩
    case measure => simp [intOf]; omega
   ·have hlb : Op.bytesLess l[k].key key = false := by unfold lessK at hless; simpa using hless
    have HE : Hid (placeN l key = k) := by
     have := HP.out
     rw [HD.out, List.takeWhile_cons, if_neg hless] at this
     unfold Hid; simpa using this
    have HT : Hid (thereB l key = (l[k].key == key)) := by
     unfold Hid thereB
     rw [HE.out, List.getElem?_eq_getElem hlt]; rfl
    go_wp2
    go_quiet (fail)
    go_wp2
    go_ret2
    exact ⟨by rw [HE.out, HT.out]; rfl, _, rfl⟩
  ·have HE : Hid (placeN l key = k) := by
     have := HP.out
     rw [List.drop_eq_nil_of_le (by omega)] at this
     unfold Hid; simpa using this
   have HT : Hid (thereB l key = false) := by
    unfold Hid thereB
    rw [HE.out, List.getElem?_eq_none (by omega)]; rfl
   have hltI : ¬ (k : Int) < l.length := by omega
   go_wp2
   go_quiet (fail)
   go_wp2
   go_ret2
   exact ⟨by rw [HE.out, HT.out]; rfl, _, rfl⟩
theorem placeN_le (l : List ItR) (key : List UInt8) : placeN l key ≤ l.length := (List.takeWhile_prefix _).length_le
theorem thereB_lt {l : List ItR} {key : List UInt8} (h : thereB l key = true) : placeN l key < l.length := by
 unfold thereB at h
 by_cases hlt : placeN l key < l.length
 ·exact hlt
 ·rw [List.getElem?_eq_none (by omega)] at h; simp at h
def putN (l : List ItR) (key value : List UInt8) : List ItR := l.take (placeN l key) ++ [⟨key, value, 0⟩] ++ l.drop (if thereB l key then placeN l key + 1 else placeN l key)
def delN (l : List ItR) (key : List UInt8) : List ItR := l.take (placeN l key) ++ l.drop (placeN l key + 1)
def OwnI (w : World) (base : Nat) (v : Value) (l : List ItR) : Prop := w.ownsRow base 84 3 v l.length (itsC l)
theorem Tryz.infoItem : (Tryz.prog.info? 84).map (fun i => (i.zero, i.size, i.bytes)) = some (some (.agg #[.string ⟨#[]⟩, .string ⟨#[]⟩, .int .i64 0]), 3, 40) := by kernel_rfl
theorem itsC_one (l : List ItR) : ∀ u ∈ itsC l, u.oneCell' = true := fun u hu => by
 obtain ⟨x, _, hx⟩ := List.mem_flatMap.1 hu
 simp only [itC, strV, List.mem_cons, List.not_mem_nil, or_false] at hx
 rcases hx with rfl | rfl | rfl <;> rfl
theorem itsC_append (l m : List ItR) : itsC (l ++ m) = itsC l ++ itsC m := by simp [itsC]
theorem wp_appendI {w : World} {ops : Array Oper} {rest : List Oper} {o : Oper} {a : Act} {Q : Exit → Act → World → Prop} (hgd : o.guard = none) (s x : Operand)
  (ho : o.op = .call { callee := .builtin .append, args := #[s, x], argTypes := #[78, 78] })
  (base : Nat) (v : Value) (l : List ItR) (hs : a.eval s = v) (hown : OwnI w base v l)
  (ax : Option Addr) (n c : Nat) (m : List ItR) (hx : a.eval x = .slice ax n c) (hn : n = m.length) (hm : SlI w ax m) (hnil : ax = none → n = 0 ∧ c = 0)
  (hlen : l.length + m.length ≤ 1000000) (hbase : base ≤ w.heap.size)
  (h : ∀ a' n' cap' w', OwnI w' base (.slice a' n' cap') (l ++ m) → Frame (fun k => v.ownBlock = some k) w w' → ((Value.slice a' n' cap').ownBlock = v.ownBlock ∨ (Value.slice a' n' cap').ownBlock = some w.heap.size) → wpList Tryz.prog ops Q rest (a.put o.dst (.slice a' n' cap')) w') :
  wpList Tryz.prog ops Q (o :: rest) a w := by
 subst hn
 refine wp_appendV hgd s x 78 ho base 84 _ 3 40 Tryz.underlying78 Tryz.infoItem rfl (by decide) v l.length (itsC l) hs hown ax m.length c (itsC m) hx (itsC_length m) hm hnil (itsC_one m) (by unfold maxLen; omega) (by omega) hbase ?_
 intro v' w' ho' hf hat
 rw [← itsC_append] at ho'
 obtain ⟨a', cap', rfl, _⟩ := owns_form ho'
 refine h a' _ cap' w' ?_ hf hat
 unfold OwnI
 rw [List.length_append]
 exact ho'
theorem op_appendV {P : Program} {w : World} {o : Oper} {a : Act} {K : Act → World → Prop} {Q : Exit → Act → World → Prop} (s x : Operand) (t : TypeId)
  (ho : o.op = .call { callee := .builtin .append, args := #[s, x], argTypes := #[t, t] })
  (base : Nat) (e : TypeId) (z : Value) (size bytes : Nat) (ht : P.underlying t = some (.slice e)) (hi : (P.info? e).map (fun i => (i.zero, i.size, i.bytes)) = some (some z, size, bytes)) (hzs : z.cells.size = size) (hsz : 0 < size)
  (v : Value) (n : Nat) (xs : List Value) (hs : a.eval s = v) (hown : w.ownsRow base e size v n xs)
  (ad : Addr) (m c : Nat) (news : List Value) (hx : a.eval x = .slice (some ad) m c) (hl : news.length = m * size) (hnews : SlV w (some ad) news) (h1 : ∀ u ∈ news, u.oneCell' = true)
  (h63 : n + m ≤ maxLen) (hbytes : (n + m) * bytes ≤ 140737488355328) (hbase : base ≤ w.heap.size)
  (h : ∀ v' w', w'.ownsRow base e size v' (n + m) (xs ++ news) → Frame (fun k => v.ownBlock = some k) w w' → (v'.ownBlock = v.ownBlock ∨ v'.ownBlock = some w.heap.size) → K (a.put o.dst v') w') : o.wp P a w K Q := by
 obtain ⟨i, hi0, hz, hsize, hby⟩ := info_parts hi
 obtain ⟨v', w', hr, h2, h3, _, h5⟩ := run_append_own_at (P := P) w base t o.type e i z size bytes ht hi0 hz hsize hby hzs hsz v n xs hown ad m c news hl (fun j u hj => by
  obtain ⟨hj1, hj2⟩ := List.getElem?_eq_some_iff.1 hj
  obtain ⟨b, k, ha, _, hc⟩ := hnews j hj1
  cases ha
  rw [addr_add, hc, hj2]) h1 h63 hbytes hbase
 unfold Oper.wp execOp
 simp only [ho, resolve, invoke, builtin, Sem.run_bind, Sem.run_pure, Result.andThen_ok, List.map_toArray, List.map_cons, List.map_nil, hs, hx, hr]
 exact h v' w' h2 (Frame.of_grown h3) h5
theorem step_appendI {ops : Array Oper} {w : World} {o : Oper} {a : Act} {K : Act → World → Prop} {Q : Exit → Act → World → Prop} {E : Prop} (hgd : o.guard = none) (s x : Operand)
  (ho : o.op = .call { callee := .builtin .append, args := #[s, x], argTypes := #[78, 78] })
  (base : Nat) (v : Value) (l : List ItR) (hs : a.eval s = v) (hown : OwnI w base v l) (ad : Addr) (n c : Nat) (m : List ItR) (hx : a.eval x = .slice (some ad) n c) (hn : n = m.length) (hm : SlI w (some ad) m)
  (hlen : l.length + m.length ≤ 1000000) (hbase : base ≤ w.heap.size)
  (h : ∀ a' n' cap' w', OwnI w' base (.slice a' n' cap') (l ++ m) → Frame (fun k => v.ownBlock = some k) w w' → ((Value.slice a' n' cap').ownBlock = v.ownBlock ∨ (Value.slice a' n' cap').ownBlock = some w.heap.size) → K (a.put o.dst (.slice a' n' cap')) w') :
  if Region.wanted o (yielded ops a.tmps) = true then Oper.wp Tryz.prog o a w K Q else E := by
 have hw : Region.wanted o (yielded ops a.tmps) = true := by simp [Region.wanted, hgd]
 rw [if_pos hw]
 subst hn
 refine op_appendV s x 78 ho base 84 _ 3 40 Tryz.underlying78 Tryz.infoItem rfl (by decide) v l.length (itsC l) hs hown ad m.length c (itsC m) hx (itsC_length m) hm (itsC_one m) (by unfold maxLen; omega) (by omega) hbase ?_
 intro v' w' ho' hf hat
 rw [← itsC_append] at ho'
 obtain ⟨a', cap', rfl, _⟩ := owns_form ho'
 refine h a' _ cap' w' ?_ hf hat
 unfold OwnI
 rw [List.length_append]
 exact ho'
theorem SlI.take {w : World} {a : Option Addr} {l : List ItR} (h : SlI w a l) (k : Nat) (hk : k ≤ l.length) : SlI w a (l.take k) := by
 intro i hi
 have e := flat_take itC 3 l (fun _ _ => rfl) k hk
 have hv : (itsC l)[i]? = some ((itsC (l.take k))[i]) := by
  have h1 : (itsC (l.take k))[i]? = ((itsC l).take (k * 3))[i]? := by unfold itsC; rw [e]
  have hlt : i < k * 3 := by
   have := itsC_length (l.take k)
   rw [List.length_take, Nat.min_eq_left hk] at this; omega
  rw [List.getElem?_take_of_lt hlt] at h1
  rw [← h1]; exact List.getElem?_eq_getElem hi
 exact SlV.at h hv
theorem SlI.drop {w : World} {b o : Nat} {l : List ItR} (h : SlI w (some ⟨b, o, none⟩) l) (k : Nat) (hk : k ≤ l.length) : SlI w (some ⟨b, o + k * 3, none⟩) (l.drop k) := by
 intro i hi
 have e := flat_drop itC 3 l (fun _ _ => rfl) k hk
 have hv : (itsC l)[k * 3 + i]? = some ((itsC (l.drop k))[i]) := by
  rw [← List.getElem?_drop]
  unfold itsC at hi ⊢
  rw [e]; exact List.getElem?_eq_getElem hi
 obtain ⟨b', o', ha, hb, hc⟩ := SlV.at h hv
 cases ha
 exact ⟨b, o + k * 3, rfl, hb, by rw [Nat.add_assoc]; exact hc⟩
end Go.Proofs.YtekegfbjbainhaaGreat


namespace Go.Proofs.YtekegfbjbainhaaGreat
open Go.RowKit
set_option maxRecDepth 100000 in
set_option maxHeartbeats 400000 in
theorem refDigest_any (a : Option Addr) (n cap : Nat) (l : List UInt8) (w : World) (hn : n = l.length) (hl : l.length ≤ maxLen) (hc : SlB w a l) :
  Calls Tryz.prog 10 #[.slice a n cap] w fun e w' => e = .returned (digV l) ∧ Below w.heap.size w w' := by
 subst hn
 unfold maxLen at hl
 go_enter Tryz.func10, Tryz.ntmps10
 go_wp2
 go_loop [3, 4] (fun n i => ∃ k : Nat, k ≤ l.length ∧ i = .int .i64 k ∧ n = .int .u64 (rawD (l.take k))) (fun _ i => l.length - (intOf i).toNat)
 case atStart => exact ⟨0, Nat.zero_le _, rfl, rfl⟩
 case round =>
  obtain ⟨k, hk, rfl, rfl⟩ := hrel
  by_cases hlt : k < l.length
  ·obtain ⟨b, o, rfl, hb, hcell⟩ := hc k hlt
   have hrb := rawD_bd (l.take k)
   have h256 : (l[k].toNat : Int) < 256 := by have := l[k].toNat_lt; omega
   have HS : Hid (rawD (l.take (k + 1)) = mixB (rawD (l.take k)) l[k]) := by rw [take_snocL _ _ hlt]; exact rawD_snoc _ _
   go_wp2
   go_round
   case rel => exact ⟨k + 1, by omega, by go_num, by rw [HS.out]; unfold mixB; with_reducible rfl⟩
   case measure => simp [intOf]; omega
  ·have hrb := rawD_bd (l.take k)
   have HE : Hid (l.take k = l) := List.take_of_length_le (by omega)
   go_wp2
   rw [HE.out]
   have HA := stirA_bd (rawD l)
   have HB := stirB_bd (stirA (rawD l)) HA.1 HA.2
   have hN : Hid (digV l = .agg ((bytesN (stirB (stirA (rawD l)))).map u8c).toArray) := rfl
   rw [show (IntKind.u64.wrap (bits BinOp.xor IntKind.u64 (rawD l) (rawD l / 4294967296) * 11400714819323198485)) = stirA (rawD l) from rfl]
   rw [show bits BinOp.xor IntKind.u64 (stirA (rawD l)) (stirA (rawD l) / 536870912) = stirB (stirA (rawD l)) from rfl]
   generalize stirB (stirA (rawD l)) = N at *
   have hcs : Hid (digV l = _) := hN.out.trans (congrArg Value.agg (cells_bytesN N HB.1 HB.2))
   clear hN
   go_rounds 9
   go_returns
   exact ⟨by rw [hcs.out], by go_grown⟩
set_option maxRecDepth 100000 in
set_option maxHeartbeats 400000 in
theorem stir_any (n : Int) (w : World) (h0 : 0 ≤ n) :
  Calls Tryz.prog 108 #[.int .u64 n] w fun e w' => e = .returned (.int .u64 (stirB (stirA n))) ∧ w' = w := by
 go_enter Tryz.func108, Tryz.ntmps108
 go_wp2
 go_ret
 exact ⟨rfl, rfl⟩
set_option maxRecDepth 100000 in
set_option maxHeartbeats 400000 in
theorem fromNumber_any (N : Int) (w : World) (h0 : 0 ≤ N) (h1 : N < 18446744073709551616) :
  Calls Tryz.prog 107 #[.int .u64 N] w fun e w' => e = .returned (.agg ((bytesN N).map u8c).toArray) ∧ ∃ c1 c2 : Array Value, w' = (w.alloc (.cells c1 36)).alloc (.cells c2 36) := by
 have hcs : Hid (((bytesN N).map u8c).toArray = _) := cells_bytesN N h0 h1
 go_enter Tryz.func107, Tryz.ntmps107
 go_wp2
 go_rounds 9
 go_returns
 exact ⟨by rw [hcs.out], _, _, rfl⟩
set_option maxRecDepth 100000 in
set_option maxHeartbeats 400000 in
theorem of_any (a : Option Addr) (cap : Nat) (l : List UInt8) (w : World) (hl : l.length ≤ maxLen) (hc : SlB w a l) :
  Calls Tryz.prog 67 #[.slice a l.length cap] w fun e w' => e = .returned (digV l) ∧ ∃ c1 c2 c3 : Array Value, w' = ((w.alloc (.cells c1 36)).alloc (.cells c2 36)).alloc (.cells c3 36) := by
 unfold maxLen at hl
 go_enter Tryz.func67, Tryz.ntmps67
 go_wp2
 go_loop [3, 8] (fun n i => ∃ k : Nat, k ≤ l.length ∧ i = .int .i64 k ∧ n = .int .u64 (rawD (l.take k))) (fun _ i => l.length - (intOf i).toNat)
 case atStart => exact ⟨0, Nat.zero_le _, rfl, rfl⟩
 case round =>
  obtain ⟨k, hk, rfl, rfl⟩ := hrel
  by_cases hlt : k < l.length
  ·obtain ⟨b, o, rfl, hb, hcell⟩ := hc k hlt
   have hrb := rawD_bd (l.take k)
   have h256 : (l[k].toNat : Int) < 256 := by have := l[k].toNat_lt; omega
   have HS : Hid (rawD (l.take (k + 1)) = mixB (rawD (l.take k)) l[k]) := by rw [take_snocL _ _ hlt]; exact rawD_snoc _ _
   go_wp2
   go_round
   case rel => exact ⟨k + 1, by omega, by go_num, by rw [HS.out]; unfold mixB; with_reducible rfl⟩
   case measure => simp [intOf]; omega
  ·have hrb := rawD_bd (l.take k)
   have HE : Hid (l.take k = l) := List.take_of_length_le (by omega)
   go_wp2_with fail
   rw [HE.out] at hrb ⊢
   have HN := numD_bd l
   refine (stir_any _ _ hrb.1).mono ?_
   rintro e w1 ⟨rfl, rfl⟩
   rw [show stirB (stirA (rawD l)) = numD l from rfl]
   go_wp2_with fail
   refine (fromNumber_any (numD l) _ HN.1 HN.2).mono ?_
   rintro e w1 ⟨rfl, c1, c2, rfl⟩
   have hcs : Hid (digV l = _) := congrArg Value.agg (cells_bytesN (numD l) HN.1 HN.2)
   rw [cells_bytesN (numD l) HN.1 HN.2]
   go_wp2
   go_returns
   exact ⟨by rw [hcs.out], _, _, _, rfl⟩
set_option maxRecDepth 100000 in
set_option maxHeartbeats 400000 in
theorem digest_any (a : Option Addr) (n cap : Nat) (l : List UInt8) (w : World) (hn : n = l.length) (hl : l.length ≤ maxLen) (hc : SlB w a l) :
  Calls Tryz.prog 35 #[.slice a n cap] w fun e w' => e = .returned (digV l) ∧ Below w.heap.size w w' := by
 subst hn
 have HN := numD_bd l
 have hcs : Hid (digV l = _) := congrArg Value.agg (cells_bytesN (numD l) HN.1 HN.2)
 go_enter Tryz.func35, Tryz.ntmps35
 go_wp2_with fail
 refine (of_any a cap l _ hl (hc.below ((Below.refl _ _).alloc (Nat.le_refl _) _) (Nat.le_refl _))).mono ?_
 rintro e w1 ⟨rfl, c1, c2, c3, rfl⟩
 rw [hcs.out]
 go_wp2
 go_returns
 exact ⟨by rw [hcs.out], by go_grown⟩
end Go.Proofs.YtekegfbjbainhaaGreat


namespace Go.Proofs.YtekegfbjbainhaaGreat
open Go.RowKit
def bt (n : Nat) : UInt8 := UInt8.ofNat n
theorem bt_c {n : Nat} (h : n < 256) : u8c (bt n) = .int .u8 (n : Int) := by
 unfold u8c bt
 rw [UInt8.toNat_ofNat_of_lt' h]
def itB (level : Nat) (x : ItR) : List UInt8 := bt x.key.length :: x.key ++ ((if level = 0 then [bt x.more.length] else []) ++ x.more)
def codeB (level : Nat) (l : List ItR) : List UInt8 := bt level :: bt l.length :: l.flatMap (itB level)
def prefB (level n : Nat) (l : List ItR) : List UInt8 := bt level :: bt n :: l.flatMap (itB level)
def ItOk (x : ItR) : Prop := x.key.length ≤ 12 ∧ x.more.length ≤ 12
theorem itB_length (level : Nat) (x : ItR) (h : ItOk x) : (itB level x).length ≤ 26 := by
 obtain ⟨h1, h2⟩ := h
 unfold itB
 split <;> simp <;> omega
theorem flatB_length (level : Nat) : ∀ (l : List ItR), (∀ x ∈ l, ItOk x) → (l.flatMap (itB level)).length ≤ l.length * 26
 | [], _ => by simp
 | x :: l, h => by
  have h1 := flatB_length level l (fun y hy => h y (by simp [hy]))
  have h2 := itB_length level x (h x (by simp))
  rw [List.flatMap_cons, List.length_append, List.length_cons]; omega
theorem prefB_snoc (level n : Nat) (l : List ItR) (k : Nat) (hk : k < l.length) : prefB level n (l.take (k + 1)) = prefB level n (l.take k) ++ itB level l[k] := by
 unfold prefB
 rw [List.take_succ_eq_append_getElem hk, List.flatMap_append]; simp
theorem prefB_length (level n : Nat) (l : List ItR) (h : ∀ x ∈ l, ItOk x) : (prefB level n l).length ≤ l.length * 26 + 2 := by
 have := flatB_length level l h
 unfold prefB
 rw [List.length_cons, List.length_cons]; omega
def CodeSt (w : World) (xb : Nat) (P X : List Value) (W : World) : Prop := Below w.heap.size w W ∧ RowV W w.heap.size 80 P ∧ RowV W xb 84 X
theorem CodeSt.next {w W W' : World} {xb : Nat} {P X : List Value} {v : Value} {l : List UInt8} (h : CodeSt w xb P X W) (ho : OwnB W (w.heap.size + 1) v l) (hf : Frame (fun k => v.ownBlock = some k) W W') : CodeSt w xb P X W' := by
 have hz := h.1.size
 refine ⟨h.1.trans (hf.below (by omega) (fun k hk => by have := (ho.lt k hk).1; omega)), h.2.1.of_block (hf.block _ h.2.1.lt (owns_ne ho h.2.1 (by decide))), h.2.2.of_block (hf.block _ h.2.2.lt (owns_ne ho h.2.2 (by decide)))⟩
theorem CodeSt.alloc {w W : World} {xb : Nat} {P X : List Value} (h : CodeSt w xb P X W) (o : Obj) : CodeSt w xb P X (W.alloc o) := ⟨h.1.alloc h.1.size _, h.2.1.alloc _, h.2.2.alloc _⟩
theorem CodeSt.cells {w W : World} {xb : Nat} {p0 p1 x0 x1 x2 : Value} (h : CodeSt w xb [p0, p1] [x0, x1, x2] W) : W.cell? ⟨w.heap.size, 0, none⟩ = some p0 ∧ W.cell? ⟨w.heap.size, 1, none⟩ = some p1 ∧ W.cell? ⟨xb, 0, none⟩ = some x0 ∧ W.cell? ⟨xb, 1, none⟩ = some x1 :=
 ⟨h.2.1.cell 0 (by simp), h.2.1.cell 1 (by simp), h.2.2.cell 0 (by simp), h.2.2.cell 1 (by simp)⟩
set_option maxRecDepth 100000 in
set_option maxHeartbeats 1000000 in
theorem code_any (level : Nat) (a : Option Addr) (n cap : Nat) (l : List ItR) (w : World) (hn : n = l.length) (hl : l.length ≤ 200) (hlv : level ≤ 200) (hok : ∀ x ∈ l, ItOk x) (hs : SlI w a l) :
  Calls Tryz.prog 86 #[.agg #[.int .i64 (level : Int), .slice a n cap]] w fun e w' => ∃ a' n' c', e = .returned (.slice a' n' c') ∧ OwnB w' w.heap.size (.slice a' n' c') (codeB level l) ∧ Below w.heap.size w w' := by
 have hb1 : OwnB ((w.alloc (.cells #[.int .i64 (level : Int), .slice a n cap] 80)).alloc (.cells #[.int .u8 (level : Int), .int .u8 (n : Int)] 5)) (w.heap.size + 1) (.slice (some ⟨w.heap.size + 1, 0, none⟩) 2 2) (prefB level n []) := by
  have := OwnB.built (w.alloc (.cells #[.int .i64 (level : Int), .slice a n cap] 80)) (w.heap.size + 1) [bt level, bt n] (by simp) (by simp [maxLen])
  simp only [World.size_alloc, List.map_cons, List.map_nil] at this
  rw [bt_c (by omega), bt_c (by omega)] at this
  exact this
 have hp1 : RowV ((w.alloc (.cells #[.int .i64 (level : Int), .slice a n cap] 80)).alloc (.cells #[.int .u8 (level : Int), .int .u8 (n : Int)] 5)) w.heap.size 80 [.int .i64 (level : Int), .slice a n cap] := (RowV.new w _ _).alloc _
 have hlvI : (level : Int) ≤ 200 := by omega
 have hnI : (n : Int) ≤ 200 := by omega
 have HN : Hid (n = l.length) := hn
 clear hn
 go_enter Tryz.func86, Tryz.ntmps86
 go_wp2
 go_loopw [3, 4] (fun b i wr => ∃ (k n' c' : Nat) (a' : Option Addr), k ≤ n ∧ i = .int .i64 k ∧ b = .slice a' n' c' ∧ OwnB wr (w.heap.size + 1) (.slice a' n' c') (prefB level n (l.take k)) ∧ Below w.heap.size w wr ∧ RowV wr w.heap.size 80 [.int .i64 (level : Int), .slice a n cap]) (fun _ i _ => n - (intOf i).toNat)
 case atStart => exact ⟨0, 2, 2, _, by omega, by simp, rfl, by simpa using hb1, by go_grown, hp1⟩
 case round =>
  obtain ⟨k, n', c', a', hk, rfl, rfl, hown, hbel, hp⟩ := hrel
  have hc0 := hp.cell 0 (by simp)
  have hc1 := hp.cell 1 (by simp)
  simp only [List.getElem_cons_zero, List.getElem_cons_succ] at hc0 hc1
  by_cases hlt : k < n
  ·have hkl : k < l.length := by have := HN.out; omega
   obtain ⟨b, o, rfl, hb, x0, x1, x2⟩ := SlI.cells hs k hkl
   have y0 : wr.cell? ⟨b, o + k * 3, none⟩ = some (.string ⟨l[k].key.toArray⟩) := by rw [hbel.cell (p := ⟨b, o + k * 3, none⟩) hb]; exact x0
   have y1 : wr.cell? ⟨b, o + k * 3 + 1, none⟩ = some (.string ⟨l[k].more.toArray⟩) := by rw [hbel.cell (p := ⟨b, o + k * 3 + 1, none⟩) hb]; exact x1
   have y2 : wr.cell? ⟨b, o + k * 3 + 2, none⟩ = some (.int .i64 (l[k].below : Int)) := by rw [hbel.cell (p := ⟨b, o + k * 3 + 2, none⟩) hb]; exact x2
   clear x0 x1 x2 hb1 hp1 hs
   obtain ⟨hkl12, hml12⟩ := hok l[k] (List.getElem_mem hkl)
   have hst : CodeSt w wr.heap.size [.int .i64 (level : Int), .slice (some ⟨b, o, none⟩) n cap] [.string ⟨l[k].key.toArray⟩, .string ⟨l[k].more.toArray⟩, .int .i64 (l[k].below : Int)] (wr.alloc (.cells #[.string ⟨l[k].key.toArray⟩, .string ⟨l[k].more.toArray⟩, .int .i64 (l[k].below : Int)] 84)) :=
    ⟨hbel.alloc hbel.size _, hp.alloc _, RowV.new wr _ _⟩
   have HLN : Hid ((prefB level n (l.take k)).length ≤ 6000) := by
    have := prefB_length level n (l.take k) (fun x hx => hok x (List.mem_of_mem_take hx))
    rw [List.length_take] at this
    unfold Hid; omega
   have hklI : (l[k].key.length : Int) ≤ 12 := by omega
   have hmlI : (l[k].more.length : Int) ≤ 12 := by omega
   have hltI : (k : Int) < n := by omega
   by_cases hl0 : level = 0
   ·have hlI : ((level : Int) == 0) = true := by simp [hl0]
    have HPS : Hid (prefB level n (l.take (k + 1)) = prefB level n (l.take k) ++ [bt l[k].key.length] ++ l[k].key ++ [bt l[k].more.length] ++ l[k].more) := by
     unfold Hid; rw [prefB_snoc level n l k hkl]; simp [itB, hl0]
    clear hl0
    go_wp2_with (first
     | (at_builtin; refine wp_appendB (by rfl) (.tmp 26) (.tmp 31) (by rfl) (w.heap.size + 1) _ (prefB level n (l.take k)) (by rfl) (by exact (hown.alloc _).alloc _) (some ⟨wr.heap.size + 1, 0, none⟩) 1 1 [bt l[k].key.length] (by rfl) (by rfl) (by exact SlB.of_row (t := 5) (by rw [List.map_cons, List.map_nil, bt_c (by omega)]; exact RowV.new_at _ _ _ _ (by simp))) (fun h => by cases h) (by have := HLN.out; simp only [List.length_append, List.length_cons, List.length_nil] at this ⊢; omega) (by have := hbel.size; simp only [World.size_alloc]; omega) ?_; intro a1 n1 c1 w1 hn1 ho1 hs1 hf1 hat1; have hc1 := (hst.alloc _).next ((hown.alloc _).alloc _) hf1; obtain ⟨e10, e11, e12, e13⟩ := hc1.cells; clear hn1 hat1)
     | (at_builtin; refine wp_appendS (by rfl) (.tmp 33) (.tmp 35) (by rfl) (w.heap.size + 1) _ (prefB level n (l.take k) ++ [bt l[k].key.length]) (by rfl) ho1 l[k].key (by rfl) (by have := HLN.out; simp only [List.length_append, List.length_cons, List.length_nil] at this ⊢; omega) (by have := hbel.size; have := hc1.2.1.lt; omega) ?_; intro a2 n2 c2 w2 ho2 hs2 hf2; have hc2 := hc1.next ho1 hf2; obtain ⟨e20, e21, e22, e23⟩ := hc2.cells)
     | (at_builtin; refine wp_appendB (by rfl) (.tmp 40) (.tmp 45) (by rfl) (w.heap.size + 1) _ (prefB level n (l.take k) ++ [bt l[k].key.length] ++ l[k].key) (by rfl) (by exact ho2.alloc _) (some ⟨w2.heap.size, 0, none⟩) 1 1 [bt l[k].more.length] (by rfl) (by rfl) (by exact SlB.of_row (t := 5) (by rw [List.map_cons, List.map_nil, bt_c (by omega)]; exact RowV.new_at _ _ _ _ (by simp))) (fun h => by cases h) (by have := HLN.out; simp only [List.length_append, List.length_cons, List.length_nil] at this ⊢; omega) (by have := hbel.size; have := hc2.2.1.lt; simp only [World.size_alloc]; omega) ?_; intro a3 n3 c3 w3 hn3 ho3 hs3 hf3 hat3; have hc3 := (hc2.alloc _).next (ho2.alloc _) hf3; obtain ⟨e30, e31, e32, e33⟩ := hc3.cells; clear hn3 hat3)
     | (at_builtin; refine wp_appendS (by rfl) (.tmp 47) (.tmp 49) (by rfl) (w.heap.size + 1) _ (prefB level n (l.take k) ++ [bt l[k].key.length] ++ l[k].key ++ [bt l[k].more.length]) (by rfl) ho3 l[k].more (by rfl) (by have := HLN.out; simp only [List.length_append, List.length_cons, List.length_nil] at this ⊢; omega) (by have := hbel.size; have := hc3.2.1.lt; omega) ?_; intro a4 n4 c4 w4 ho4 hs4 hf4; have hc4 := hc3.next ho3 hf4))
    refine ⟨⟨k + 1, n4, c4, a4, by omega, by go_num, rfl, ?_, hc4.1, hc4.2.1⟩, by simp [intOf]; omega⟩
    rw [HPS.out]
    exact ho4
   ·have hlI : ((level : Int) == 0) = false := by simp; omega
    have HPS : Hid (prefB level n (l.take (k + 1)) = prefB level n (l.take k) ++ [bt l[k].key.length] ++ l[k].key ++ l[k].more) := by
     unfold Hid; rw [prefB_snoc level n l k hkl]; simp [itB, hl0]
    clear hl0
    go_wp2_with (first
     | (at_builtin; refine wp_appendB (by rfl) (.tmp 26) (.tmp 31) (by rfl) (w.heap.size + 1) _ (prefB level n (l.take k)) (by rfl) (by exact (hown.alloc _).alloc _) (some ⟨wr.heap.size + 1, 0, none⟩) 1 1 [bt l[k].key.length] (by rfl) (by rfl) (by exact SlB.of_row (t := 5) (by rw [List.map_cons, List.map_nil, bt_c (by omega)]; exact RowV.new_at _ _ _ _ (by simp))) (fun h => by cases h) (by have := HLN.out; simp only [List.length_append, List.length_cons, List.length_nil] at this ⊢; omega) (by have := hbel.size; simp only [World.size_alloc]; omega) ?_; intro a1 n1 c1 w1 hn1 ho1 hs1 hf1 hat1; have hc1 := (hst.alloc _).next ((hown.alloc _).alloc _) hf1; obtain ⟨e10, e11, e12, e13⟩ := hc1.cells; clear hn1 hat1)
     | (at_builtin; refine wp_appendS (by rfl) (.tmp 33) (.tmp 35) (by rfl) (w.heap.size + 1) _ (prefB level n (l.take k) ++ [bt l[k].key.length]) (by rfl) ho1 l[k].key (by rfl) (by have := HLN.out; simp only [List.length_append, List.length_cons, List.length_nil] at this ⊢; omega) (by have := hbel.size; have := hc1.2.1.lt; omega) ?_; intro a2 n2 c2 w2 ho2 hs2 hf2; have hc2 := hc1.next ho1 hf2; obtain ⟨e20, e21, e22, e23⟩ := hc2.cells)
     | (at_builtin; refine wp_appendS (by rfl) (.tmp 47) (.tmp 49) (by rfl) (w.heap.size + 1) _ (prefB level n (l.take k) ++ [bt l[k].key.length] ++ l[k].key) (by rfl) ho2 l[k].more (by rfl) (by have := HLN.out; simp only [List.length_append, List.length_cons, List.length_nil] at this ⊢; omega) (by have := hbel.size; have := hc2.2.1.lt; omega) ?_; intro a4 n4 c4 w4 ho4 hs4 hf4; have hc4 := hc2.next ho2 hf4))
    refine ⟨⟨k + 1, n4, c4, a4, by omega, by go_num, rfl, ?_, hc4.1, hc4.2.1⟩, by simp [intOf]; omega⟩
    rw [HPS.out]
    exact ho4
  ·have HE : Hid (prefB level n (l.take k) = codeB level l) := by
    unfold Hid prefB codeB; rw [List.take_of_length_le (by have := HN.out; omega), HN.out]
   go_wp2
   go_ret
   refine ⟨a', n', c', rfl, ?_, hbel⟩
   rw [HE.out] at hown
   exact owns_base hown (fun q hq => by have := (hown.lt q hq).1; omega)
end Go.Proofs.YtekegfbjbainhaaGreat


namespace Go.Proofs.YtekegfbjbainhaaGreat
open Go.RowKit
def endB (level : Nat) (key : List UInt8) : Bool := decide (level < 6) && ((digB (bt level :: key)).getD 7 0).toNat % 4 == 0
theorem mod4_nat (n : Nat) : ((n : Int) % 4 == 0) = (n % 4 == 0) := by
 rw [Bool.eq_iff_iff]; simp; omega
set_option maxRecDepth 100000 in
set_option maxHeartbeats 1000000 in
theorem isEnd_any (level : Nat) (key : List UInt8) (w : World) (hlv : level ≤ 200) (hk : key.length ≤ 200) :
  Calls Tryz.prog 144 #[.int .i64 (level : Int), .string ⟨key.toArray⟩] w fun e w' => e = .returned (.bool (endB level key)) ∧ Below w.heap.size w w' := by
 have hlvI : (level : Int) ≤ 200 := by omega
 have hb1 : OwnB (w.alloc (.cells #[.int .u8 (level : Int)] 5)) w.heap.size (.slice (some ⟨w.heap.size, 0, none⟩) 1 1) [bt level] := by
  have := OwnB.built w w.heap.size [bt level] (Nat.le_refl _) (by simp [maxLen])
  simp only [List.map_cons, List.map_nil] at this
  rw [bt_c (by omega)] at this
  exact this
 obtain ⟨dd, hdd⟩ : ∃ dd, dd = digB (bt level :: key) := ⟨_, rfl⟩
 have hdl : dd.length = 8 := by rw [hdd]; rfl
 obtain ⟨x0, x1, x2, x3, x4, x5, x6, x7, rfl⟩ := list8 dd hdl
 have HE : Hid (endB level key = (decide (level < 6) && x7.toNat % 4 == 0)) := by
  unfold Hid endB; rw [← hdd]; rfl
 have HV : Hid (digV (bt level :: key) = .agg #[.int .u8 (x0.toNat : Int), .int .u8 (x1.toNat : Int), .int .u8 (x2.toNat : Int), .int .u8 (x3.toNat : Int), .int .u8 (x4.toNat : Int), .int .u8 (x5.toNat : Int), .int .u8 (x6.toNat : Int), .int .u8 (x7.toNat : Int)]) := by
  unfold Hid; rw [digV_eq, ← hdd]; rfl
 clear hdd hdl
 have h7 : (x7.toNat : Int) ≤ 255 := by have := x7.toNat_lt; omega
 by_cases h6 : level < 6
 all_goals
  have H6 : Hid (((level : Int) < 6) ↔ level < 6) := by unfold Hid; omega
  go_enter Tryz.func144, Tryz.ntmps144
  go_wp2_with (at_builtin; refine wp_appendS (by rfl) (.tmp 10) (.tmp 11) (by rfl) w.heap.size _ [bt level] (by rfl) hb1 key (by rfl) (by simp; omega) (by simp) ?_; intro a1 n1 c1 w1 ho1 hs1 hf1)
  obtain ⟨_, hn1, hnil1⟩ := ho1.sl
  refine (refDigest_any a1 _ c1 (bt level :: key) _ (by rw [hn1]; simp) (by simp [maxLen]; omega) (by simpa using hs1)).mono ?_
  rintro e w2 ⟨rfl, hb2⟩
  rw [HV.out]
  go_wp2
  go_ret
  refine ⟨?_, ?_⟩
  ·rw [HE.out]
   first
    | (show Ending.returned (.bool ((x7.toNat : Int) % 4 == 0)) = _; rw [mod4_nat]; simp [h6]; done)
    | (show Ending.returned (.bool false) = _; simp [h6]; done)
  ·have h1 := hf1.below (B := w.heap.size) (by simp) (fun k hk => by simp [Value.ownBlock] at hk; omega)
   have z1 := h1.size
   simp only [World.size_alloc] at z1
   have h3 := (((Below.refl w.heap.size w).alloc (Nat.le_refl _) (.cells #[.int .u8 (level : Int)] 5)).trans h1).trans (hb2.mono (by omega))
   exact h3.alloc (by have := h3.size; omega) _
end Go.Proofs.YtekegfbjbainhaaGreat


namespace Go.Proofs.YtekegfbjbainhaaGreat
open Go.RowKit
def partF (level : Nat) : List ItR → List ItR → List (List ItR)
 | [], cur => [cur]
 | x :: r, cur => if (endB level x.key && !r.isEmpty) = true then (cur ++ [x]) :: partF level r [] else partF level r (cur ++ [x])
def partedN (level : Nat) (l : List ItR) : List (List ItR) := partF level l []
structure SlR where
 a : Option Addr
 n : Nat
 cap : Nat
def SlR.val (s : SlR) : Value := .slice s.a s.n s.cap
def pgC (level : Nat) (q : SlR × List ItR) : List Value := [.int .i64 (level : Int), q.1.val]
def pgsC (level : Nat) (ps : List (SlR × List ItR)) : List Value := ps.flatMap (pgC level)
theorem pgsC_length (level : Nat) (ps : List (SlR × List ItR)) : (pgsC level ps).length = ps.length * 2 := flat_length (pgC level) 2 ps (fun _ _ => rfl)
theorem pgsC_append (level : Nat) (ps qs : List (SlR × List ItR)) : pgsC level (ps ++ qs) = pgsC level ps ++ pgsC level qs := by simp [pgsC]
theorem pgsC_one (level : Nat) (ps : List (SlR × List ItR)) : ∀ u ∈ pgsC level ps, u.oneCell' = true := fun u hu => by
 obtain ⟨x, _, hx⟩ := List.mem_flatMap.1 hu
 simp only [pgC, SlR.val, List.mem_cons, List.not_mem_nil, or_false] at hx
 rcases hx with rfl | rfl <;> rfl
def OwnP (w : World) (base : Nat) (v : Value) (level : Nat) (ps : List (SlR × List ItR)) : Prop := w.ownsRow base 80 2 v ps.length (pgsC level ps)
theorem Tryz.infoPage : (Tryz.prog.info? 80).map (fun i => (i.zero, i.size, i.bytes)) = some (some (.agg #[.int .i64 0, .slice none 0 0]), 2, 32) := by kernel_rfl
def PgOk (w : World) (base : Nat) (q : SlR × List ItR) : Prop := OwnI w base q.1.val q.2
def PgsOk (w : World) (base : Nat) (v : Value) (ps : List (SlR × List ItR)) : Prop := ∀ q ∈ ps, PgOk w base q ∧ (∀ k, q.1.val.ownBlock = some k → v.ownBlock ≠ some k)
theorem PgOk.frame {w w' : World} {S : Nat → Prop} {base : Nat} {q : SlR × List ItR} (h : PgOk w base q) (hf : Frame S w w') (hS : ∀ k, q.1.val.ownBlock = some k → ¬ S k) : PgOk w' base q := owns_frame h hf hS
theorem wp_appendP {w : World} {ops : Array Oper} {rest : List Oper} {o : Oper} {a : Act} {Q : Exit → Act → World → Prop} (hgd : o.guard = none) (s x : Operand)
  (ho : o.op = .call { callee := .builtin .append, args := #[s, x], argTypes := #[188, 188] })
  (base : Nat) (v : Value) (level : Nat) (ps : List (SlR × List ItR)) (hs : a.eval s = v) (hown : OwnP w base v level ps)
  (ad : Addr) (q : SlR × List ItR) (hx : a.eval x = .slice (some ad) 1 1) (hm : SlV w (some ad) (pgC level q))
  (hlen : ps.length ≤ 1000000) (hbase : base ≤ w.heap.size)
  (h : ∀ a' n' cap' w', OwnP w' base (.slice a' n' cap') level (ps ++ [q]) → Frame (fun k => v.ownBlock = some k) w w' → ((Value.slice a' n' cap').ownBlock = v.ownBlock ∨ (Value.slice a' n' cap').ownBlock = some w.heap.size) → wpList Tryz.prog ops Q rest (a.put o.dst (.slice a' n' cap')) w') :
  wpList Tryz.prog ops Q (o :: rest) a w := by
 have e : pgC level q = pgsC level [q] := by simp [pgsC]
 refine wp_appendV hgd s x 188 ho base 80 _ 2 32 Tryz.underlying188 Tryz.infoPage rfl (by decide) v ps.length (pgsC level ps) hs hown (some ad) 1 1 (pgsC level [q]) hx (pgsC_length level [q]) (by rw [← e]; exact hm) (fun h => by cases h) (pgsC_one level [q]) (by unfold maxLen; omega) (by omega) hbase ?_
 intro v' w' ho' hf hat
 rw [← pgsC_append] at ho'
 obtain ⟨a', cap', rfl, _⟩ := owns_form ho'
 refine h a' _ cap' w' ?_ hf hat
 unfold OwnP
 rw [List.length_append]
 exact ho'
theorem owns_ne2 {w : World} {base base' e e' size size' n n' : Nat} {v v' : Value} {xs xs' : List Value} (h : w.ownsRow base e size v n xs) (h' : w.ownsRow base' e' size' v' n' xs') (hne : e ≠ e') : ∀ k, v.ownBlock = some k → v'.ownBlock ≠ some k := by
 intro k hk hk'
 rcases h.2 with ⟨rfl, _⟩ | ⟨g, cap, cur, rfl, hg, hb, _⟩
 ·simp [Value.ownBlock] at hk
 rcases h'.2 with ⟨rfl, _⟩ | ⟨g', cap', cur', rfl, hg', hb', _⟩
 ·simp [Value.ownBlock] at hk'
 simp [Value.ownBlock] at hk hk'
 subst hk; subst hk'
 rw [hb] at hb'
 simp at hb'
 exact hne hb'.2
structure PartSt (w : World) (level : Nat) (W : World) (out cur : SlR) (ps : List (SlR × List ItR)) (curL : List ItR) : Prop where
 hb : Below w.heap.size w W
 hp : RowV W w.heap.size 80 [.int .i64 (level : Int), cur.val]
 ho : OwnP W (w.heap.size + 1) out.val level ps
 hc : OwnI W (w.heap.size + 1) cur.val curL
 hq : PgsOk W (w.heap.size + 1) cur.val ps
theorem PartSt.next {w W W' : World} {level : Nat} {out cur : SlR} {ps : List (SlR × List ItR)} {curL : List ItR} (h : PartSt w level W out cur ps curL) (hb : Below W.heap.size W W') : PartSt w level W' out cur ps curL :=
 ⟨h.hb.trans (hb.mono h.hb.size), h.hp.below h.hp.lt hb, owns_below h.ho hb, owns_below h.hc hb, fun q hq => ⟨owns_below (h.hq q hq).1 hb, (h.hq q hq).2⟩⟩
theorem PartSt.drew {w W : World} {level : Nat} {out cur : SlR} {ps : List (SlR × List ItR)} {curL : List ItR} (h : PartSt w level W out cur ps curL) : PartSt w level W.drew out cur ps curL :=
 ⟨h.hb.drew, h.hp, h.ho, h.hc, h.hq⟩
theorem PartSt.alloc {w W : World} {level : Nat} {out cur : SlR} {ps : List (SlR × List ItR)} {curL : List ItR} (h : PartSt w level W out cur ps curL) (o : Obj) : PartSt w level (W.alloc o) out cur ps curL :=
 h.next ((Below.refl _ _).alloc (Nat.le_refl _) o)
theorem PartSt.push {w W W1 : World} {level : Nat} {out cur cur' : SlR} {ps : List (SlR × List ItR)} {curL : List ItR} {x : ItR} (h : PartSt w level W out cur ps curL)
  (ho : OwnI W1 (w.heap.size + 1) cur'.val (curL ++ [x])) (hf : Frame (fun k => cur.val.ownBlock = some k) W W1) (hat : cur'.val.ownBlock = cur.val.ownBlock ∨ cur'.val.ownBlock = some W.heap.size) :
  PartSt w level (W1.setCell ⟨w.heap.size, 1, none⟩ cur'.val) out cur' ps (curL ++ [x]) := by
 have hp1 : RowV W1 w.heap.size 80 [.int .i64 (level : Int), cur.val] := h.hp.of_block (hf.block _ h.hp.lt (fun e => owns_ne h.hc h.hp (by decide) e))
 have hB1 : Below w.heap.size w W1 := h.hb.trans (hf.below (by have := h.hb.size; omega) (fun k hk => by have := (h.hc.lt k hk).1; omega))
 have hf2 : Frame (fun k => k = w.heap.size) W1 (W1.setCell ⟨w.heap.size, 1, none⟩ cur'.val) := (Frame.refl (fun k => k = w.heap.size) _).setCell (p := ⟨w.heap.size, 1, none⟩) rfl _
 have hout1 : OwnP W1 (w.heap.size + 1) out.val level ps := owns_frame h.ho hf (fun k hk e => owns_ne2 h.ho h.hc (by decide) k hk e)
 refine ⟨hB1.setCell (Nat.le_refl _) _, by simpa using hp1.set 1 cur'.val, ?_, ?_, ?_⟩
 ·exact owns_frame hout1 hf2 (fun k hk e => by have := (hout1.lt k hk).1; omega)
 ·exact owns_frame ho hf2 (fun k hk e => by have := (ho.lt k hk).1; omega)
 ·intro q hq
  obtain ⟨h1, h2⟩ := h.hq q hq
  have h1' : PgOk W1 (w.heap.size + 1) q := h1.frame hf (fun k hk e => h2 k hk e)
  refine ⟨h1'.frame hf2 (fun k hk e => by have := (h1'.lt k hk).1; omega), fun k hk e => ?_⟩
  rcases hat with hat | hat
  ·rw [hat] at e; exact h2 k hk e
  ·rw [hat] at e
   have := (h1.lt k hk).2
   cases e; omega
theorem PartSt.flush {w W W1 W2 : World} {level : Nat} {out out' cur : SlR} {ps : List (SlR × List ItR)} {curL : List ItR} (h : PartSt w level W out cur ps curL)
  (ho : OwnP W1 (w.heap.size + 1) out'.val level (ps ++ [(cur, curL)])) (hf : Frame (fun k => out.val.ownBlock = some k) W W1)
  (hp : RowV W2 w.heap.size 80 [.int .i64 (level : Int), .slice none 0 0]) (hf2 : Frame (fun k => k = w.heap.size) W1 W2) :
  PartSt w level W2 out' ⟨none, 0, 0⟩ (ps ++ [(cur, curL)]) [] := by
 have hB1 : Below w.heap.size w W1 := h.hb.trans (hf.below (by have := h.hb.size; omega) (fun k hk => by have := (h.ho.lt k hk).1; omega))
 have hz := hB1.size
 have hcur1 : OwnI W1 (w.heap.size + 1) cur.val curL := owns_frame h.hc hf (fun k hk e => owns_ne2 h.hc h.ho (by decide) k hk e)
 refine ⟨hB1.trans (hf2.below (by omega) (fun k hk => by omega)), hp, owns_frame ho hf2 (fun k hk e => by have := (ho.lt k hk).1; omega), World.ownsRow_nil _ _ _ _, ?_⟩
 intro q hq
 refine ⟨?_, fun k _ e => by simp [SlR.val, Value.ownBlock] at e⟩
 rcases List.mem_append.1 hq with hq | hq
 ·have h1 := (h.hq q hq).1
  have h1' : PgOk W1 (w.heap.size + 1) q := h1.frame hf (fun k hk e => owns_ne2 h1 h.ho (by decide) k hk e)
  exact h1'.frame hf2 (fun k hk e => by have := (h1'.lt k hk).1; omega)
 ·simp only [List.mem_singleton] at hq
  subst hq
  exact owns_frame hcur1 hf2 (fun k hk e => by have := (hcur1.lt k hk).1; omega)
def PartedPost (w : World) (level : Nat) (l : List ItR) (out : SlR) (w' : World) : Prop :=
 ∃ ps : List (SlR × List ItR), OwnP w' w.heap.size out.val level ps ∧ (∀ q ∈ ps, PgOk w' w.heap.size q) ∧ ps.map (·.2) = partedN level l ∧ Below w.heap.size w w'
set_option maxRecDepth 100000 in
set_option maxHeartbeats 1600000 in
theorem parted_any (level : Nat) (a : Option Addr) (n cap : Nat) (l : List ItR) (w : World) (hn : n = l.length) (hl : l.length ≤ 200) (hlv : level ≤ 200) (hok : ∀ x ∈ l, ItOk x) (hs : SlI w a l) :
  Calls Tryz.prog 120 #[.int .i64 (level : Int), .slice a n cap] w fun e w' => ∃ out : SlR, e = .returned (.slice out.a out.n out.cap) ∧ PartedPost w level l out w' := by
 have hst0 : PartSt w level (w.alloc (.cells #[.int .i64 (level : Int), .slice none 0 0] 80)) ⟨none, 0, 0⟩ ⟨none, 0, 0⟩ [] [] :=
  ⟨(Below.refl _ _).alloc (Nat.le_refl _) _, RowV.new w _ _, World.ownsRow_nil _ _ _ _, World.ownsRow_nil _ _ _ _, fun q hq => by cases hq⟩
 have HN : Hid (n = l.length) := hn
 have hnI : (n : Int) ≤ 200 := by omega
 have hlvI : (level : Int) ≤ 200 := by omega
 clear hn
 go_enter Tryz.func120, Tryz.ntmps120
 go_wp2
 go_loopw [5, 7] (fun o i wr => ∃ (k : Nat) (out cur : SlR) (ps : List (SlR × List ItR)) (curL : List ItR), k ≤ n ∧ i = .int .i64 k ∧ o = .slice out.a out.n out.cap ∧ PartSt w level wr out cur ps curL ∧ curL.length + ps.length ≤ k ∧ Hid (ps.map (·.2) ++ partF level (l.drop k) curL = partedN level l)) (fun _ i _ => n - (intOf i).toNat)
 case atStart => exact ⟨0, _, _, [], [], by omega, by simp, rfl, hst0, by simp, by simp [Hid, partedN]⟩
 case round =>
  obtain ⟨k, out, cur, ps, curL, hk, rfl, rfl, hst, hcl, HP⟩ := hrel
  have hc0 := hst.hp.cell 0 (by simp)
  have hc1 := hst.hp.cell 1 (by simp)
  simp only [List.getElem_cons_zero, List.getElem_cons_succ, SlR.val] at hc0 hc1
  have hf0 := hst.hp.frozen 0
  have hf1 := hst.hp.frozen 1
  by_cases hlt : k < n
  ·have hkl : k < l.length := by have := HN.out; omega
   obtain ⟨b, o, rfl, hb, x0, x1, x2⟩ := SlI.cells hs k hkl
   have y0 : wr.cell? ⟨b, o + k * 3, none⟩ = some (.string ⟨l[k].key.toArray⟩) := by rw [hst.hb.cell (p := ⟨b, o + k * 3, none⟩) hb]; exact x0
   have y1 : wr.cell? ⟨b, o + k * 3 + 1, none⟩ = some (.string ⟨l[k].more.toArray⟩) := by rw [hst.hb.cell (p := ⟨b, o + k * 3 + 1, none⟩) hb]; exact x1
   have y2 : wr.cell? ⟨b, o + k * 3 + 2, none⟩ = some (.int .i64 (l[k].below : Int)) := by rw [hst.hb.cell (p := ⟨b, o + k * 3 + 2, none⟩) hb]; exact x2
   have hk0 : (0 : Int) ≤ (k : Int) := Int.natCast_nonneg _
   have hk1 : (k : Int) < (n : Int) := by omega
   have hbz := hst.hb.size
   have hpz := hst.hp.lt
   have HO : Hid (OwnI (wr.drew.alloc (.cells #[.string ⟨l[k].key.toArray⟩, .string ⟨l[k].more.toArray⟩, .int .i64 (l[k].below : Int)] 84)) (w.heap.size + 1) (.slice cur.a cur.n cur.cap) curL) := hst.drew.hc.alloc _
   have HSL : Hid (SlI (wr.drew.alloc (.cells #[.string ⟨l[k].key.toArray⟩, .string ⟨l[k].more.toArray⟩, .int .i64 (l[k].below : Int)] 84)) (some ⟨wr.heap.size, 0, none⟩) [l[k]]) := SlV.alloc_new wr.drew (itsC [l[k]]) _
   have HLE : Hid (curL.length + [l[k]].length ≤ 1000000) := by unfold Hid; simp; omega
   have HBS : Hid (w.heap.size + 1 ≤ (wr.drew.alloc (.cells #[.string ⟨l[k].key.toArray⟩, .string ⟨l[k].more.toArray⟩, .int .i64 (l[k].below : Int)] 84)).heap.size) := by unfold Hid; simp; omega
   have HPA : Hid (RowV (wr.drew.alloc (.cells #[.string ⟨l[k].key.toArray⟩, .string ⟨l[k].more.toArray⟩, .int .i64 (l[k].below : Int)] 84)) w.heap.size 80 [.int .i64 (level : Int), cur.val]) := hst.drew.hp.alloc _
   have HBA : Hid (Below w.heap.size w (wr.drew.alloc (.cells #[.string ⟨l[k].key.toArray⟩, .string ⟨l[k].more.toArray⟩, .int .i64 (l[k].below : Int)] 84))) := hst.drew.hb.alloc hbz _
   go_wp2
   go_region_law
    ((refine step_appendI (by rfl) (.tmp 18) (.tmp 23) (by rfl) (w.heap.size + 1) (.slice cur.a cur.n cur.cap) curL (by rfl) HO.out ⟨wr.heap.size, 0, none⟩ 1 1 [l[k]] (by rfl) rfl HSL.out HLE.out HBS.out ?_; intro a1 n1 c1 w1 ho1 hf1 hat1; have hp1 : RowV w1 w.heap.size 80 [.int .i64 (level : Int), cur.val] := HPA.out.of_block (hf1.block _ HPA.out.lt (fun e => owns_ne HO.out HPA.out (by decide) e)); have e1 : w1.cell? ⟨w.heap.size, 1, none⟩ = some (.slice cur.a cur.n cur.cap) := hp1.cell 1 (Nat.lt_succ_self 1); have g1 : w1.frozen? ⟨w.heap.size, 1, none⟩ = false := hp1.frozen 1; have hB1 : Below w.heap.size w w1 := HBA.out.trans (hf1.below HBA.out.size (fun k hk => Nat.le_of_succ_le (HO.out.lt k hk).1))))
   all_goals
    have hst2 : PartSt w level (w1.setCell ⟨w.heap.size, 1, none⟩ (.slice a1 n1 c1)) out ⟨a1, n1, c1⟩ ps (curL ++ [l[k]]) := PartSt.push (cur' := ⟨a1, n1, c1⟩) (hst.drew.alloc (.cells #[.string ⟨l[k].key.toArray⟩, .string ⟨l[k].more.toArray⟩, .int .i64 (l[k].below : Int)] 84)) ho1 hf1 hat1
    have v0 : (w1.setCell ⟨w.heap.size, 1, none⟩ (.slice a1 n1 c1)).cell? ⟨b, o + k * 3, none⟩ = some (.string ⟨l[k].key.toArray⟩) := (hst2.hb.cell (p := ⟨b, o + k * 3, none⟩) hb).trans x0
    clear e1 g1 y0 y1 y2 HO HSL HLE HBS HPA HBA hp1 hB1 hc0 hc1 hf0 ho1 hf1 hat1
    go_wp2_with fail
    refine (isEnd_any level l[k].key _ hlv (by have := (hok l[k] (List.getElem_mem hkl)).1; omega)).mono ?_
    rintro e w3 ⟨rfl, hb3⟩
    have hst3 := hst2.next hb3
    clear hst2 v0
    have c0 := hst3.hp.cell 0 (by simp)
    have c1' := hst3.hp.cell 1 (by simp)
    simp only [List.getElem_cons_zero, List.getElem_cons_succ, SlR.val] at c0 c1'
    have HD : Hid (l.drop k = l[k] :: l.drop (k + 1)) := List.drop_eq_getElem_cons hkl
    have HEM : Hid ((l.drop (k + 1)).isEmpty = decide (n ≤ k + 1)) := by
     unfold Hid
     rw [Bool.eq_iff_iff, List.isEmpty_iff, List.drop_eq_nil_iff, HN.out]; simp
    by_cases hend : endB level l[k].key = true
    ·by_cases hlast : k + 1 < n
     ·have hlI : (k : Int) + 1 < n := by omega
      have HP2 : Hid ((ps ++ [((⟨a1, n1, c1⟩ : SlR), curL ++ [l[k]])]).map (·.2) ++ partF level (l.drop (k + 1)) [] = partedN level l) := by
       have h := HP.out
       rw [HD.out, partF, if_pos (by rw [hend, HEM.out]; simp; omega)] at h
       unfold Hid; simpa using h
      have HOA : Hid (OwnP (w3.alloc (.cells #[.int .i64 (level : Int), .slice a1 n1 c1] 80)) (w.heap.size + 1) (.slice out.a out.n out.cap) level ps) := hst3.ho.alloc _
      have HSA : Hid (SlV (w3.alloc (.cells #[.int .i64 (level : Int), .slice a1 n1 c1] 80)) (some ⟨w3.heap.size, 0, none⟩) (pgC level (⟨a1, n1, c1⟩, curL ++ [l[k]]))) := SlV.alloc_new w3 _ _
      have HLA : Hid (ps.length ≤ 1000000) := by unfold Hid; omega
      have HZA : Hid (w.heap.size + 1 ≤ (w3.alloc (.cells #[.int .i64 (level : Int), .slice a1 n1 c1] 80)).heap.size) := by unfold Hid; have := hst3.hp.lt; simp; omega
      rw [hend]
      go_wp2_with (at_builtin; refine wp_appendP (by rfl) (.tmp 41) (.tmp 43) (by rfl) (w.heap.size + 1) (.slice out.a out.n out.cap) level ps (by rfl) HOA.out ⟨w3.heap.size, 0, none⟩ (⟨a1, n1, c1⟩, curL ++ [l[k]]) (by rfl) HSA.out HLA.out HZA.out ?_; intro a4 n4 c4 w4 ho4 hf4 hat4; have hp4 : RowV w4 w.heap.size 80 [.int .i64 (level : Int), .slice a1 n1 c1] := (hst3.hp.alloc _).of_block (hf4.block _ (hst3.hp.alloc _).lt (fun e => Nat.lt_irrefl _ (HOA.out.lt _ e).1)); have q0 : w4.cell? ⟨w.heap.size, 0, none⟩ = some (.int .i64 (level : Int)) := hp4.cell 0 (by simp); have q1 : w4.cell? ⟨w.heap.size, 1, none⟩ = some (.slice a1 n1 c1) := hp4.cell 1 (by simp); have r0 : w4.frozen? ⟨w.heap.size, 0, none⟩ = false := hp4.frozen 0; have r1 : w4.frozen? ⟨w.heap.size, 1, none⟩ = false := hp4.frozen 1)
      refine ⟨⟨k + 1, ⟨a4, n4, c4⟩, ⟨none, 0, 0⟩, ps ++ [(⟨a1, n1, c1⟩, curL ++ [l[k]])], [], by omega, by go_num, rfl, ?_, by simp; omega, HP2⟩, by simp [intOf]; omega⟩
      refine PartSt.flush (out' := ⟨a4, n4, c4⟩) (hst3.alloc (.cells #[.int .i64 (level : Int), .slice a1 n1 c1] 80)) ho4 hf4 ((hp4.set 0 _).set 1 _) ?_
      exact ((Frame.refl (fun k => k = w.heap.size) w4).setCell (p := ⟨w.heap.size, 0, none⟩) rfl _).setCell (p := ⟨w.heap.size, 1, none⟩) rfl _
     ·have hlI : ¬ (k : Int) + 1 < n := by omega
      have HP2 : Hid (ps.map (·.2) ++ partF level (l.drop (k + 1)) (curL ++ [l[k]]) = partedN level l) := by
       have h := HP.out
       rw [HD.out, partF, if_neg (by rw [HEM.out]; simp; omega)] at h
       exact h
      rw [hend]
      go_wp2
      exact ⟨⟨k + 1, out, ⟨a1, n1, c1⟩, ps, curL ++ [l[k]], by omega, by go_num, rfl, hst3, by simp; omega, HP2.out⟩, by simp [intOf]; omega⟩
    ·have hend : endB level l[k].key = false := by simpa using hend
     have HP2 : Hid (ps.map (·.2) ++ partF level (l.drop (k + 1)) (curL ++ [l[k]]) = partedN level l) := by
      have h := HP.out
      rw [HD.out, partF, if_neg (by rw [hend]; simp)] at h
      exact h
     rw [hend]
     go_wp2
     exact ⟨⟨k + 1, out, ⟨a1, n1, c1⟩, ps, curL ++ [l[k]], by omega, by go_num, rfl, hst3, by simp; omega, HP2.out⟩, by simp [intOf]; omega⟩
  ·have HOA : Hid (OwnP (wr.alloc (.cells #[.int .i64 (level : Int), .slice cur.a cur.n cur.cap] 80)) (w.heap.size + 1) (.slice out.a out.n out.cap) level ps) := hst.ho.alloc _
   have HSA : Hid (SlV (wr.alloc (.cells #[.int .i64 (level : Int), .slice cur.a cur.n cur.cap] 80)) (some ⟨wr.heap.size, 0, none⟩) (pgC level (cur, curL))) := SlV.alloc_new wr _ _
   have HLA : Hid (ps.length ≤ 1000000) := by unfold Hid; omega
   have HZA : Hid (w.heap.size + 1 ≤ (wr.alloc (.cells #[.int .i64 (level : Int), .slice cur.a cur.n cur.cap] 80)).heap.size) := by unfold Hid; have := hst.hp.lt; simp; omega
   have hltI : ¬ (k : Int) < n := by omega
   go_wp2_with (at_builtin; refine wp_appendP (by rfl) (.tmp 47) (.tmp 49) (by rfl) (w.heap.size + 1) (.slice out.a out.n out.cap) level ps (by rfl) HOA.out ⟨wr.heap.size, 0, none⟩ (cur, curL) (by rfl) HSA.out HLA.out HZA.out ?_; intro a4 n4 c4 w4 ho4 hf4 hat4)
   go_ret
   have hstA := hst.alloc (.cells #[.int .i64 (level : Int), .slice cur.a cur.n cur.cap] 80)
   refine ⟨⟨a4, n4, c4⟩, rfl, ps ++ [(cur, curL)], owns_base ho4 (fun q hq => by have := (ho4.lt q hq).1; omega), ?_, ?_, ?_⟩
   ·intro q hq
    rcases List.mem_append.1 hq with hq | hq
    ·have h1 := (hstA.hq q hq).1
     exact owns_base (owns_frame h1 hf4 (fun k hk e => owns_ne2 h1 hstA.ho (by decide) k hk e)) (fun j hj => by have := (h1.lt j hj).1; omega)
    ·simp only [List.mem_singleton] at hq
     subst hq
     have h1 := hstA.hc
     exact owns_base (owns_frame h1 hf4 (fun k hk e => owns_ne2 h1 hstA.ho (by decide) k hk e)) (fun j hj => by have := (h1.lt j hj).1; omega)
   ·have h := HP.out
    rw [List.drop_eq_nil_of_le (by have := HN.out; omega), partF] at h
    rw [List.map_append]; exact h
   ·exact hstA.hb.trans (hf4.below (by have := hstA.hb.size; omega) (fun j hj => by have := (hstA.ho.lt j hj).1; omega))
end Go.Proofs.YtekegfbjbainhaaGreat


namespace Go.Proofs.YtekegfbjbainhaaGreat
open Go.RowKit
def lastK (p : List ItR) : List UInt8 := (p.getLast?.map (·.key)).getD []
def nextF (level : Nat) : Nat → List (List ItR) → List ItR
 | _, [] => []
 | i, p :: r => ⟨lastK p, digB (codeB level p), i⟩ :: nextF level (i + 1) r
def grownF : Nat → Nat → List ItR → List (List (List ItR))
 | 0, _, _ => []
 | f + 1, level, l => if (partedN level l).length = 1 then [partedN level l] else partedN level l :: grownF f (level + 1) (nextF level 0 (partedN level l))
def grownN (l : List ItR) : List (List (List ItR)) := grownF 7 0 l
theorem partF_length (level : Nat) : ∀ (r cur : List ItR), 1 ≤ (partF level r cur).length ∧ (partF level r cur).length ≤ r.length + 1
 | [], cur => by simp [partF]
 | x :: r, cur => by
  unfold partF
  split
  ·have := partF_length level r []; simp; omega
  ·have := partF_length level r (cur ++ [x]); simp; omega
theorem partF_bound (level : Nat) : ∀ (r cur : List ItR), r ≠ [] → (partF level r cur).length ≤ r.length
 | [], cur, h => absurd rfl h
 | x :: r, cur, _ => by
  unfold partF
  split
  ·rename_i hc
   have hr : r ≠ [] := by
    intro h; subst h; simp at hc
   have := partF_bound level r [] hr; simp; omega
  ·by_cases hr : r = []
   ·subst hr; simp [partF]
   ·have := partF_bound level r (cur ++ [x]) hr; simp; omega
theorem partF_six (level : Nat) (h6 : ¬ level < 6) : ∀ (r cur : List ItR), partF level r cur = [cur ++ r]
 | [], cur => by simp [partF]
 | x :: r, cur => by
  unfold partF
  rw [if_neg (by simp [endB, h6]), partF_six level h6 r]; simp
theorem partF_ne (level : Nat) : ∀ (r cur : List ItR), (r ≠ [] ∨ cur ≠ []) → ∀ p ∈ partF level r cur, p ≠ []
 | [], cur, h, p, hp => by
  simp [partF] at hp
  subst hp
  rcases h with h | h
  ·exact absurd rfl h
  ·exact h
 | x :: r, cur, h, p, hp => by
  unfold partF at hp
  split at hp
  ·rename_i hc
   have hr : r ≠ [] := by
    intro h; subst h; simp at hc
   rcases List.mem_cons.1 hp with rfl | hp
   ·simp
   ·exact partF_ne level r [] (Or.inl hr) p hp
  ·exact partF_ne level r (cur ++ [x]) (Or.inr (by simp)) p hp
theorem partF_mem (level : Nat) : ∀ (r cur : List ItR), ∀ p ∈ partF level r cur, ∀ x ∈ p, x ∈ r ∨ x ∈ cur
 | [], cur, p, hp, x, hx => by simp [partF] at hp; subst hp; exact Or.inr hx
 | y :: r, cur, p, hp, x, hx => by
  unfold partF at hp
  split at hp
  ·rcases List.mem_cons.1 hp with rfl | hp
   ·rcases List.mem_append.1 hx with h | h
    ·exact Or.inr h
    ·simp at h; subst h; exact Or.inl (by simp)
   ·rcases partF_mem level r [] p hp x hx with h | h
    ·exact Or.inl (by simp [h])
    ·cases h
  ·rcases partF_mem level r (cur ++ [y]) p hp x hx with h | h
   ·exact Or.inl (by simp [h])
   ·rcases List.mem_append.1 h with h | h
    ·exact Or.inr h
    ·simp at h; subst h; exact Or.inl (by simp)
theorem partF_size (level : Nat) : ∀ (r cur : List ItR), ∀ p ∈ partF level r cur, p.length ≤ r.length + cur.length
 | [], cur, p, hp => by simp [partF] at hp; subst hp; simp
 | y :: r, cur, p, hp => by
  unfold partF at hp
  split at hp
  ·rcases List.mem_cons.1 hp with rfl | hp
   ·simp; omega
   ·have := partF_size level r [] p hp; simp at this ⊢; omega
  ·have := partF_size level r (cur ++ [y]) p hp; simp at this ⊢; omega
theorem parted_ok {level : Nat} {l : List ItR} (h : ∀ x ∈ l, ItOk x) : ∀ p ∈ partedN level l, ∀ x ∈ p, ItOk x := fun p hp x hx => by
 rcases partF_mem level l [] p hp x hx with h1 | h1
 ·exact h x h1
 ·cases h1
theorem lastK_le {p : List ItR} (h : ∀ x ∈ p, ItOk x) : (lastK p).length ≤ 12 := by
 unfold lastK
 cases hl : p.getLast? with
 | none => simp
 | some x => simp; exact (h x (List.mem_of_getLast? hl)).1
theorem nextF_ok (level : Nat) : ∀ (i : Nat) (ps : List (List ItR)), (∀ p ∈ ps, ∀ x ∈ p, ItOk x) → ∀ x ∈ nextF level i ps, ItOk x
 | _, [], _, x, hx => by cases hx
 | i, p :: r, h, x, hx => by
  unfold nextF at hx
  rcases List.mem_cons.1 hx with rfl | hx
  ·exact ⟨lastK_le (h p (by simp)), by show (digB _).length ≤ 12; rw [digB_length]; omega⟩
  ·exact nextF_ok level (i + 1) r (fun q hq => h q (by simp [hq])) x hx
theorem nextF_length (level : Nat) : ∀ (i : Nat) (ps : List (List ItR)), (nextF level i ps).length = ps.length
 | _, [] => rfl
 | i, p :: r => by unfold nextF; rw [List.length_cons, List.length_cons, nextF_length level (i + 1) r]
theorem nextF_snoc (level : Nat) (p : List ItR) : ∀ (i : Nat) (ps : List (List ItR)), nextF level i (ps ++ [p]) = nextF level i ps ++ [⟨lastK p, digB (codeB level p), i + ps.length⟩]
 | i, [] => by simp [nextF]
 | i, q :: r => by
  rw [List.cons_append]
  unfold nextF
  rw [nextF_snoc level p (i + 1) r, List.cons_append, List.length_cons, show i + 1 + r.length = i + (r.length + 1) by omega]
theorem lastK_get (p : List ItR) (h : p ≠ []) : lastK p = (p[p.length - 1]'(by have := List.length_pos_iff.2 h; omega)).key := by
 unfold lastK
 rw [List.getLast?_eq_getElem?, List.getElem?_eq_getElem (by have := List.length_pos_iff.2 h; omega)]
 rfl
end Go.Proofs.YtekegfbjbainhaaGreat
