import Derived.Test.YtekegfbjbainhaaKJoin1
import Derived.Deep.DrawnRows
import Derived.Deep.QuietTactic
import Derived.BigQuiet
import Derived.Test.YtekegfbjbainhaaRows
import Derived.Deep.RegionLaw
import Derived.Deep.RegionWith
import Derived.Stop.BytesEq
set_option linter.unusedVariables false
set_option linter.unusedSimpArgs false

namespace Go.Proofs.Ytekegfbjbainhaa
open Go.RowKit
theorem flat_length {α : Type} (f : α → List Value) (m : Nat) : ∀ (l : List α), (∀ x ∈ l, (f x).length = m) → (l.flatMap f).length = l.length * m
 | [], _ => by simp
 | x :: l, h => by
  have := flat_length f m l (fun y hy => h y (by simp [hy]))
  rw [List.flatMap_cons, List.length_append, this, h x (by simp), List.length_cons, Nat.add_mul]; omega
theorem flat_split {α : Type} (f : α → List Value) (l : List α) (k : Nat) : l.flatMap f = (l.take k).flatMap f ++ (l.drop k).flatMap f := by
 rw [← List.flatMap_append, List.take_append_drop]
theorem flat_take {α : Type} (f : α → List Value) (m : Nat) (l : List α) (h : ∀ x ∈ l, (f x).length = m) (k : Nat) (hk : k ≤ l.length) : (l.flatMap f).take (k * m) = (l.take k).flatMap f := by
 rw [flat_split f l k]
 have hl : ((l.take k).flatMap f).length = k * m := by rw [flat_length f m _ (fun x hx => h x (List.mem_of_mem_take hx)), List.length_take, Nat.min_eq_left hk]
 rw [← hl, List.take_left]
theorem flat_drop {α : Type} (f : α → List Value) (m : Nat) (l : List α) (h : ∀ x ∈ l, (f x).length = m) (k : Nat) (hk : k ≤ l.length) : (l.flatMap f).drop (k * m) = (l.drop k).flatMap f := by
 conv => lhs; rw [flat_split f l k]
 have hl : ((l.take k).flatMap f).length = k * m := by rw [flat_length f m _ (fun x hx => h x (List.mem_of_mem_take hx)), List.length_take, Nat.min_eq_left hk]
 rw [← hl, List.drop_left]
theorem flat_get {α : Type} (f : α → List Value) (m : Nat) (l : List α) (h : ∀ x ∈ l, (f x).length = m) (i : Nat) (hi : i < l.length) (j : Nat) (hj : j < m) : (l.flatMap f)[i * m + j]? = (f l[i])[j]? := by
 rw [← List.getElem?_drop, flat_drop f m l h i (by omega), List.drop_eq_getElem_cons hi, List.flatMap_cons, List.getElem?_append_left (by rw [h _ (List.getElem_mem hi)]; exact hj)]
structure ItR where
 key : List UInt8
 more : List UInt8
 below : Nat
def strV (l : List UInt8) : Value := .string ⟨l.toArray⟩
theorem ba_size (l : List UInt8) : (ByteArray.mk l.toArray).size = l.length := by simp [ByteArray.size]
theorem SlV.at {w : World} {a : Option Addr} {cs : List Value} (h : SlV w a cs) {i : Nat} {v : Value} (hv : cs[i]? = some v) : ∃ b o, a = some ⟨b, o, none⟩ ∧ b < w.heap.size ∧ w.cell? ⟨b, o + i, none⟩ = some v := by
 obtain ⟨h1, h2⟩ := List.getElem?_eq_some_iff.1 hv
 obtain ⟨b, o, ha, hb, hc⟩ := h i h1
 exact ⟨b, o, ha, hb, by rw [hc, h2]⟩
def lessK (key : List UInt8) (x : ItR) : Bool := Op.bytesLess x.key key
def placeN (l : List ItR) (key : List UInt8) : Nat := (l.takeWhile (lessK key)).length
def thereB (l : List ItR) (key : List UInt8) : Bool := ((l[placeN l key]?).map (fun x => x.key == key)).getD false
theorem placeN_le (l : List ItR) (key : List UInt8) : placeN l key ≤ l.length := (List.takeWhile_prefix _).length_le
theorem thereB_lt {l : List ItR} {key : List UInt8} (h : thereB l key = true) : placeN l key < l.length := by
 unfold thereB at h
 by_cases hlt : placeN l key < l.length
 ·exact hlt
 ·rw [List.getElem?_eq_none (by omega)] at h; simp at h
def putN (l : List ItR) (key value : List UInt8) : List ItR := l.take (placeN l key) ++ [⟨key, value, 0⟩] ++ l.drop (if thereB l key then placeN l key + 1 else placeN l key)
def delN (l : List ItR) (key : List UInt8) : List ItR := l.take (placeN l key) ++ l.drop (placeN l key + 1)
theorem op_appendV {P : Program} {w : World} {o : Oper} {a : Act} {K : Act → World → Prop} {Q : Exit → Act → World → Prop} (s x : Operand) (t : TypeId)
  (ho : o.op = .call { callee := .builtin .append, args := #[s, x], argTypes := #[t, t] })
  (base : Nat) (e : TypeId) (z : Value) (size bytes : Nat) (ht : P.underlying t = some (.slice e)) (hi : (P.info? e).map (fun i => (i.zero, i.size, i.bytes)) = some (some z, size, bytes)) (hzs : z.cells.size = size) (hsz : 0 < size)
  (v : Value) (n : Nat) (xs : List Value) (hs : a.eval s = v) (hown : w.ownsRow base e size v n xs)
  (ad : Addr) (m c : Nat) (news : List Value) (hx : a.eval x = .slice (some ad) m c) (hl : news.length = m * size) (hnews : SlV w (some ad) news) (h1 : ∀ u ∈ news, u.oneCell' = true)
  (h63 : n + m ≤ maxLen) (hbytes : (n + m) * bytes ≤ 140737488355328) (hbase : base ≤ w.heap.size)
  (h : ∀ v' w', w'.ownsRow base e size v' (n + m) (xs ++ news) → Frame (fun k => v.ownBlock = some k) w w' → (v'.ownBlock = v.ownBlock ∨ v'.ownBlock = some w.heap.size) → K (a.put o.dst v') w') : o.wp P a w K Q := by
 obtain ⟨i, hi0, hz, hsize, hby⟩ := info_parts hi
 obtain ⟨v', w', hr, h2, h3, _, h5⟩ := run_append_own_at (P := P) w base t o.type e i z size bytes ht hi0 hz hsize hby hzs hsz v n xs hown ad m c news hl (fun j u hj => by
  obtain ⟨hj1, hj2⟩ := List.getElem?_eq_some_iff.1 hj
  obtain ⟨b, k, ha, _, hc⟩ := hnews j hj1
  cases ha
  rw [addr_add, hc, hj2]) h1 h63 hbytes hbase
 unfold Oper.wp execOp
 simp only [ho, resolve, invoke, builtin, Sem.run_bind, Sem.run_pure, Result.andThen_ok, List.map_toArray, List.map_cons, List.map_nil, hs, hx, hr]
 exact h v' w' h2 (Frame.of_grown h3) h5
end Go.Proofs.Ytekegfbjbainhaa


namespace Go.Proofs.Ytekegfbjbainhaa
open Go.RowKit
set_option maxRecDepth 100000 in
set_option maxHeartbeats 400000 in
theorem stir_any (n : Int) (w : World) (h0 : 0 ≤ n) :
  Calls Try.prog 72 #[.int .u64 n] w fun e w' => e = .returned (.int .u64 (stirB (stirA n))) ∧ w' = w := by
 go_enter Try.func72, Try.ntmps72
 go_wp2
 go_ret
 exact ⟨rfl, rfl⟩
set_option maxRecDepth 100000 in
set_option maxHeartbeats 400000 in
theorem fromNumber_any (N : Int) (w : World) (h0 : 0 ≤ N) (h1 : N < 18446744073709551616) :
  Calls Try.prog 71 #[.int .u64 N] w fun e w' => e = .returned (.agg ((bytesN N).map u8c).toArray) ∧ ∃ c1 c2 : Array Value, w' = (w.alloc (.cells c1 45)).alloc (.cells c2 45) := by
 have hcs : Hid (((bytesN N).map u8c).toArray = _) := cells_bytesN N h0 h1
 go_enter Try.func71, Try.ntmps71
 go_wp2
 go_rounds 9
 go_returns
 exact ⟨by rw [hcs.out], _, _, rfl⟩
set_option maxRecDepth 100000 in
set_option maxHeartbeats 400000 in
theorem of_any (a : Option Addr) (cap : Nat) (l : List UInt8) (w : World) (hl : l.length ≤ maxLen) (hc : SlB w a l) :
  Calls Try.prog 51 #[.slice a l.length cap] w fun e w' => e = .returned (digV l) ∧ ∃ c1 c2 c3 : Array Value, w' = ((w.alloc (.cells c1 45)).alloc (.cells c2 45)).alloc (.cells c3 45) := by
 unfold maxLen at hl
 go_enter Try.func51, Try.ntmps51
 go_wp2
 go_loop [3, 8] (fun n i => ∃ k : Nat, k ≤ l.length ∧ i = .int .i64 k ∧ n = .int .u64 (rawD (l.take k))) (fun _ i => l.length - (intOf i).toNat)
 case atStart => exact ⟨0, Nat.zero_le _, rfl, rfl⟩
 case round =>
  obtain ⟨k, hk, rfl, rfl⟩ := hrel
  by_cases hlt : k < l.length
  ·obtain ⟨b, o, rfl, hb, hcell⟩ := hc k hlt
   have hrb := rawD_bd (l.take k)
   have h256 : (l[k].toNat : Int) < 256 := by have := l[k].toNat_lt; omega
   have HS : Hid (rawD (l.take (k + 1)) = mixB (rawD (l.take k)) l[k]) := by rw [take_snocL _ _ hlt]; exact rawD_snoc _ _
   go_wp2
   go_round
   case rel => exact ⟨k + 1, by omega, by go_num, by rw [HS.out]; unfold mixB; with_reducible rfl⟩
   case measure => simp [intOf]; omega
  ·have hrb := rawD_bd (l.take k)
   have HE : Hid (l.take k = l) := List.take_of_length_le (by omega)
   go_wp2_with fail
   rw [HE.out] at hrb ⊢
   have HN := numD_bd l
   refine (stir_any _ _ hrb.1).mono ?_
   rintro e w1 ⟨rfl, rfl⟩
   rw [show stirB (stirA (rawD l)) = numD l from rfl]
   go_wp2_with fail
   refine (fromNumber_any (numD l) _ HN.1 HN.2).mono ?_
   rintro e w1 ⟨rfl, c1, c2, rfl⟩
   have hcs : Hid (digV l = _) := congrArg Value.agg (cells_bytesN (numD l) HN.1 HN.2)
   rw [cells_bytesN (numD l) HN.1 HN.2]
   go_wp2
   go_returns
   exact ⟨by rw [hcs.out], _, _, _, rfl⟩
set_option maxRecDepth 100000 in
set_option maxHeartbeats 400000 in
theorem digest_any (a : Option Addr) (n cap : Nat) (l : List UInt8) (w : World) (hn : n = l.length) (hl : l.length ≤ maxLen) (hc : SlB w a l) :
  Calls Try.prog 30 #[.slice a n cap] w fun e w' => e = .returned (digV l) ∧ Below w.heap.size w w' := by
 subst hn
 have HN := numD_bd l
 have hcs : Hid (digV l = _) := congrArg Value.agg (cells_bytesN (numD l) HN.1 HN.2)
 go_enter Try.func30, Try.ntmps30
 go_wp2_with fail
 refine (of_any a cap l _ hl (hc.below ((Below.refl _ _).alloc (Nat.le_refl _) _) (Nat.le_refl _))).mono ?_
 rintro e w1 ⟨rfl, c1, c2, c3, rfl⟩
 rw [hcs.out]
 go_wp2
 go_returns
 exact ⟨by rw [hcs.out], by go_grown⟩
end Go.Proofs.Ytekegfbjbainhaa


namespace Go.Proofs.Ytekegfbjbainhaa
open Go.RowKit
def bt (n : Nat) : UInt8 := UInt8.ofNat n
theorem bt_c {n : Nat} (h : n < 256) : u8c (bt n) = .int .u8 (n : Int) := by
 unfold u8c bt
 rw [UInt8.toNat_ofNat_of_lt' h]
def itB (level : Nat) (x : ItR) : List UInt8 := bt x.key.length :: x.key ++ ((if level = 0 then [bt x.more.length] else []) ++ x.more)
def codeB (level : Nat) (l : List ItR) : List UInt8 := bt level :: bt l.length :: l.flatMap (itB level)
def prefB (level n : Nat) (l : List ItR) : List UInt8 := bt level :: bt n :: l.flatMap (itB level)
def ItOk (x : ItR) : Prop := x.key.length ≤ 12 ∧ x.more.length ≤ 12
theorem itB_length (level : Nat) (x : ItR) (h : ItOk x) : (itB level x).length ≤ 26 := by
 obtain ⟨h1, h2⟩ := h
 unfold itB
 split <;> simp <;> omega
theorem flatB_length (level : Nat) : ∀ (l : List ItR), (∀ x ∈ l, ItOk x) → (l.flatMap (itB level)).length ≤ l.length * 26
 | [], _ => by simp
 | x :: l, h => by
  have h1 := flatB_length level l (fun y hy => h y (by simp [hy]))
  have h2 := itB_length level x (h x (by simp))
  rw [List.flatMap_cons, List.length_append, List.length_cons]; omega
theorem prefB_snoc (level n : Nat) (l : List ItR) (k : Nat) (hk : k < l.length) : prefB level n (l.take (k + 1)) = prefB level n (l.take k) ++ itB level l[k] := by
 unfold prefB
 rw [List.take_succ_eq_append_getElem hk, List.flatMap_append]; simp
theorem prefB_length (level n : Nat) (l : List ItR) (h : ∀ x ∈ l, ItOk x) : (prefB level n l).length ≤ l.length * 26 + 2 := by
 have := flatB_length level l h
 unfold prefB
 rw [List.length_cons, List.length_cons]; omega
end Go.Proofs.Ytekegfbjbainhaa


namespace Go.Proofs.Ytekegfbjbainhaa
open Go.RowKit
def endB (level : Nat) (key : List UInt8) : Bool := decide (level < 6) && ((digB (bt level :: key)).getD 7 0).toNat % 4 == 0
theorem mod4_nat (n : Nat) : ((n : Int) % 4 == 0) = (n % 4 == 0) := by
 rw [Bool.eq_iff_iff]; simp; omega
end Go.Proofs.Ytekegfbjbainhaa


namespace Go.Proofs.Ytekegfbjbainhaa
open Go.RowKit
def partF (level : Nat) : List ItR → List ItR → List (List ItR)
 | [], cur => [cur]
 | x :: r, cur => if (endB level x.key && !r.isEmpty) = true then (cur ++ [x]) :: partF level r [] else partF level r (cur ++ [x])
def partedN (level : Nat) (l : List ItR) : List (List ItR) := partF level l []
structure SlR where
 a : Option Addr
 n : Nat
 cap : Nat
def SlR.val (s : SlR) : Value := .slice s.a s.n s.cap
theorem owns_ne2 {w : World} {base base' e e' size size' n n' : Nat} {v v' : Value} {xs xs' : List Value} (h : w.ownsRow base e size v n xs) (h' : w.ownsRow base' e' size' v' n' xs') (hne : e ≠ e') : ∀ k, v.ownBlock = some k → v'.ownBlock ≠ some k := by
 intro k hk hk'
 rcases h.2 with ⟨rfl, _⟩ | ⟨g, cap, cur, rfl, hg, hb, _⟩
 ·simp [Value.ownBlock] at hk
 rcases h'.2 with ⟨rfl, _⟩ | ⟨g', cap', cur', rfl, hg', hb', _⟩
 ·simp [Value.ownBlock] at hk'
 simp [Value.ownBlock] at hk hk'
 subst hk; subst hk'
 rw [hb] at hb'
 simp at hb'
 exact hne hb'.2
end Go.Proofs.Ytekegfbjbainhaa


namespace Go.Proofs.Ytekegfbjbainhaa
open Go.RowKit
def lastK (p : List ItR) : List UInt8 := (p.getLast?.map (·.key)).getD []
def nextF (level : Nat) : Nat → List (List ItR) → List ItR
 | _, [] => []
 | i, p :: r => ⟨lastK p, digB (codeB level p), i⟩ :: nextF level (i + 1) r
def grownF : Nat → Nat → List ItR → List (List (List ItR))
 | 0, _, _ => []
 | f + 1, level, l => if (partedN level l).length = 1 then [partedN level l] else partedN level l :: grownF f (level + 1) (nextF level 0 (partedN level l))
def grownN (l : List ItR) : List (List (List ItR)) := grownF 7 0 l
theorem partF_length (level : Nat) : ∀ (r cur : List ItR), 1 ≤ (partF level r cur).length ∧ (partF level r cur).length ≤ r.length + 1
 | [], cur => by simp [partF]
 | x :: r, cur => by
  unfold partF
  split
  ·have := partF_length level r []; simp; omega
  ·have := partF_length level r (cur ++ [x]); simp; omega
theorem partF_bound (level : Nat) : ∀ (r cur : List ItR), r ≠ [] → (partF level r cur).length ≤ r.length
 | [], cur, h => absurd rfl h
 | x :: r, cur, _ => by
  unfold partF
  split
  ·rename_i hc
   have hr : r ≠ [] := by
    intro h; subst h; simp at hc
   have := partF_bound level r [] hr; simp; omega
  ·by_cases hr : r = []
   ·subst hr; simp [partF]
   ·have := partF_bound level r (cur ++ [x]) hr; simp; omega
theorem partF_six (level : Nat) (h6 : ¬ level < 6) : ∀ (r cur : List ItR), partF level r cur = [cur ++ r]
 | [], cur => by simp [partF]
 | x :: r, cur => by
  unfold partF
  rw [if_neg (by simp [endB, h6]), partF_six level h6 r]; simp
theorem partF_ne (level : Nat) : ∀ (r cur : List ItR), (r ≠ [] ∨ cur ≠ []) → ∀ p ∈ partF level r cur, p ≠ []
 | [], cur, h, p, hp => by
  simp [partF] at hp
  subst hp
  rcases h with h | h
  ·exact absurd rfl h
  ·exact h
 | x :: r, cur, h, p, hp => by
  unfold partF at hp
  split at hp
  ·rename_i hc
   have hr : r ≠ [] := by
    intro h; subst h; simp at hc
   rcases List.mem_cons.1 hp with rfl | hp
   ·simp
   ·exact partF_ne level r [] (Or.inl hr) p hp
  ·exact partF_ne level r (cur ++ [x]) (Or.inr (by simp)) p hp
theorem partF_mem (level : Nat) : ∀ (r cur : List ItR), ∀ p ∈ partF level r cur, ∀ x ∈ p, x ∈ r ∨ x ∈ cur
 | [], cur, p, hp, x, hx => by simp [partF] at hp; subst hp; exact Or.inr hx
 | y :: r, cur, p, hp, x, hx => by
  unfold partF at hp
  split at hp
  ·rcases List.mem_cons.1 hp with rfl | hp
   ·rcases List.mem_append.1 hx with h | h
    ·exact Or.inr h
    ·simp at h; subst h; exact Or.inl (by simp)
   ·rcases partF_mem level r [] p hp x hx with h | h
    ·exact Or.inl (by simp [h])
    ·cases h
  ·rcases partF_mem level r (cur ++ [y]) p hp x hx with h | h
   ·exact Or.inl (by simp [h])
   ·rcases List.mem_append.1 h with h | h
    ·exact Or.inr h
    ·simp at h; subst h; exact Or.inl (by simp)
theorem partF_size (level : Nat) : ∀ (r cur : List ItR), ∀ p ∈ partF level r cur, p.length ≤ r.length + cur.length
 | [], cur, p, hp => by simp [partF] at hp; subst hp; simp
 | y :: r, cur, p, hp => by
  unfold partF at hp
  split at hp
  ·rcases List.mem_cons.1 hp with rfl | hp
   ·simp; omega
   ·have := partF_size level r [] p hp; simp at this ⊢; omega
  ·have := partF_size level r (cur ++ [y]) p hp; simp at this ⊢; omega
theorem lastK_le {p : List ItR} (h : ∀ x ∈ p, ItOk x) : (lastK p).length ≤ 12 := by
 unfold lastK
 cases hl : p.getLast? with
 | none => simp
 | some x => simp; exact (h x (List.mem_of_getLast? hl)).1
theorem nextF_length (level : Nat) : ∀ (i : Nat) (ps : List (List ItR)), (nextF level i ps).length = ps.length
 | _, [] => rfl
 | i, p :: r => by unfold nextF; rw [List.length_cons, List.length_cons, nextF_length level (i + 1) r]
theorem lastK_get (p : List ItR) (h : p ≠ []) : lastK p = (p[p.length - 1]'(by have := List.length_pos_iff.2 h; omega)).key := by
 unfold lastK
 rw [List.getLast?_eq_getElem?, List.getElem?_eq_getElem (by have := List.length_pos_iff.2 h; omega)]
 rfl
end Go.Proofs.Ytekegfbjbainhaa


namespace Go.Proofs.Ytekegfbjbainhaa
open Go.RowKit
theorem run_string_SlB {P : Program} (w : World) (src dst e : TypeId) (a : Option Addr) (n cap : Nat) (l : List UInt8) (hs : P.underlying src = some (.slice e)) (he : P.underlying e = some (.int .u8)) (hd : P.underlying dst = some .string)
  (hn : n = l.length) (hc : SlB w a l) (hnil : a = none → cap = 0) : (convert src dst (.slice a n cap)).run P w = .ok (.string ⟨l.toArray⟩) w := by
 subst hn
 cases a with
 | none =>
  have : l = [] := by
   cases l with
   | nil => rfl
   | cons x r => obtain ⟨b, o, ha, _⟩ := hc 0 (by simp); cases ha
  subst this
  rw [hnil rfl]
  exact run_convert_bytes_nil w src e hs he 0 0 dst hd
 | some x =>
  cases l with
  | nil =>
   exact run_convert_bytes_back w src dst e x cap [] hs he hd (fun j hj => absurd hj (Nat.not_lt_zero _))
  | cons y r =>
   obtain ⟨b, o, ha, _⟩ := hc 0 (by simp)
   cases ha
   exact run_string_BAt w src dst e b o cap (y :: r) hs he hd (fun j hj => by
    obtain ⟨b', o', ha', _, hcc⟩ := hc j hj
    cases ha'; exact hcc)
end Go.Proofs.Ytekegfbjbainhaa


namespace Go.Proofs.Ytekegfbjbainhaa
open Go.RowKit
theorem SlV.ofOwn {W : World} {base e size n : Nat} {s : SlR} {xs : List Value} (h : W.ownsRow base e size s.val n xs) : SlV W s.a xs ∧ s.n = n := by
 obtain ⟨a, cap, hv, hs, _⟩ := owns_form h
 unfold SlR.val at hv
 cases hv
 exact ⟨hs, rfl⟩
end Go.Proofs.Ytekegfbjbainhaa


namespace Go.Proofs.Ytekegfbjbainhaa
open Go.RowKit
end Go.Proofs.Ytekegfbjbainhaa


namespace Go.Proofs.Ytekegfbjbainhaa
open Go.RowKit
abbrev boxD (w : World) (d : List UInt8) : World := w.alloc (.cells (d.map u8c).toArray 45)
abbrev resD (w : World) : World := w.alloc (.cells #[.int .u8 0, .int .u8 0, .int .u8 0, .int .u8 0, .int .u8 0, .int .u8 0, .int .u8 0, .int .u8 0] 45)
abbrev oneB (w : World) (x : Int) : World := w.alloc (.cells #[.int .u8 x] 5)
def z8 : List Value := [.int .u8 0, .int .u8 0, .int .u8 0, .int .u8 0, .int .u8 0, .int .u8 0, .int .u8 0, .int .u8 0]
theorem resD_row (w : World) : RowV (resD w) w.heap.size 45 z8 := RowV.new w 45 z8
def halfF : Nat → Nat → Nat → Nat
 | 0, k, _ => k
 | f + 1, k, n => if k < n - k then halfF f (2 * k) n else k
def halfN (n : Nat) : Nat := halfF 64 1 n
def sumF : Nat → List (List UInt8) → List UInt8
 | 0, _ => []
 | _ + 1, [] => digB []
 | _ + 1, [d] => digB (0 :: d)
 | f + 1, l => digB (1 :: (sumF f (l.take (halfN l.length)) ++ sumF f (l.drop (halfN l.length))))
def digsC (l : List (List UInt8)) : List Value := l.flatMap (·.map u8c)
theorem sumF_length : ∀ (f : Nat) (l : List (List UInt8)), (sumF (f + 1) l).length = 8
 | _, [] => rfl
 | _, [_] => rfl
 | _, _ :: _ :: _ => rfl
theorem digsC_length : ∀ (l : List (List UInt8)), (∀ d ∈ l, d.length = 8) → (digsC l).length = l.length * 8
 | [], _ => rfl
 | d :: l, h => by
  have := digsC_length l (fun x hx => h x (by simp [hx]))
  simp only [digsC, List.flatMap_cons, List.length_append, List.length_map] at this ⊢
  rw [this, h d (by simp), List.length_cons]; omega
theorem digsC_take (l : List (List UInt8)) (h : ∀ d ∈ l, d.length = 8) (k : Nat) (hk : k ≤ l.length) : (digsC l).take (k * 8) = digsC (l.take k) := by
 have e : digsC l = digsC (l.take k) ++ digsC (l.drop k) := by
  unfold digsC
  rw [← List.flatMap_append, List.take_append_drop]
 rw [e]
 have hl : (digsC (l.take k)).length = k * 8 := by
  rw [digsC_length _ (fun d hd => h d (List.mem_of_mem_take hd)), List.length_take, Nat.min_eq_left hk]
 rw [← hl, List.take_left]
theorem digsC_drop (l : List (List UInt8)) (h : ∀ d ∈ l, d.length = 8) (k : Nat) (hk : k ≤ l.length) : (digsC l).drop (k * 8) = digsC (l.drop k) := by
 have e : digsC l = digsC (l.take k) ++ digsC (l.drop k) := by
  unfold digsC
  rw [← List.flatMap_append, List.take_append_drop]
 rw [e]
 have hl : (digsC (l.take k)).length = k * 8 := by
  rw [digsC_length _ (fun d hd => h d (List.mem_of_mem_take hd)), List.length_take, Nat.min_eq_left hk]
 rw [← hl, List.drop_left]
theorem halfF_bd : ∀ (f q n : Nat), 1 ≤ q → q < n → 1 ≤ halfF f q n ∧ halfF f q n < n
 | 0, q, n, h1, h2 => ⟨h1, h2⟩
 | f + 1, q, n, h1, h2 => by
  unfold halfF
  split
  ·exact halfF_bd f (2 * q) n (by omega) (by omega)
  ·exact ⟨h1, h2⟩
theorem halfN_bd (n : Nat) (h : 2 ≤ n) : 1 ≤ halfN n ∧ halfN n < n := halfF_bd 64 1 n (by omega) (by omega)
end Go.Proofs.Ytekegfbjbainhaa
