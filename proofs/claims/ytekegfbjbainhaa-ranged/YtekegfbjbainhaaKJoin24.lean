import Derived.Test.YtekegfbjbainhaaKK5
import Derived.Test.YtekegfbjbainhaaKJoin22
import Derived.Deep.DeepCutAuto
import Derived.Lib.SlBytesConst
import Derived.Test.YtekegfbjbainhaaKJoin16
import Derived.BigQuiet
set_option linter.unusedVariables false
set_option linter.unusedSimpArgs false

namespace Go.Proofs.Ytekegfbjbainhaa
open Go.RowKit
attribute [local go_sem ↓] Go.wp_at_zero Go.wp_at_succ
set_option maxRecDepth 100000 in
set_option maxHeartbeats 1600000 in
theorem house_commit_full (d : HouD) (w : World) (h : HouAt w d) (h40 : d.tds.length = 40) :
  Calls Try.prog 14 #[.pointer (some ⟨d.hb, 0, none⟩)] w fun e w' => e = .returned (.bool true) ∧ Below w.heap.size w w' := by
 have HH : Hid (HouAt w d) := h
 have hhb := h.row.lt
 have r0 : w.cell? ⟨d.hb, 0, none⟩ = some (.pointer (some ⟨d.sb, 0, none⟩)) := RowV.cell? h.row 0
 have hdn : d.dn.n = 40 := by rw [← h40]; exact (SlV.ofOwn (s := d.dn) h.don).2
 have HCM : Hid (Calls _ _ _ _ _) := commit_full d.sb d.N d.en d.tr d.mp d.ms d.xs d.its d.tds w h.sto h40
 clear h h40
 go_enter Try.func14, Try.ntmps14
 go_wp2_with fail
 refine HCM.out.mono ?_
 rintro e w1 ⟨rfl, hb1⟩
 have HB1 : Hid (Below w.heap.size w w1) := hb1
 have HW1 : Hid (RowV w1 d.hb 32 [.pointer (some ⟨d.sb, 0, none⟩), d.nw.val, d.pa.val, d.dn.val]) := RowV.below HH.out.row hhb hb1
 have HZ : Hid (RowV (w1.alloc (.cells #[.int .i64 0, .int .u8 0, .int .u8 0, .int .u8 0, .int .u8 0, .int .u8 0, .int .u8 0, .int .u8 0, .int .u8 0, .int .i64 0, .int .u8 0, .int .u8 0, .int .u8 0, .int .u8 0, .int .u8 0, .int .u8 0, .int .u8 0, .int .u8 0] 49)) w1.heap.size 49 zero18) := RowV.new w1 _ _
 have HBA : Hid (Below w1.heap.size w1 (w1.alloc (.cells #[.int .i64 0, .int .u8 0, .int .u8 0, .int .u8 0, .int .u8 0, .int .u8 0, .int .u8 0, .int .u8 0, .int .u8 0, .int .i64 0, .int .u8 0, .int .u8 0, .int .u8 0, .int .u8 0, .int .u8 0, .int .u8 0, .int .u8 0, .int .u8 0] 49))) := (Below.refl _ _).alloc (Nat.le_refl _) _
 clear hb1 HCM
 go_wp2_with (first
  | (refine wp_storeR (by rfl) 49 (.tmp 3) (.tmp 11) (by rfl) w1.heap.size (by rfl) zero18 (by rfl) HZ.out rfl Try.sizeCommit zero18_one ?_; intro w2 hr2 hf2 hz2; have HB2 : Hid (Below w1.heap.size w1 w2) := HBA.out.trans (hf2.below HBA.out.size (fun k hk => by omega)); clear hr2 hf2 hz2; have q3 : w2.cell? ⟨d.hb, 3, none⟩ = some (.slice d.dn.a 40 d.dn.cap) := by { rw [← hdn]; exact RowV.cell? (RowV.below HW1.out HW1.out.lt HB2.out) 3 }))
 go_ret
 exact ⟨rfl, HB1.out.trans (HB2.out.mono HB1.out.size)⟩
theorem house_commit (d : HouD) (w : World) (h : HouAt w d) :
  Calls Try.prog 14 #[.pointer (some ⟨d.hb, 0, none⟩)] w fun e w' => e = .returned (.bool true) ∧ ∃ d' : HouD, HouAt w' d' ∧ d'.hb = d.hb ∧ d'.its = d.its ∧ (if d.tds.length < 40 then (∃ nd, d'.tds = d.tds ++ [nd] ∧ rootOf nd = rootB d.its) ∧ d'.pp = d.pp ++ [d.its] else d'.tds = d.tds ∧ d'.pp = d.pp) ∧ Frame d.M w w' ∧ ∀ k, d'.M k → k < w.heap.size → d.M k := by
 by_cases h40 : d.tds.length < 40
 ·refine (house_commit_ok d w h h40).mono ?_
  rintro e w' ⟨rfl, d', h1, h2, h3, h4, h5, h6, h7⟩
  exact ⟨rfl, d', h1, h2, h3, by rw [if_pos h40]; exact ⟨h4, h5⟩, h6, h7⟩
 ·refine (house_commit_full d w h (by have := h.t40; omega)).mono ?_
  rintro e w' ⟨rfl, hb⟩
  exact ⟨rfl, d, h.below hb, rfl, rfl, by rw [if_neg h40]; exact ⟨rfl, rfl⟩, Frame.of_below_all hb, fun k hk _ => hk⟩
def keyS (s : List UInt8) : List UInt8 := if s = [] then [107] else s.take 12
theorem keyS_ok (s : List UInt8) : keyOk (keyS s) = true := by
 unfold keyOk keyS
 split
 ·decide
 ·rename_i h
  have : 0 < s.length := List.length_pos_iff.2 h
  simp; omega
def pickN (x : Int) (n : Nat) : Nat := (if x < 0 then (-(x + 1)).toNat else x.toNat) % n
theorem tmod_nat (y n : Nat) : Int.tmod (y : Int) n = ((y % n : Nat) : Int) := by simp [Int.tmod]
theorem pickN_lt (x : Int) (n : Nat) (h : 1 ≤ n) : pickN x n < n := Nat.mod_lt _ (by omega)
set_option maxRecDepth 100000 in
theorem pick_any (x : Int) (n : Nat) (w : World) (h1 : -9223372036854775808 ≤ x) (h2 : x ≤ 9223372036854775807) (hn : 1 ≤ n) (hm : n ≤ maxLen) :
  Calls Try.prog 10 #[.int .i64 x, .int .i64 (n : Int)] w fun e w' => e = .returned (.int .i64 (pickN x n : Int)) ∧ w' = w := by
 unfold maxLen at hm
 have hn0 : ((n : Int) == 0) = false := by simp; omega
 have hn1 : ((n : Int) == -1) = false := by simp
 by_cases hx : x < 0
 ·have e1 : IntKind.i64.wrap (x + 1) = x + 1 := by simp only [IntKind.wrap_i64]; omega
  have e2 : IntKind.i64.wrap (-(x + 1)) = -(x + 1) := by simp only [IntKind.wrap_i64]; omega
  have HI : Hid (Int.tmod (-(x + 1)) n = (pickN x n : Int)) := by
   unfold Hid pickN
   rw [if_pos hx]
   obtain ⟨y, hy⟩ : ∃ y : Nat, -(x + 1) = (y : Int) := ⟨(-(x + 1)).toNat, by omega⟩
   rw [hy]; exact tmod_nat y n
  go_enter Try.func10, Try.ntmps10
  go_wp2
  go_ret
  refine ⟨?_, rfl⟩
  rw [← HI.out]
  simp [Int.neg_tmod]
 ·obtain ⟨y, rfl⟩ : ∃ y : Nat, x = (y : Int) := ⟨x.toNat, by omega⟩
  have HI : Hid ((pickN (y : Int) n : Int) = ((y % n : Nat) : Int)) := by
   unfold Hid pickN
   rw [if_neg hx]; simp
  go_enter Try.func10, Try.ntmps10
  go_wp2
  go_ret
  refine ⟨?_, rfl⟩
  rw [HI.out]
  simp
theorem extract_take (l : List UInt8) : ByteArray.extract ⟨l.toArray⟩ 0 (min (l.length : Int) 12).toNat = ⟨(l.take 12).toArray⟩ := by
 have e : (min (l.length : Int) 12).toNat = min l.length 12 := by omega
 rw [e]
 apply ByteArray.ext
 rw [ByteArray.data_extract]
 simp [← List.take_eq_take_min]
 exact Nat.min_comm _ _
set_option maxRecDepth 100000 in
set_option maxHeartbeats 1600000 in
theorem key_wide (l : List UInt8) (w : World) (hl : l.length ≤ 140737488351233) :
  Calls Try.prog 17 #[.string ⟨l.toArray⟩] w fun e w' => ∃ v : SlR, e = .returned v.val ∧ BS w' v (keyS l) ∧ Below w.heap.size w w' ∧ ∀ x, v.a = some x → w.heap.size ≤ x.block := by
 by_cases h0 : l = []
 ·subst h0
  go_enter Try.func17, Try.ntmps17
  go_wp2
  go_ret
  refine ⟨⟨some ⟨w.heap.size, 0, none⟩, 1, 1⟩, rfl, ⟨SlB.mk (by simp) (fun i hi => ?_), rfl, fun h => (by cases h), fun x hx => (by cases hx; simp)⟩, (Below.refl _ _).alloc (Nat.le_refl _) _, fun x hx => (by cases hx; exact Nat.le_refl _)⟩
  have : i = 0 := by simp [keyS] at hi; omega
  subst this
  simp [go_sem, keyS]
 ·have hp : 0 < l.length := List.length_pos_iff.2 h0
  have hie : l.isEmpty = false := by simpa using h0
  have hex := extract_take l
  have hlI : (l.length : Int) ≤ 140737488351233 := by omega
  go_enter Try.func17, Try.ntmps17
  go_wp2_with (first
   | (refine wp_toBytes (by rfl) (.tmp 10) (by rfl) (l.take 12) (by first | rfl | exact congrArg Value.string hex) ?_; intro s1 w1 hb1 hB1 hn1))
  go_ret
  refine ⟨s1, rfl, ?_, hB1, hn1⟩
  have : keyS l = l.take 12 := by unfold keyS; rw [if_neg h0]
  rw [this]; exact hb1
theorem key_any (l : List UInt8) (w : World) (hl : l.length ≤ 140737488351232) :
  Calls Try.prog 17 #[.string ⟨l.toArray⟩] w fun e w' => ∃ v : SlR, e = .returned v.val ∧ BS w' v (keyS l) ∧ Below w.heap.size w w' ∧ ∀ x, v.a = some x → w.heap.size ≤ x.block := key_wide l w (by omega)
end Go.Proofs.Ytekegfbjbainhaa


namespace Go.Proofs.Ytekegfbjbainhaa
open Go.RowKit
attribute [local go_sem ↓] Go.wp_at_zero Go.wp_at_succ
theorem HouAt.ltM {w : World} {d : HouD} (h : HouAt w d) : ∀ k, d.M k → k < w.heap.size := fun k hk => by
 rcases hk with rfl | hk | hk | hk
 ·exact h.row.lt
 ·exact h.sto.lt k (Or.inl hk)
 ·exact (h.pst.lt k hk).2
 ·exact (h.don.lt k hk).2
structure Hou (w : World) (d : HouD) (wr : World) : Prop where
 at_ : HouAt wr d
 ge : ∀ k, d.M k → w.heap.size ≤ k
 bel : Below w.heap.size w wr
 rts : d.tds.map rootOf = d.pp.map rootB
 keys : ∀ p ∈ d.its :: d.pp, ∀ x ∈ p, keyOk x.key = true
theorem Hou.below {w wr W : World} {d : HouD} (h : Hou w d wr) (hb : Below wr.heap.size wr W) : Hou w d W := ⟨h.at_.below hb, h.ge, h.bel.trans (hb.mono h.bel.size), h.rts, h.keys⟩
theorem Hou.next {w wr w' : World} {d : HouD} (h : Hou w d wr) (hf : Frame d.M wr w') : Below w.heap.size w w' := h.bel.trans (hf.below h.bel.size h.ge)
theorem hou_put {w wr : World} {d : HouD} (H : Hou w d wr) (sk sv : SlR) (key value : List UInt8) (hK : BS wr sk key) (hV : BS wr sv value) (hko : keyOk key = true) (hvo : value.length ≤ 12) (hM : ∀ k, blkOf sk k ∨ blkOf sv k → ¬ d.M k) :
  Calls Try.prog 11 #[.pointer (some ⟨d.hb, 0, none⟩), sk.val, sv.val] wr fun e w' => e = .returned (.bool true) ∧ ∃ d', Hou w d' w' ∧ d'.hb = d.hb ∧ d'.its = putL d.its key value ∧ d'.tds = d.tds ∧ d'.pp = d.pp ∧ Frame d.M wr w' ∧ ∀ k, d'.F k → k < wr.heap.size → d.F k ∨ blkOf sk k ∨ blkOf sv k := by
 have h := H.at_
 refine (house_put d.hb d.sb d.N d.en d.tr d.mp d.ms d.xs d.tds d.pa.val d.dn.val d.nw d.nes d.its sk sv key value wr h.row h.sto h.now hK hV hko hvo (fun k hk => ?_) (fun e => (h.sS d.hb (Or.inl e)).1 rfl) h.hbsb).mono ?_
 ·rcases hk with hk | hk
  ·exact ⟨fun e => (h.sE k (Or.inl hk)).2.1 (Or.inl e), (h.sE k (Or.inl hk)).1⟩
  ·exact ⟨fun e => hM k hk (Or.inr (Or.inl (Or.inl e))), fun e => hM k hk (Or.inl e)⟩
 ·intro e w' hp
  obtain ⟨rfl, d', h1, h2, h3, h4, h5, h6, h7, h8⟩ := h.turn hM hp
  refine ⟨rfl, d', ⟨h1, fun k hk => H.ge k (h7 k hk), H.next h6, by rw [h4, h5]; exact H.rts, fun p hp x hx => ?_⟩, h2, h3, h4, h5, h6, h8⟩
  rcases List.mem_cons.1 hp with rfl | hp
  ·rw [h3] at hx
   unfold putL at hx
   split at hx
   ·rcases mem_put hx with hx | rfl
    ·exact H.keys _ (List.mem_cons_self ..) x hx
    ·exact hko
   ·exact H.keys _ (List.mem_cons_self ..) x hx
  ·rw [h5] at hp; exact H.keys p (List.mem_cons_of_mem _ hp) x hx
theorem hou_take {w wr : World} {d : HouD} (H : Hou w d wr) (sk : SlR) (key : List UInt8) (hK : BS wr sk key) (hko : keyOk key = true) :
  Calls Try.prog 13 #[.pointer (some ⟨d.hb, 0, none⟩), sk.val] wr fun e w' => e = .returned (.bool true) ∧ ∃ d', Hou w d' w' ∧ d'.hb = d.hb ∧ d'.its = delL d.its key ∧ d'.tds = d.tds ∧ d'.pp = d.pp ∧ Frame d.M wr w' ∧ ∀ k, d'.F k → k < wr.heap.size → d.F k ∨ False := by
 have h := H.at_
 refine (house_take d.hb d.sb d.N d.en d.tr d.mp d.ms d.xs d.tds d.pa.val d.dn.val d.nw d.nes d.its sk key wr h.row h.sto h.now hK hko (fun k hk => ⟨fun e => (h.sE k (Or.inl hk)).2.1 (Or.inl e), (h.sE k (Or.inl hk)).1⟩) (fun e => (h.sS d.hb (Or.inl e)).1 rfl) h.hbsb).mono ?_
 intro e w' hp
 obtain ⟨rfl, d', h1, h2, h3, h4, h5, h6, h7, h8⟩ := h.turn (fun k hk => hk.elim) hp
 refine ⟨rfl, d', ⟨h1, fun k hk => H.ge k (h7 k hk), H.next h6, by rw [h4, h5]; exact H.rts, fun p hp x hx => ?_⟩, h2, h3, h4, h5, h6, h8⟩
 rcases List.mem_cons.1 hp with rfl | hp
 ·rw [h3] at hx
  unfold delL at hx
  split at hx
  ·exact H.keys _ (List.mem_cons_self ..) x (mem_del hx)
  ·exact H.keys _ (List.mem_cons_self ..) x hx
 ·rw [h5] at hp; exact H.keys p (List.mem_cons_of_mem _ hp) x hx
theorem hou_commit {w wr : World} {d : HouD} (H : Hou w d wr) :
  Calls Try.prog 14 #[.pointer (some ⟨d.hb, 0, none⟩)] wr fun e w' => e = .returned (.bool true) ∧ ∃ d', Hou w d' w' ∧ d'.hb = d.hb ∧ d'.its = d.its ∧ 1 ≤ d'.tds.length ∧ d'.pp = (if d.tds.length < 40 then d.pp ++ [d.its] else d.pp) ∧ Frame d.M wr w' := by
 refine (house_commit d wr H.at_).mono ?_
 rintro e w' ⟨rfl, d', h1, h2, h3, h4, h5, h6⟩
 have hge : ∀ k, d'.M k → w.heap.size ≤ k := fun k hk => by
  by_cases hlt : k < wr.heap.size
  ·exact H.ge k (h6 k hk hlt)
  ·have := H.bel.size; omega
 by_cases h40 : d.tds.length < 40
 ·rw [if_pos h40] at h4 ⊢
  obtain ⟨⟨nd, e1, e2⟩, e3⟩ := h4
  refine ⟨rfl, d', ⟨h1, hge, H.next h5, by rw [e1, e3, List.map_append, List.map_append, H.rts, List.map_singleton, List.map_singleton, e2], fun p hp x hx => ?_⟩, h2, h3, by rw [e1]; simp, e3, h5⟩
  rw [h3, e3] at hp
  refine H.keys p ?_ x hx
  rcases List.mem_cons.1 hp with rfl | hp
  ·exact List.mem_cons_self ..
  ·rcases List.mem_append.1 hp with hp | hp
   ·exact List.mem_cons_of_mem _ hp
   ·rw [List.mem_singleton.1 hp]; exact List.mem_cons_self ..
 ·rw [if_neg h40] at h4 ⊢
  obtain ⟨e1, e3⟩ := h4
  exact ⟨rfl, d', ⟨h1, hge, H.next h5, by rw [e1, e3]; exact H.rts, fun p hp x hx => H.keys p (by rw [h3, e3] at hp; exact hp) x hx⟩, h2, h3, by rw [e1]; omega, e3, h5⟩
def newH (hb sb : Nat) : HouD := ⟨hb, sb, 0, ⟨none, 0, 0⟩, ⟨none, 0, 0⟩, none, [], [], [], [], ⟨none, 0, 0⟩, [], ⟨none, 0, 0⟩, [], ⟨none, 0, 0⟩, [], []⟩
theorem newH_St {hb sb k : Nat} (h : (newH hb sb).St k) : k = sb := by
 rcases h with ((h | h | ⟨e, he, _⟩) | (h | ⟨x, hx, _⟩) | ⟨e, he, _⟩ | h | ⟨nd, hn, _⟩) | ⟨L, hL, _⟩
 ·exact h
 ·cases h
 ·cases he
 ·cases h
 ·cases hx
 ·cases he
 ·cases h
 ·cases hn
 ·cases hL
theorem newH_E {hb sb k : Nat} (h : (newH hb sb).E k) : False := by
 rcases h with (h | ⟨e, he, _⟩) | ⟨p, hp, _⟩
 ·cases h
 ·cases he
 ·cases hp
theorem house_new {w : World} {hb sb : Nat} (h1 : RowV w hb 32 [.pointer (some ⟨sb, 0, none⟩), .slice none 0 0, .slice none 0 0, .slice none 0 0]) (h2 : RowV w sb 89 [.slice none 0 0, .map none, .slice none 0 0]) (hne : hb ≠ sb) : HouAt w (newH hb sb) := by
 refine ⟨h1, ⟨h2, ⟨rfl, fun e he => (by cases he), fun e he => (by cases he), fun e he => (by cases he), ?_, fun e he => (by cases he), fun e he => (by cases he), fun e he => (by cases he), List.nodup_nil⟩, ⟨World.ownsRow_nil _ _ _ _, rfl, fun i h _ => absurd h (by simp [newH])⟩, ?_, World.ownsRow_nil _ _ _ _, ?_, fun nd hn => (by cases hn), List.Pairwise.nil, fun x hx => (by cases hx), fun x hx => (by cases hx), by simp [newH]⟩,
  ⟨fun L hL => (by cases hL), rfl, rfl, fun i L p nd e1 => (by simp [newH] at e1)⟩, EnsK.nil _ _, World.ownsRow_nil _ _ _ _, rfl, fun i h => absurd h (Nat.not_lt_zero _), World.ownsRow_nil _ _ _ _, by simp [newH], by simp [newH], fun k hk => ?_, fun k hk => (newH_E hk).elim⟩
 ·intro i j e f _ he
  simp [newH] at he
 ·intro k hk
  rcases hk with hk | ⟨x, hx, _⟩
  ·cases hk
  ·cases hx
 ·intro k hk
  cases hk
 ·rw [newH_St hk]
  exact ⟨fun e => hne e.symm, fun e => (by cases e), fun e => (by cases e)⟩
set_option maxRecDepth 100000 in
theorem new_any (w : World) : Calls Try.prog 9 #[] w fun e w' => e = .returned (.pointer (some ⟨w.heap.size, 0, none⟩)) ∧ w' = w.alloc (.cells #[.slice none 0 0, .map none, .slice none 0 0] 89) := by
 go_enter Try.func9, Try.ntmps9
 go_wp2
 go_ret
 exact ⟨rfl, rfl⟩
end Go.Proofs.Ytekegfbjbainhaa


namespace Go.Proofs.Ytekegfbjbainhaa
open Go.RowKit
attribute [local go_sem ↓] Go.wp_at_zero Go.wp_at_succ
structure ActR where
 kind : Int
 key : List UInt8
 val : List UInt8
def ActR.cells (a : ActR) : List Value := [.int .i64 a.kind, .string ⟨a.key.toArray⟩, .string ⟨a.val.toArray⟩]
def ActsAt (w : World) (a : Option Addr) (n : Nat) (f : Nat → ActR) : Prop :=
 ∀ i, i < n → ∃ b o, a = some ⟨b, o, none⟩ ∧ b < w.heap.size ∧ w.rangeAt b (o + i * 3) (f i).cells ∧ (f i).key.length ≤ 140737488351232 ∧ (f i).val.length ≤ 140737488351232 ∧ -9223372036854775808 ≤ (f i).kind ∧ (f i).kind ≤ 9223372036854775807
theorem bs_one (w : World) (x : UInt8) (t : TypeId) (fr : Nat × Nat) : BS (w.alloc (.cells #[.int .u8 (x.toNat : Int)] t fr)) ⟨some ⟨w.heap.size, 0, none⟩, 1, 1⟩ [x] :=
 ⟨SlB.mk (by simp) (fun i hi => by
  have : i = 0 := by simp at hi; omega
  subst this
  have h : (w.alloc (.cells #[.int .u8 (x.toNat : Int)] t fr)).heap[w.heap.size]? = some (.cells #[.int .u8 (x.toNat : Int)] t fr) := by
   show (w.heap.push _)[w.heap.size]? = _
   simp
  exact World.rangeAt_of_block h 0 1 0 _ rfl), rfl, fun h => (by cases h), fun x hx => (by cases hx; simp)⟩
set_option maxRecDepth 100000 in
set_option maxHeartbeats 4000000 in
theorem house_any (a : Option Addr) (n cap : Nat) (f : Nat → ActR) (w : World) (hs : ActsAt w a n f) (hn : n ≤ 9223372036854775807) :
  Calls Try.prog 8 #[.slice a n cap] w fun e w' => ∃ d : HouD, e = .returned (.tuple #[.pointer (some ⟨d.hb, 0, none⟩), .bool true]) ∧ Hou w d w' ∧ 1 ≤ d.tds.length := by
 have HACT : Hid (ActsAt w a n f) := hs
 have hnI : (n : Int) ≤ 9223372036854775807 := by omega
 have hB2 : Below w.heap.size w ((w.alloc (.cells #[.slice none 0 0, .map none, .slice none 0 0] 89)).alloc (.cells #[.pointer (some ⟨w.heap.size, 0, none⟩), .slice none 0 0, .slice none 0 0, .slice none 0 0] 32)) := ((Below.refl _ _).alloc (Nat.le_refl _) _).alloc (by simp) _
 have hH2 : HouAt ((w.alloc (.cells #[.slice none 0 0, .map none, .slice none 0 0] 89)).alloc (.cells #[.pointer (some ⟨w.heap.size, 0, none⟩), .slice none 0 0, .slice none 0 0, .slice none 0 0] 32)) (newH (w.heap.size + 1) w.heap.size) := house_new (by
   have h := RowV.new (w.alloc (.cells #[.slice none 0 0, .map none, .slice none 0 0] 89)) 32 [.pointer (some ⟨w.heap.size, 0, none⟩), .slice none 0 0, .slice none 0 0, .slice none 0 0]
   simpa using h) (RowV.alloc (RowV.new w 89 [.slice none 0 0, .map none, .slice none 0 0]) _) (by omega)
 have hB4 : Below ((w.alloc (.cells #[.slice none 0 0, .map none, .slice none 0 0] 89)).alloc (.cells #[.pointer (some ⟨w.heap.size, 0, none⟩), .slice none 0 0, .slice none 0 0, .slice none 0 0] 32)).heap.size ((w.alloc (.cells #[.slice none 0 0, .map none, .slice none 0 0] 89)).alloc (.cells #[.pointer (some ⟨w.heap.size, 0, none⟩), .slice none 0 0, .slice none 0 0, .slice none 0 0] 32)) ((((w.alloc (.cells #[.slice none 0 0, .map none, .slice none 0 0] 89)).alloc (.cells #[.pointer (some ⟨w.heap.size, 0, none⟩), .slice none 0 0, .slice none 0 0, .slice none 0 0] 32)).alloc (.cells #[.int .u8 97] 5 (1, 2))).alloc (.cells #[.int .u8 49] 5 (1, 2))) := ((Below.refl _ _).alloc (Nat.le_refl _) _).alloc (by simp) _
 have HH4 : Hid (Hou w (newH (w.heap.size + 1) w.heap.size) ((((w.alloc (.cells #[.slice none 0 0, .map none, .slice none 0 0] 89)).alloc (.cells #[.pointer (some ⟨w.heap.size, 0, none⟩), .slice none 0 0, .slice none 0 0, .slice none 0 0] 32)).alloc (.cells #[.int .u8 97] 5 (1, 2))).alloc (.cells #[.int .u8 49] 5 (1, 2)))) := by
  refine ⟨hH2.below hB4, fun k hk => ?_, hB2.trans (hB4.mono hB2.size), rfl, fun p hp x hx => ?_⟩
  ·rcases hk with rfl | (rfl | hk | ⟨e, he, _⟩) | hk | hk
   ·show w.heap.size ≤ w.heap.size + 1; omega
   ·exact Nat.le_refl _
   ·cases hk
   ·cases he
   ·cases hk
   ·cases hk
  ·have : p = [] := by simpa [newH] using hp
   rw [this] at hx; cases hx
 have HKA : Hid (BS ((((w.alloc (.cells #[.slice none 0 0, .map none, .slice none 0 0] 89)).alloc (.cells #[.pointer (some ⟨w.heap.size, 0, none⟩), .slice none 0 0, .slice none 0 0, .slice none 0 0] 32)).alloc (.cells #[.int .u8 97] 5 (1, 2))).alloc (.cells #[.int .u8 49] 5 (1, 2))) ⟨some ⟨w.heap.size + 1 + 1, 0, none⟩, 1, 1⟩ [97]) := by
  have h := (bs_one ((w.alloc (.cells #[.slice none 0 0, .map none, .slice none 0 0] 89)).alloc (.cells #[.pointer (some ⟨w.heap.size, 0, none⟩), .slice none 0 0, .slice none 0 0, .slice none 0 0] 32)) 97 5 (1, 2)).below ((Below.refl _ _).alloc (Nat.le_refl _) (.cells #[.int .u8 49] 5 (1, 2)))
  unfold Hid; simpa using h
 have HVA : Hid (BS ((((w.alloc (.cells #[.slice none 0 0, .map none, .slice none 0 0] 89)).alloc (.cells #[.pointer (some ⟨w.heap.size, 0, none⟩), .slice none 0 0, .slice none 0 0, .slice none 0 0] 32)).alloc (.cells #[.int .u8 97] 5 (1, 2))).alloc (.cells #[.int .u8 49] 5 (1, 2))) ⟨some ⟨w.heap.size + 1 + 1 + 1, 0, none⟩, 1, 1⟩ [49]) := by
  have h := bs_one (((w.alloc (.cells #[.slice none 0 0, .map none, .slice none 0 0] 89)).alloc (.cells #[.pointer (some ⟨w.heap.size, 0, none⟩), .slice none 0 0, .slice none 0 0, .slice none 0 0] 32)).alloc (.cells #[.int .u8 97] 5 (1, 2))) 49 5 (1, 2)
  unfold Hid; simpa using h
 clear hB2 hH2 hB4 hs
 go_enter Try.func8, Try.ntmps8
 go_wp2_with fail
 refine (new_any _).mono ?_
 rintro e w' ⟨rfl, rfl⟩
 have k97 : (convert 35 35 (.slice (some ⟨w.heap.size + 1 + 1, 0, none⟩) 1 1)).run Try.prog (((w.alloc (.cells #[.slice none 0 0, .map none, .slice none 0 0] 89)).alloc (.cells #[.pointer (some ⟨w.heap.size, 0, none⟩), .slice none 0 0, .slice none 0 0, .slice none 0 0] 32)).alloc (.cells #[.int .u8 97] 5)) = .ok (.slice (some ⟨w.heap.size + 1 + 1, 0, none⟩) 1 1) (((w.alloc (.cells #[.slice none 0 0, .map none, .slice none 0 0] 89)).alloc (.cells #[.pointer (some ⟨w.heap.size, 0, none⟩), .slice none 0 0, .slice none 0 0, .slice none 0 0] 32)).alloc (.cells #[.int .u8 97] 5 (1, 2))) := by
  have h := Lib.run_convert_bytes_const (P := Try.prog) ((w.alloc (.cells #[.slice none 0 0, .map none, .slice none 0 0] 89)).alloc (.cells #[.pointer (some ⟨w.heap.size, 0, none⟩), .slice none 0 0, .slice none 0 0, .slice none 0 0] 32)) 35 5 #[.int .u8 97] 1 1 Try.underlying35 Try.underlying5
  simpa using h
 have k49 : (convert 35 35 (.slice (some ⟨w.heap.size + 1 + 1 + 1, 0, none⟩) 1 1)).run Try.prog ((((w.alloc (.cells #[.slice none 0 0, .map none, .slice none 0 0] 89)).alloc (.cells #[.pointer (some ⟨w.heap.size, 0, none⟩), .slice none 0 0, .slice none 0 0, .slice none 0 0] 32)).alloc (.cells #[.int .u8 97] 5 (1, 2))).alloc (.cells #[.int .u8 49] 5)) = .ok (.slice (some ⟨w.heap.size + 1 + 1 + 1, 0, none⟩) 1 1) ((((w.alloc (.cells #[.slice none 0 0, .map none, .slice none 0 0] 89)).alloc (.cells #[.pointer (some ⟨w.heap.size, 0, none⟩), .slice none 0 0, .slice none 0 0, .slice none 0 0] 32)).alloc (.cells #[.int .u8 97] 5 (1, 2))).alloc (.cells #[.int .u8 49] 5 (1, 2))) := by
  have h := Lib.run_convert_bytes_const (P := Try.prog) (((w.alloc (.cells #[.slice none 0 0, .map none, .slice none 0 0] 89)).alloc (.cells #[.pointer (some ⟨w.heap.size, 0, none⟩), .slice none 0 0, .slice none 0 0, .slice none 0 0] 32)).alloc (.cells #[.int .u8 97] 5 (1, 2))) 35 5 #[.int .u8 49] 1 1 Try.underlying35 Try.underlying5
  simpa using h
 go_wp2_with fail
 clear k97 k49
 refine (hou_put HH4.out ⟨some ⟨w.heap.size + 1 + 1, 0, none⟩, 1, 1⟩ ⟨some ⟨w.heap.size + 1 + 1 + 1, 0, none⟩, 1, 1⟩ [97] [49] HKA.out HVA.out (by decide) (by decide) (fun k hk hm => ?_)).mono ?_
 ·have h1 : k = w.heap.size + 1 + 1 ∨ k = w.heap.size + 1 + 1 + 1 := by
   rcases hk with ⟨x, hx, rfl⟩ | ⟨x, hx, rfl⟩
   ·cases hx; exact Or.inl rfl
   ·cases hx; exact Or.inr rfl
  rcases hm with rfl | (rfl | hm | ⟨e, he, _⟩) | hm | hm
  ·simp [newH] at h1
  ·simp [newH] at h1; omega
  ·cases hm
  ·cases he
  ·cases hm
  ·cases hm
 rintro e w5 ⟨rfl, d5, H5, hhb5, _⟩
 have HD5 : Hid (Hou w d5 w5) := H5
 have HHB5 : Hid (d5.hb = w.heap.size + 1) := hhb5
 clear H5 hhb5 HH4 HKA HVA
 go_wp2_with fail
 have hcm := hou_commit HD5.out
 rw [HHB5.out] at hcm
 refine hcm.mono ?_
 rintro e w6 ⟨rfl, d6, H6, hhb6, _, h16, _, _⟩
 have HD6 : Hid (Hou w d6 w6) := H6
 have HE6 : Hid (d6.hb = w.heap.size + 1 ∧ 1 ≤ d6.tds.length) := ⟨hhb6, h16⟩
 clear H6 hhb6 h16 hcm HD5 HHB5
 go_wp2
 go_loopw [5, 7] (fun ok i wr => ∃ (k : Nat) (d : HouD), k ≤ n ∧ i = .int .i64 (k : Int) ∧ ok = .bool true ∧ Hid (Hou w d wr) ∧ Hid (d.hb = w.heap.size + 1 ∧ 1 ≤ d.tds.length)) (fun _ i _ => n - (intOf i).toNat)
 case atStart => exact ⟨0, d6, by omega, rfl, rfl, HD6, HE6⟩
 case round =>
  obtain ⟨k, d, hk, rfl, rfl, HD, HE⟩ := hrel
  by_cases hlt : k < n
  ·have hltI : (k : Int) < n := by omega
   by_cases h150 : k < 150
   ·have h150I : (k : Int) < 150 := by omega
    obtain ⟨b, o, rfl, hb, hr, hs1, hs2, hk1, hk2⟩ := HACT.out k hlt
    have HR : Hid (∀ W, Below w.heap.size w W → W.cell? ⟨b, o + k * 3, none⟩ = some (.int .i64 (f k).kind) ∧ W.cell? ⟨b, o + k * 3 + 1, none⟩ = some (.string ⟨(f k).key.toArray⟩) ∧ W.cell? ⟨b, o + k * 3 + 2, none⟩ = some (.string ⟨(f k).val.toArray⟩)) := fun W hW => ⟨(hW.cell (p := ⟨b, o + k * 3, none⟩) hb).trans (hr 0 _ rfl), (hW.cell (p := ⟨b, o + k * 3 + 1, none⟩) hb).trans (hr 1 _ rfl), (hW.cell (p := ⟨b, o + k * 3 + 2, none⟩) hb).trans (hr 2 _ rfl)⟩
    obtain ⟨c0, c1, c2⟩ := HR.out _ HD.out.bel
    clear hr c0 c2
    generalize f k = act at *
    go_wp2_with fail
    refine (key_any act.key _ hs1).mono ?_
    rintro e w1 ⟨v, rfl, hv, hb1, hn1⟩
    have HD1 : Hid (Hou w d w1) := HD.out.below hb1
    have HBV : Hid (BS w1 v (keyS act.key)) := hv
    have HVM : Hid (∀ k, blkOf v k → wr.heap.size ≤ k) := fun k ⟨x, hx, e⟩ => by rw [← e]; exact hn1 x hx
    obtain ⟨c0, c1', c2⟩ := HR.out _ HD1.out.bel
    clear c1 c1' hv hb1 hn1
    unfold SlR.val
    go_wp2_with fail
    refine (pick_any act.kind 8 _ hk1 hk2 (by decide) (by decide)).mono ?_
    rintro e w2 ⟨rfl, hw2⟩
    obtain rfl : w1 = w2 := hw2.symm
    clear hw2
    have hq := pickN_lt act.kind 8 (by decide)
    generalize pickN act.kind 8 = q at *
    have HEX : Hid (ByteArray.extract ⟨act.val.toArray⟩ 0 (min (act.val.length : Int) 12).toNat = ⟨(act.val.take 12).toArray⟩) := extract_take act.val
    have hvI : (act.val.length : Int) ≤ 140737488351232 := by omega
    by_cases h0 : q = 0
    ·subst h0
     clear hq
     go_wp2_with fail
     have hcm := hou_commit HD1.out
     rw [HE.out.1] at hcm
     refine hcm.mono ?_
     rintro e w9 ⟨rfl, d9, H9, hhb9, _, h19, _, _⟩
     go_wp2
     refine ⟨⟨k + 1, d9, by omega, by go_num, rfl, H9, hhb9, h19⟩, by simp [intOf]; omega⟩
    ·have h0I : ((q : Int) == 0) = false := by rw [Bool.eq_false_iff]; simp only [ne_eq, beq_iff_eq]; omega
     by_cases h12 : q = 1 ∨ q = 2
     ·have HTK : Hid (Calls _ _ _ _ _) := hou_take HD1.out v (keyS act.key) HBV.out (keyS_ok _)
      rw [HE.out.1] at HTK
      unfold SlR.val at HTK
      clear h0 hq
      rcases h12 with rfl | rfl
      ·go_wp2_with fail
       refine HTK.out.mono ?_
       rintro e w9 ⟨rfl, d9, H9, hhb9, _, htd, _⟩
       go_wp2
       refine ⟨⟨k + 1, d9, by omega, by go_num, rfl, H9, hhb9, by rw [htd]; exact HE.out.2⟩, by simp [intOf]; omega⟩
      ·go_wp2_with fail
       refine HTK.out.mono ?_
       rintro e w9 ⟨rfl, d9, H9, hhb9, _, htd, _⟩
       go_wp2
       refine ⟨⟨k + 1, d9, by omega, by go_num, rfl, H9, hhb9, by rw [htd]; exact HE.out.2⟩, by simp [intOf]; omega⟩
     ·have h1I : ((q : Int) == 1) = false := by rw [Bool.eq_false_iff]; simp only [ne_eq, beq_iff_eq]; omega
      have h2I : ((q : Int) == 2) = false := by rw [Bool.eq_false_iff]; simp only [ne_eq, beq_iff_eq]; omega
      clear h0 hq h12
      go_wp2_with (first
       | (refine wp_toBytes (by rfl) (.tmp 67) (by rfl) (act.val.take 12) (by first | rfl | exact congrArg Value.string HEX.out) ?_; intro s1 w3 hb3 hB3 hn3))
      have HD3 := HD1.out.below hB3
      have hpt := hou_put HD3 v s1 (keyS act.key) (act.val.take 12) (HBV.out.below hB3) hb3 (keyS_ok _) (by simp; omega) (fun j hj hm => by
       have hlt := HD.out.at_.ltM j hm
       rcases hj with hj | ⟨x, hx, e⟩
       ·have := HVM.out j hj; omega
       ·have := hn3 x hx; have := HD1.out.at_.ltM j hm; omega)
      rw [HE.out.1] at hpt
      unfold SlR.val at hpt
      refine hpt.mono ?_
      rintro e w9 ⟨rfl, d9, H9, hhb9, _, htd, _⟩
      go_wp2
      refine ⟨⟨k + 1, d9, by omega, by go_num, rfl, H9, hhb9, by rw [htd]; exact HE.out.2⟩, by simp [intOf]; omega⟩
   ·have h150I : ¬ (k : Int) < 150 := by omega
    go_wp2_with fail
    have hcm := hou_commit HD.out
    rw [HE.out.1] at hcm
    refine hcm.mono ?_
    rintro e w9 ⟨rfl, d9, H9, hhb9, _, h19, _, _⟩
    go_wp2
    go_ret2
    exact ⟨d9, by rw [hhb9]; rfl, H9, h19⟩
  ·have hltI : ¬ (k : Int) < n := by omega
   go_wp2_with fail
   have hcm := hou_commit HD.out
   rw [HE.out.1] at hcm
   refine hcm.mono ?_
   rintro e w9 ⟨rfl, d9, H9, hhb9, _, h19, _, _⟩
   go_wp2
   go_ret2
   exact ⟨d9, by rw [hhb9]; rfl, H9, h19⟩
end Go.Proofs.Ytekegfbjbainhaa


namespace Go.Proofs.Ytekegfbjbainhaa
open Go.RowKit
attribute [local go_sem ↓] Go.wp_at_zero Go.wp_at_succ
end Go.Proofs.Ytekegfbjbainhaa
