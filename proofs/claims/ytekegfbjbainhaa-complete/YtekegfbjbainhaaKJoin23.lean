import Derived.Test.YtekegfbjbainhaaKJoin22
import Derived.Deep.DeepCutAuto
import Derived.Lib.SlBytesConst
import Derived.Test.YtekegfbjbainhaaKJoin14
set_option linter.unusedVariables false
set_option linter.unusedSimpArgs false

namespace Go.Proofs.Ytekegfbjbainhaa
open Go.RowKit
attribute [local go_sem ↓] Go.wp_at_zero Go.wp_at_succ
structure ActR where
 kind : Int
 key : List UInt8
 val : List UInt8
def ActR.cells (a : ActR) : List Value := [.int .i64 a.kind, .string ⟨a.key.toArray⟩, .string ⟨a.val.toArray⟩]
def ActsAt (w : World) (a : Option Addr) (n : Nat) (f : Nat → ActR) : Prop :=
 ∀ i, i < n → ∃ b o, a = some ⟨b, o, none⟩ ∧ b < w.heap.size ∧ w.rangeAt b (o + i * 3) (f i).cells ∧ (f i).key.length ≤ 140737488351232 ∧ (f i).val.length ≤ 140737488351232 ∧ -9223372036854775808 ≤ (f i).kind ∧ (f i).kind ≤ 9223372036854775807
theorem bs_one (w : World) (x : UInt8) (t : TypeId) (fr : Nat × Nat) : BS (w.alloc (.cells #[.int .u8 (x.toNat : Int)] t fr)) ⟨some ⟨w.heap.size, 0, none⟩, 1, 1⟩ [x] :=
 ⟨SlB.mk (by simp) (fun i hi => by
  have : i = 0 := by simp at hi; omega
  subst this
  have h : (w.alloc (.cells #[.int .u8 (x.toNat : Int)] t fr)).heap[w.heap.size]? = some (.cells #[.int .u8 (x.toNat : Int)] t fr) := by
   show (w.heap.push _)[w.heap.size]? = _
   simp
  exact World.rangeAt_of_block h 0 1 0 _ rfl), rfl, fun h => (by cases h), fun x hx => (by cases hx; simp)⟩
set_option maxRecDepth 100000 in
set_option maxHeartbeats 4000000 in
theorem house_any (a : Option Addr) (n cap : Nat) (f : Nat → ActR) (w : World) (hs : ActsAt w a n f) (hn : n ≤ 9223372036854775807) :
  Calls Try.prog 8 #[.slice a n cap] w fun e w' => ∃ d : HouD, e = .returned (.tuple #[.pointer (some ⟨d.hb, 0, none⟩), .bool true]) ∧ Hou w d w' ∧ 1 ≤ d.tds.length := by
 have HACT : Hid (ActsAt w a n f) := hs
 have hnI : (n : Int) ≤ 9223372036854775807 := by omega
 have hB2 : Below w.heap.size w ((w.alloc (.cells #[.slice none 0 0, .map none, .slice none 0 0] 89)).alloc (.cells #[.pointer (some ⟨w.heap.size, 0, none⟩), .slice none 0 0, .slice none 0 0, .slice none 0 0] 32)) := ((Below.refl _ _).alloc (Nat.le_refl _) _).alloc (by simp) _
 have hH2 : HouAt ((w.alloc (.cells #[.slice none 0 0, .map none, .slice none 0 0] 89)).alloc (.cells #[.pointer (some ⟨w.heap.size, 0, none⟩), .slice none 0 0, .slice none 0 0, .slice none 0 0] 32)) (newH (w.heap.size + 1) w.heap.size) := house_new (by
   have h := RowV.new (w.alloc (.cells #[.slice none 0 0, .map none, .slice none 0 0] 89)) 32 [.pointer (some ⟨w.heap.size, 0, none⟩), .slice none 0 0, .slice none 0 0, .slice none 0 0]
   simpa using h) (RowV.alloc (RowV.new w 89 [.slice none 0 0, .map none, .slice none 0 0]) _) (by omega)
 have hB4 : Below ((w.alloc (.cells #[.slice none 0 0, .map none, .slice none 0 0] 89)).alloc (.cells #[.pointer (some ⟨w.heap.size, 0, none⟩), .slice none 0 0, .slice none 0 0, .slice none 0 0] 32)).heap.size ((w.alloc (.cells #[.slice none 0 0, .map none, .slice none 0 0] 89)).alloc (.cells #[.pointer (some ⟨w.heap.size, 0, none⟩), .slice none 0 0, .slice none 0 0, .slice none 0 0] 32)) ((((w.alloc (.cells #[.slice none 0 0, .map none, .slice none 0 0] 89)).alloc (.cells #[.pointer (some ⟨w.heap.size, 0, none⟩), .slice none 0 0, .slice none 0 0, .slice none 0 0] 32)).alloc (.cells #[.int .u8 97] 5 (1, 2))).alloc (.cells #[.int .u8 49] 5 (1, 2))) := ((Below.refl _ _).alloc (Nat.le_refl _) _).alloc (by simp) _
 have HH4 : Hid (Hou w (newH (w.heap.size + 1) w.heap.size) ((((w.alloc (.cells #[.slice none 0 0, .map none, .slice none 0 0] 89)).alloc (.cells #[.pointer (some ⟨w.heap.size, 0, none⟩), .slice none 0 0, .slice none 0 0, .slice none 0 0] 32)).alloc (.cells #[.int .u8 97] 5 (1, 2))).alloc (.cells #[.int .u8 49] 5 (1, 2)))) := by
  refine ⟨hH2.below hB4, fun k hk => ?_, hB2.trans (hB4.mono hB2.size), rfl, fun p hp x hx => ?_⟩
  ·rcases hk with rfl | (rfl | hk | ⟨e, he, _⟩) | hk | hk
   ·show w.heap.size ≤ w.heap.size + 1; omega
   ·exact Nat.le_refl _
   ·cases hk
   ·cases he
   ·cases hk
   ·cases hk
  ·have : p = [] := by simpa [newH] using hp
   rw [this] at hx; cases hx
 have HKA : Hid (BS ((((w.alloc (.cells #[.slice none 0 0, .map none, .slice none 0 0] 89)).alloc (.cells #[.pointer (some ⟨w.heap.size, 0, none⟩), .slice none 0 0, .slice none 0 0, .slice none 0 0] 32)).alloc (.cells #[.int .u8 97] 5 (1, 2))).alloc (.cells #[.int .u8 49] 5 (1, 2))) ⟨some ⟨w.heap.size + 1 + 1, 0, none⟩, 1, 1⟩ [97]) := by
  have h := (bs_one ((w.alloc (.cells #[.slice none 0 0, .map none, .slice none 0 0] 89)).alloc (.cells #[.pointer (some ⟨w.heap.size, 0, none⟩), .slice none 0 0, .slice none 0 0, .slice none 0 0] 32)) 97 5 (1, 2)).below ((Below.refl _ _).alloc (Nat.le_refl _) (.cells #[.int .u8 49] 5 (1, 2)))
  unfold Hid; simpa using h
 have HVA : Hid (BS ((((w.alloc (.cells #[.slice none 0 0, .map none, .slice none 0 0] 89)).alloc (.cells #[.pointer (some ⟨w.heap.size, 0, none⟩), .slice none 0 0, .slice none 0 0, .slice none 0 0] 32)).alloc (.cells #[.int .u8 97] 5 (1, 2))).alloc (.cells #[.int .u8 49] 5 (1, 2))) ⟨some ⟨w.heap.size + 1 + 1 + 1, 0, none⟩, 1, 1⟩ [49]) := by
  have h := bs_one (((w.alloc (.cells #[.slice none 0 0, .map none, .slice none 0 0] 89)).alloc (.cells #[.pointer (some ⟨w.heap.size, 0, none⟩), .slice none 0 0, .slice none 0 0, .slice none 0 0] 32)).alloc (.cells #[.int .u8 97] 5 (1, 2))) 49 5 (1, 2)
  unfold Hid; simpa using h
 clear hB2 hH2 hB4 hs
 go_enter Try.func8, Try.ntmps8
 go_wp2_with fail
 refine (new_any _).mono ?_
 rintro e w' ⟨rfl, rfl⟩
 have k97 : (convert 35 35 (.slice (some ⟨w.heap.size + 1 + 1, 0, none⟩) 1 1)).run Try.prog (((w.alloc (.cells #[.slice none 0 0, .map none, .slice none 0 0] 89)).alloc (.cells #[.pointer (some ⟨w.heap.size, 0, none⟩), .slice none 0 0, .slice none 0 0, .slice none 0 0] 32)).alloc (.cells #[.int .u8 97] 5)) = .ok (.slice (some ⟨w.heap.size + 1 + 1, 0, none⟩) 1 1) (((w.alloc (.cells #[.slice none 0 0, .map none, .slice none 0 0] 89)).alloc (.cells #[.pointer (some ⟨w.heap.size, 0, none⟩), .slice none 0 0, .slice none 0 0, .slice none 0 0] 32)).alloc (.cells #[.int .u8 97] 5 (1, 2))) := by
  have h := Lib.run_convert_bytes_const (P := Try.prog) ((w.alloc (.cells #[.slice none 0 0, .map none, .slice none 0 0] 89)).alloc (.cells #[.pointer (some ⟨w.heap.size, 0, none⟩), .slice none 0 0, .slice none 0 0, .slice none 0 0] 32)) 35 5 #[.int .u8 97] 1 1 Try.underlying35 Try.underlying5
  simpa using h
 have k49 : (convert 35 35 (.slice (some ⟨w.heap.size + 1 + 1 + 1, 0, none⟩) 1 1)).run Try.prog ((((w.alloc (.cells #[.slice none 0 0, .map none, .slice none 0 0] 89)).alloc (.cells #[.pointer (some ⟨w.heap.size, 0, none⟩), .slice none 0 0, .slice none 0 0, .slice none 0 0] 32)).alloc (.cells #[.int .u8 97] 5 (1, 2))).alloc (.cells #[.int .u8 49] 5)) = .ok (.slice (some ⟨w.heap.size + 1 + 1 + 1, 0, none⟩) 1 1) ((((w.alloc (.cells #[.slice none 0 0, .map none, .slice none 0 0] 89)).alloc (.cells #[.pointer (some ⟨w.heap.size, 0, none⟩), .slice none 0 0, .slice none 0 0, .slice none 0 0] 32)).alloc (.cells #[.int .u8 97] 5 (1, 2))).alloc (.cells #[.int .u8 49] 5 (1, 2))) := by
  have h := Lib.run_convert_bytes_const (P := Try.prog) (((w.alloc (.cells #[.slice none 0 0, .map none, .slice none 0 0] 89)).alloc (.cells #[.pointer (some ⟨w.heap.size, 0, none⟩), .slice none 0 0, .slice none 0 0, .slice none 0 0] 32)).alloc (.cells #[.int .u8 97] 5 (1, 2))) 35 5 #[.int .u8 49] 1 1 Try.underlying35 Try.underlying5
  simpa using h
 go_wp2_with fail
 clear k97 k49
 refine (hou_put HH4.out ⟨some ⟨w.heap.size + 1 + 1, 0, none⟩, 1, 1⟩ ⟨some ⟨w.heap.size + 1 + 1 + 1, 0, none⟩, 1, 1⟩ [97] [49] HKA.out HVA.out (by decide) (by decide) (fun k hk hm => ?_)).mono ?_
 ·have h1 : k = w.heap.size + 1 + 1 ∨ k = w.heap.size + 1 + 1 + 1 := by
   rcases hk with ⟨x, hx, rfl⟩ | ⟨x, hx, rfl⟩
   ·cases hx; exact Or.inl rfl
   ·cases hx; exact Or.inr rfl
  rcases hm with rfl | (rfl | hm | ⟨e, he, _⟩) | hm | hm
  ·simp [newH] at h1
  ·simp [newH] at h1; omega
  ·cases hm
  ·cases he
  ·cases hm
  ·cases hm
 rintro e w5 ⟨rfl, d5, H5, hhb5, _⟩
 have HD5 : Hid (Hou w d5 w5) := H5
 have HHB5 : Hid (d5.hb = w.heap.size + 1) := hhb5
 clear H5 hhb5 HH4 HKA HVA
 go_wp2_with fail
 have hcm := hou_commit HD5.out
 rw [HHB5.out] at hcm
 refine hcm.mono ?_
 rintro e w6 ⟨rfl, d6, H6, hhb6, _, h16, _, _⟩
 have HD6 : Hid (Hou w d6 w6) := H6
 have HE6 : Hid (d6.hb = w.heap.size + 1 ∧ 1 ≤ d6.tds.length) := ⟨hhb6, h16⟩
 clear H6 hhb6 h16 hcm HD5 HHB5
 go_wp2
 go_loopw [5, 7] (fun ok i wr => ∃ (k : Nat) (d : HouD), k ≤ n ∧ i = .int .i64 (k : Int) ∧ ok = .bool true ∧ Hid (Hou w d wr) ∧ Hid (d.hb = w.heap.size + 1 ∧ 1 ≤ d.tds.length)) (fun _ i _ => n - (intOf i).toNat)
 case atStart => exact ⟨0, d6, by omega, rfl, rfl, HD6, HE6⟩
 case round =>
  obtain ⟨k, d, hk, rfl, rfl, HD, HE⟩ := hrel
  by_cases hlt : k < n
  ·have hltI : (k : Int) < n := by omega
   by_cases h150 : k < 150
   ·have h150I : (k : Int) < 150 := by omega
    obtain ⟨b, o, rfl, hb, hr, hs1, hs2, hk1, hk2⟩ := HACT.out k hlt
    have HR : Hid (∀ W, Below w.heap.size w W → W.cell? ⟨b, o + k * 3, none⟩ = some (.int .i64 (f k).kind) ∧ W.cell? ⟨b, o + k * 3 + 1, none⟩ = some (.string ⟨(f k).key.toArray⟩) ∧ W.cell? ⟨b, o + k * 3 + 2, none⟩ = some (.string ⟨(f k).val.toArray⟩)) := fun W hW => ⟨(hW.cell (p := ⟨b, o + k * 3, none⟩) hb).trans (hr 0 _ rfl), (hW.cell (p := ⟨b, o + k * 3 + 1, none⟩) hb).trans (hr 1 _ rfl), (hW.cell (p := ⟨b, o + k * 3 + 2, none⟩) hb).trans (hr 2 _ rfl)⟩
    obtain ⟨c0, c1, c2⟩ := HR.out _ HD.out.bel
    clear hr c0 c2
    generalize f k = act at *
    go_wp2_with fail
    refine (key_any act.key _ hs1).mono ?_
    rintro e w1 ⟨v, rfl, hv, hb1, hn1⟩
    have HD1 : Hid (Hou w d w1) := HD.out.below hb1
    have HBV : Hid (BS w1 v (keyS act.key)) := hv
    have HVM : Hid (∀ k, blkOf v k → wr.heap.size ≤ k) := fun k ⟨x, hx, e⟩ => by rw [← e]; exact hn1 x hx
    obtain ⟨c0, c1', c2⟩ := HR.out _ HD1.out.bel
    clear c1 c1' hv hb1 hn1
    unfold SlR.val
    go_wp2_with fail
    refine (pick_any act.kind 8 _ hk1 hk2 (by decide) (by decide)).mono ?_
    rintro e w2 ⟨rfl, hw2⟩
    obtain rfl : w1 = w2 := hw2.symm
    clear hw2
    have hq := pickN_lt act.kind 8 (by decide)
    generalize pickN act.kind 8 = q at *
    have HEX : Hid (ByteArray.extract ⟨act.val.toArray⟩ 0 (min (act.val.length : Int) 12).toNat = ⟨(act.val.take 12).toArray⟩) := extract_take act.val
    have hvI : (act.val.length : Int) ≤ 140737488351232 := by omega
    by_cases h0 : q = 0
    ·subst h0
     clear hq
     go_wp2_with fail
     have hcm := hou_commit HD1.out
     rw [HE.out.1] at hcm
     refine hcm.mono ?_
     rintro e w9 ⟨rfl, d9, H9, hhb9, _, h19, _, _⟩
     go_wp2
     refine ⟨⟨k + 1, d9, by omega, by go_num, rfl, H9, hhb9, h19⟩, by simp [intOf]; omega⟩
    ·have h0I : ((q : Int) == 0) = false := by rw [Bool.eq_false_iff]; simp only [ne_eq, beq_iff_eq]; omega
     by_cases h12 : q = 1 ∨ q = 2
     ·have HTK : Hid (Calls _ _ _ _ _) := hou_take HD1.out v (keyS act.key) HBV.out (keyS_ok _)
      rw [HE.out.1] at HTK
      unfold SlR.val at HTK
      clear h0 hq
      rcases h12 with rfl | rfl
      ·go_wp2_with fail
       refine HTK.out.mono ?_
       rintro e w9 ⟨rfl, d9, H9, hhb9, _, htd, _⟩
       go_wp2
       refine ⟨⟨k + 1, d9, by omega, by go_num, rfl, H9, hhb9, by rw [htd]; exact HE.out.2⟩, by simp [intOf]; omega⟩
      ·go_wp2_with fail
       refine HTK.out.mono ?_
       rintro e w9 ⟨rfl, d9, H9, hhb9, _, htd, _⟩
       go_wp2
       refine ⟨⟨k + 1, d9, by omega, by go_num, rfl, H9, hhb9, by rw [htd]; exact HE.out.2⟩, by simp [intOf]; omega⟩
     ·have h1I : ((q : Int) == 1) = false := by rw [Bool.eq_false_iff]; simp only [ne_eq, beq_iff_eq]; omega
      have h2I : ((q : Int) == 2) = false := by rw [Bool.eq_false_iff]; simp only [ne_eq, beq_iff_eq]; omega
      clear h0 hq h12
      go_wp2_with (first
       | (refine wp_toBytes (by rfl) (.tmp 67) (by rfl) (act.val.take 12) (by first | rfl | exact congrArg Value.string HEX.out) ?_; intro s1 w3 hb3 hB3 hn3))
      have HD3 := HD1.out.below hB3
      have hpt := hou_put HD3 v s1 (keyS act.key) (act.val.take 12) (HBV.out.below hB3) hb3 (keyS_ok _) (by simp; omega) (fun j hj hm => by
       have hlt := HD.out.at_.ltM j hm
       rcases hj with hj | ⟨x, hx, e⟩
       ·have := HVM.out j hj; omega
       ·have := hn3 x hx; have := HD1.out.at_.ltM j hm; omega)
      rw [HE.out.1] at hpt
      unfold SlR.val at hpt
      refine hpt.mono ?_
      rintro e w9 ⟨rfl, d9, H9, hhb9, _, htd, _⟩
      go_wp2
      refine ⟨⟨k + 1, d9, by omega, by go_num, rfl, H9, hhb9, by rw [htd]; exact HE.out.2⟩, by simp [intOf]; omega⟩
   ·have h150I : ¬ (k : Int) < 150 := by omega
    go_wp2_with fail
    have hcm := hou_commit HD.out
    rw [HE.out.1] at hcm
    refine hcm.mono ?_
    rintro e w9 ⟨rfl, d9, H9, hhb9, _, h19, _, _⟩
    go_wp2
    go_ret2
    exact ⟨d9, by rw [hhb9]; rfl, H9, h19⟩
  ·have hltI : ¬ (k : Int) < n := by omega
   go_wp2_with fail
   have hcm := hou_commit HD.out
   rw [HE.out.1] at hcm
   refine hcm.mono ?_
   rintro e w9 ⟨rfl, d9, H9, hhb9, _, h19, _, _⟩
   go_wp2
   go_ret2
   exact ⟨d9, by rw [hhb9]; rfl, H9, h19⟩
end Go.Proofs.Ytekegfbjbainhaa


namespace Go.Proofs.Ytekegfbjbainhaa
open Go.RowKit
def bare (p : List ItR) : List ItR := p.map (fun x => ⟨x.key, x.more, 0⟩)
theorem bare_append (p q : List ItR) : bare (p ++ q) = bare p ++ bare q := by simp [bare]
theorem bare_length (p : List ItR) : (bare p).length = p.length := by simp [bare]
structure PgW (lv : Nat) (p : List ItR) : Prop where
 le6 : lv ≤ 6
 len : p.length ≤ 60
 ne : lv = 0 ∨ p ≠ []
 rise : RiseK p
 key : ∀ x ∈ p, 1 ≤ x.key.length ∧ x.key.length ≤ 12
 low : lv = 0 → ∀ x ∈ p, x.more.length ≤ 12
 high : lv ≠ 0 → ∀ x ∈ p, x.more.length = 8
theorem bt_toNat {n : Nat} (h : n < 256) : (bt n).toNat = n := by
 unfold bt
 rw [UInt8.toNat_ofNat']
 omega
theorem oneV_cons (x : UInt8) (l : List UInt8) : oneV (some (x :: l)) = x.toNat := rfl
theorem takeR_one (x : UInt8) (l : List UInt8) : takeR 1 (some (x :: l)) = some l := by simp [takeR]
theorem takeR_app (a l : List UInt8) {n : Nat} (h : n = a.length) : takeR n (some (a ++ l)) = some l := by subst h; simp [takeR]
theorem takeB_app (a l : List UInt8) {n : Nat} (h : n = a.length) : takeB n (some (a ++ l)) = a := by subst h; simp [takeB]
theorem ent_read (lv : Nat) (x : ItR) (l : List UInt8) (hk : x.key.length ≤ 12) (h0 : lv = 0 → x.more.length ≤ 12) (h8 : lv ≠ 0 → x.more.length = 8) :
  oneV (some (itB lv x ++ l)) = x.key.length ∧ entK (some (itB lv x ++ l)) = x.key ∧ entM lv (some (itB lv x ++ l)) = x.more ∧ entR lv (some (itB lv x ++ l)) = some l ∧ (lv = 0 → oneV (entO (some (itB lv x ++ l))) = x.more.length) := by
 have e : itB lv x ++ l = bt x.key.length :: (x.key ++ (((if lv = 0 then [bt x.more.length] else []) ++ x.more) ++ l)) := by
  unfold itB; simp
 have h1 : oneV (some (itB lv x ++ l)) = x.key.length := by rw [e, oneV_cons, bt_toNat (by omega)]
 have h2 : takeR 1 (some (itB lv x ++ l)) = some (x.key ++ (((if lv = 0 then [bt x.more.length] else []) ++ x.more) ++ l)) := by rw [e, takeR_one]
 have h3 : entO (some (itB lv x ++ l)) = some (((if lv = 0 then [bt x.more.length] else []) ++ x.more) ++ l) := by
  unfold entO; rw [h1, h2, takeR_app _ _ rfl]
 refine ⟨h1, by unfold entK; rw [h1, h2, takeB_app _ _ rfl], ?_, ?_, ?_⟩
 ·unfold entM
  rw [h3]
  by_cases hz : lv = 0
  ·have := h0 hz
   simp only [hz, if_true, List.cons_append, List.nil_append]
   rw [oneV_cons, takeR_one, bt_toNat (by omega), takeB_app _ _ rfl]
  ·simp only [hz, if_false, List.nil_append]
   rw [takeB_app _ _ (h8 hz).symm]
 ·unfold entR
  rw [h3]
  by_cases hz : lv = 0
  ·have := h0 hz
   simp only [hz, if_true, List.cons_append, List.nil_append]
   rw [oneV_cons, takeR_one, bt_toNat (by omega), takeR_app _ _ rfl]
  ·simp only [hz, if_false, List.nil_append]
   rw [takeR_app _ _ (h8 hz).symm]
 ·intro hz
  have := h0 hz
  rw [h3]
  simp only [hz, if_true, List.cons_append, List.nil_append]
  rw [oneV_cons, bt_toNat (by omega)]
theorem behind_bare {acc q : List ItR} {x : ItR} (h : RiseK (acc ++ x :: q)) : behindK (bare acc) x.key = true := by
 unfold behindK
 cases hl : (bare acc).getLast? with
 | none => rfl
 | some y =>
  have hm := List.mem_of_getLast? hl
  obtain ⟨z, hz, rfl⟩ := List.mem_map.1 hm
  exact (List.pairwise_append.1 h).2.2 z hz x (by simp)
theorem items_read (lv : Nat) : ∀ (q acc : List ItR), RiseK (acc ++ q) → (∀ x ∈ q, 1 ≤ x.key.length ∧ x.key.length ≤ 12) → (lv = 0 → ∀ x ∈ q, x.more.length ≤ 12) → (lv ≠ 0 → ∀ x ∈ q, x.more.length = 8) →
  itemsO lv q.length (bare acc) (some (q.flatMap (itB lv))) = some (bare (acc ++ q))
 | [], acc, _, _, _, _ => by simp [itemsO]
 | x :: q, acc, hr, hk, h0, h8 => by
  obtain ⟨e1, e2, e3, e4, e5⟩ := ent_read lv x (q.flatMap (itB lv)) (hk x (by simp)).2 (fun e => h0 e x (by simp)) (fun e => h8 e x (by simp))
  rw [List.flatMap_cons, List.length_cons]
  unfold itemsO
  have hf : entFine lv (bare acc) (some (itB lv x ++ q.flatMap (itB lv))) = true := by
   unfold entFine
   rw [e1, e2, behind_bare hr]
   have h1 := hk x (by simp)
   by_cases hz : lv = 0
   ·have := h0 hz x (by simp)
    rw [e5 hz]
    simp [hz]; omega
   ·have : (lv == 0) = false := by simpa using hz
    simp [this]; omega
  rw [if_pos hf, e2, e3, e4]
  have := items_read lv q (acc ++ [x]) (by simpa using hr) (fun y hy => hk y (by simp [hy])) (fun e y hy => h0 e y (by simp [hy])) (fun e y hy => h8 e y (by simp [hy]))
  rw [bare_append] at this
  simpa [bare] using this
theorem page_read {lv : Nat} {p : List ItR} (h : PgW lv p) : pageF (codeB lv p) = some (lv, bare p) := by
 have h6 := h.le6
 have hl := h.len
 unfold pageF codeB
 have e1 : oneV (some (bt lv :: bt p.length :: p.flatMap (itB lv))) = lv := by rw [oneV_cons, bt_toNat (by omega)]
 have e2 : takeR 1 (some (bt lv :: bt p.length :: p.flatMap (itB lv))) = some (bt p.length :: p.flatMap (itB lv)) := takeR_one _ _
 have e3 : oneV (some (bt p.length :: p.flatMap (itB lv))) = p.length := by rw [oneV_cons, bt_toNat (by omega)]
 rw [e1, e2, e3, takeR_one, if_pos ⟨h6, hl, h.ne.imp id (fun e => by have := List.length_pos_iff.2 e; omega)⟩]
 have := items_read lv p [] (by simpa using h.rise) h.key h.low h.high
 rw [show (bare []) = [] from rfl] at this
 rw [this]
 rfl
theorem code_len {lv : Nat} {p : List ItR} (h : PgW lv p) : (codeB lv p).length ≤ 1602 := by
 unfold codeB
 have : ∀ q : List ItR, (∀ x ∈ q, x ∈ p) → (q.flatMap (itB lv)).length ≤ 26 * q.length := fun q hq => by
  induction q with
  | nil => simp
  | cons x q ih =>
   have h1 : ItOk x := by
    refine ⟨(h.key x (hq x (by simp))).2, ?_⟩
    by_cases hz : lv = 0
    ·exact h.low hz x (hq x (by simp))
    ·rw [h.high hz x (hq x (by simp))]; omega
   have h2 := itB_length lv x h1
   have h3 := ih (fun y hy => hq y (by simp [hy]))
   rw [List.flatMap_cons, List.length_append, List.length_cons]
   omega
 have h1 := this p (fun x hx => hx)
 have h2 := h.len
 simp; simp at h1; omega
theorem frame_read {lv : Nat} {p : List ItR} (h : PgW lv p) (r : List UInt8) : pgO (some (frameB lv p ++ r)) (digB (codeB lv p)) = some ((lv, bare p), r) := by
 have hl := code_len h
 have e : frameB lv p ++ r = bt ((codeB lv p).length / 256) :: bt ((codeB lv p).length % 256) :: (codeB lv p ++ r) := by unfold frameB; simp
 have en : pgN (some (frameB lv p ++ r)) = (codeB lv p).length := by
  unfold pgN
  rw [e, takeR_one, oneV_cons, oneV_cons, bt_toNat (by omega), bt_toNat (by omega)]
  omega
 have er : takeR 1 (takeR 1 (some (frameB lv p ++ r))) = some (codeB lv p ++ r) := by rw [e, takeR_one, takeR_one]
 have eb : pgB (some (frameB lv p ++ r)) = codeB lv p := by unfold pgB; rw [en, er, takeB_app _ _ rfl]
 unfold pgO
 rw [en, er, takeR_app _ _ rfl, eb, page_read h]
 simp
end Go.Proofs.Ytekegfbjbainhaa


namespace Go.Proofs.Ytekegfbjbainhaa
open Go.RowKit
def cov (G : List (List (List ItR))) : Nat → List ItR → List ItR
 | 0, p => p
 | n + 1, p => p.flatMap (fun x => cov G n (pageAt G n x.below))
theorem part_six (r : List ItR) : ∀ cur : List ItR, partF 6 r cur = [cur ++ r] := by
 induction r with
 | nil => intro cur; simp [partF]
 | cons x r ih =>
  intro cur
  unfold partF
  have : endB 6 x.key = false := by unfold endB; simp
  rw [this]
  simp [ih]
theorem nextF_below (level : Nat) : ∀ (ps : List (List ItR)) (i : Nat), (nextF level i ps).map (·.below) = List.range' i ps.length
 | [], _ => rfl
 | p :: r, i => by simp [nextF, nextF_below level r (i + 1), List.range'_succ]
theorem below_range : ∀ (f level : Nat) (l : List ItR) (n : Nat) (ps up : List (List ItR)), (grownF f level l)[n]? = some ps → (grownF f level l)[n + 1]? = some up → up.flatten.map (·.below) = List.range ps.length
 | 0, level, l, n, ps, up, h, _ => by simp [grownF] at h
 | f + 1, level, l, n, ps, up, h, h' => by
  unfold grownF at h h'
  by_cases h1 : (partedN level l).length = 1
  ·rw [if_pos h1] at h'
   simp at h'
  ·rw [if_neg h1] at h h'
   cases n with
   | zero =>
    simp only [List.getElem?_cons_zero, Option.some.injEq, List.getElem?_cons_succ] at h h'
    subst h
    cases f with
    | zero => simp [grownF] at h'
    | succ f =>
     have hup : up = partedN (level + 1) (nextF level 0 (partedN level l)) := by
      unfold grownF at h'
      split at h' <;> simpa using h'.symm
     rw [hup]
     unfold partedN
     rw [partF_flatten]
     simp only [List.nil_append]
     rw [nextF_below, List.range_eq_range']
   | succ n =>
    simp only [List.getElem?_cons_succ] at h h'
    exact below_range f (level + 1) _ n ps up h h'
theorem flat_range {α β : Type} (ps : List α) (g : α → List β) (d : α) : (List.range ps.length).flatMap (fun i => g (ps[i]?.getD d)) = ps.flatMap g := by
 have : (List.range ps.length).map (fun i => ps[i]?.getD d) = ps := by
  apply List.ext_getElem
  ·simp
  ·intro i h1 h2
   simp at h1
   simp [h1]
 have e := congrArg (List.flatMap g) this
 rw [List.flatMap_map] at e
 exact e
theorem flat_flat {α β : Type} (g : α → List β) (up : List (List α)) : up.flatMap (fun p => p.flatMap g) = up.flatten.flatMap g := by
 induction up with
 | nil => rfl
 | cons p r ih => rw [List.flatMap_cons, List.flatten_cons, List.flatMap_append, ih]
theorem cov_level (f level : Nat) (l : List ItR) : ∀ (n : Nat) (ps : List (List ItR)), (grownF f level l)[n]? = some ps → ps.flatMap (cov (grownF f level l) n) = l
 | 0, ps, h => by
  cases f with
  | zero => simp [grownF] at h
  | succ f =>
   have hps : ps = partedN level l := by
    unfold grownF at h
    split at h <;> simpa using h.symm
   show ps.flatMap (fun p => p) = l
   rw [hps]
   have : (partedN level l).flatten = l := by unfold partedN; rw [partF_flatten]; rfl
   simpa [List.flatMap_def] using this
 | n + 1, up, h => by
  obtain ⟨ps, hps⟩ : ∃ ps, (grownF f level l)[n]? = some ps := by
   have hl := (List.getElem?_eq_some_iff.1 h).1
   exact ⟨_, List.getElem?_eq_getElem (by omega)⟩
  have ih := cov_level f level l n ps hps
  have hb := below_range f level l n ps up hps h
  have e1 : up.flatMap (cov (grownF f level l) (n + 1)) = (up.flatten.map (·.below)).flatMap (fun i => cov (grownF f level l) n (pageAt (grownF f level l) n i)) := by
   rw [List.flatMap_map, ← flat_flat]
   rfl
  rw [e1, hb]
  have e2 : (fun i => cov (grownF f level l) n (pageAt (grownF f level l) n i)) = fun i => cov (grownF f level l) n (ps[i]?.getD []) := by
   funext i
   unfold pageAt
   rw [hps]
   rfl
  rw [e2, flat_range ps (cov (grownF f level l) n) []]
  exact ih
theorem last_one : ∀ (f level : Nat) (l : List ItR), level + (f + 1) = 7 → ∃ p, (grownF (f + 1) level l)[(grownF (f + 1) level l).length - 1]? = some [p]
 | f, level, l, h => by
  unfold grownF
  by_cases h1 : (partedN level l).length = 1
  ·rw [if_pos h1]
   obtain ⟨p, hp⟩ := List.length_eq_one_iff.1 h1
   exact ⟨p, by simp [hp]⟩
  ·rw [if_neg h1]
   cases f with
   | zero =>
    have : level = 6 := by omega
    subst this
    unfold partedN at h1
    rw [part_six] at h1
    simp at h1
   | succ f =>
    obtain ⟨p, hp⟩ := last_one f (level + 1) (nextF level 0 (partedN level l)) (by omega)
    have hl := (grownF_length (f + 1) (level + 1) (nextF level 0 (partedN level l)) (by omega)).1
    refine ⟨p, ?_⟩
    rw [List.length_cons, Nat.add_sub_cancel]
    rw [show (grownF (f + 1) (level + 1) (nextF level 0 (partedN level l))).length = ((grownF (f + 1) (level + 1) (nextF level 0 (partedN level l))).length - 1) + 1 by omega, List.getElem?_cons_succ]
    exact hp
end Go.Proofs.Ytekegfbjbainhaa
