
import Derived.Test.YtekegfbjbainhaaGreatKJoin2
set_option linter.unusedVariables false
set_option linter.unusedSimpArgs false
namespace Go.Proofs.YtekegfbjbainhaaGreat
open Go.RowKit
theorem run_string_SlB {P : Program} (w : World) (src dst e : TypeId) (a : Option Addr) (n cap : Nat) (l : List UInt8) (hs : P.underlying src = some (.slice e)) (he : P.underlying e = some (.int .u8)) (hd : P.underlying dst = some .string)
  (hn : n = l.length) (hc : SlB w a l) (hnil : a = none → cap = 0) : (convert src dst (.slice a n cap)).run P w = .ok (.string ⟨l.toArray⟩) w := by
 subst hn
 cases a with
 | none =>
  have : l = [] := by
   cases l with
   | nil => rfl
   | cons x r => obtain ⟨b, o, ha, _⟩ := hc 0 (by simp); cases ha
  subst this
  rw [hnil rfl]
  exact run_convert_bytes_nil w src e hs he 0 0 dst hd
 | some x =>
  cases l with
  | nil =>
   exact run_convert_bytes_back w src dst e x cap [] hs he hd (fun j hj => absurd hj (Nat.not_lt_zero _))
  | cons y r =>
   obtain ⟨b, o, ha, _⟩ := hc 0 (by simp)
   cases ha
   exact run_string_BAt w src dst e b o cap (y :: r) hs he hd (fun j hj => by
    obtain ⟨b', o', ha', _, hcc⟩ := hc j hj
    cases ha'; exact hcc)
def RefRow (w : World) (sb : Nat) (nowV pastV rootsV : Value) : Prop := RowV w sb 91 [nowV, pastV, rootsV]
set_option maxRecDepth 100000 in
set_option maxHeartbeats 1000000 in
theorem refPut_arg (sv : Value) (ak av : Option Addr) (nk ck nv cv : Nat) (w : World) (hnk : nk ≤ maxLen) (hnv : nv ≤ maxLen) (hbad : ((decide (1 ≤ nk) && decide (nk ≤ 12)) && decide (nv ≤ 12)) = false) :
  Calls Tryz.prog 41 #[sv, .slice ak nk ck, .slice av nv cv] w fun e w' => e = .returned (.int .i64 1) ∧ w' = w := by
 have HN : Hid (nk ≤ maxLen) := hnk
 unfold maxLen at hnk hnv
 by_cases hf : (decide (1 ≤ nk) && decide (nk ≤ 12)) = true
 ·have hv : ¬ nv ≤ 12 := by rw [hf] at hbad; simpa using hbad
  have hv' : (12 : Int) < nv := by omega
  go_enter Tryz.func41, Tryz.ntmps41
  go_wp2_with fail
  refine (keyFits_any ak nk ck _ HN.out).mono ?_
  rintro e w1 ⟨rfl, rfl⟩
  rw [hf]
  go_wp2
  go_ret
  exact ⟨rfl, rfl⟩
 ·have hf : (decide (1 ≤ nk) && decide (nk ≤ 12)) = false := by simpa using hf
  go_enter Tryz.func41, Tryz.ntmps41
  go_wp2_with fail
  refine (keyFits_any ak nk ck _ HN.out).mono ?_
  rintro e w1 ⟨rfl, rfl⟩
  rw [hf]
  go_wp2
  go_ret
  exact ⟨rfl, rfl⟩
theorem SlI.none {w : World} {a : Option Addr} : SlI w a [] := SlV.nil _ _
set_option maxRecDepth 100000 in
set_option maxHeartbeats 1000000 in
theorem refPut_nil (sb : Nat) (pastV rootsV : Value) (ak av : Option Addr) (ck cv : Nat) (key value : List UInt8) (w : World) (hk1 : 1 ≤ key.length) (hk2 : key.length ≤ 12) (hv : value.length ≤ 12)
  (hR : RefRow w sb (.slice none 0 0) pastV rootsV) (hK : SlB w ak key) (hV : SlB w av value) (hkn : ak = none → ck = 0) (hvn : av = none → cv = 0) :
  Calls Tryz.prog 41 #[.pointer (some ⟨sb, 0, none⟩), .slice ak key.length ck, .slice av value.length cv] w fun e w' => e = .returned (.int .i64 0) ∧
   ∃ nowV', RefRow w' sb nowV' pastV rootsV ∧ OwnI w' w.heap.size nowV' (putN [] key value) ∧ Frame (fun k => k = sb) w w' := by
 have hsb : sb < w.heap.size := hR.lt
 have h0 : w.cell? ⟨sb, 0, none⟩ = some (.slice none 0 0) := hR.cell 0 (by simp)
 have hfz : w.frozen? ⟨sb, 0, none⟩ = false := hR.frozen 0
 have hcvk := fun (W : World) (hW : Below w.heap.size w W) => run_string_SlB (P := Tryz.prog) W 38 9 5 ak key.length ck key Tryz.underlying38 Tryz.underlying5 Tryz.underlying9 rfl (hK.below hW (Nat.le_refl _)) hkn
 have hcvv := fun (W : World) (hW : Below w.heap.size w W) => run_string_SlB (P := Tryz.prog) W 38 9 5 av value.length cv value Tryz.underlying38 Tryz.underlying5 Tryz.underlying9 rfl (hV.below hW (Nat.le_refl _)) hvn
 have HCK : Hid (∀ W, Below w.heap.size w W → _) := hcvk
 have HCV : Hid (∀ W, Below w.heap.size w W → _) := hcvv
 have hcv0 := hcvk w (Below.refl _ _)
 clear hcvk hcvv
 have hf : (decide (1 ≤ key.length) && decide (key.length ≤ 12)) = true := by simp [hk1, hk2]
 have hvI : ¬ (12 : Int) < value.length := by omega
 have HP : Hid (putN [] key value = [⟨key, value, 0⟩]) := rfl
 have HPl : Hid (∀ w, w.cell? ⟨sb, 0, none⟩ = some (.slice none 0 0) → SlI w none [] → Calls Tryz.prog 80 #[.pointer (some ⟨sb, 0, none⟩), strV key] w fun e w' => e = .returned (.tuple #[.int .i64 0, .bool false]) ∧ ∃ n, w' = w.drewN n) := fun w h1 h2 => place_any sb none 0 [] key w (by simp) h1 h2
 go_enter Tryz.func41, Tryz.ntmps41
 go_wp2_with fail
 refine (keyFits_any ak _ ck _ (by unfold maxLen; omega)).mono ?_
 rintro e w1 ⟨rfl, hw1⟩
 obtain rfl : w = w1 := hw1.symm
 clear hw1
 rw [hf]
 go_wp2_with fail
 refine (HPl.out _ h0 SlI.none).mono ?_
 rintro e w2 ⟨rfl, m, rfl⟩
 clear hcv0
 go_wp2_with (first
  | (at_builtin; refine wp_appendI (by rfl) (.tmp 37) (.tmp 43) (by rfl) w.heap.size (.slice none 0 0) [] (by rfl) (World.ownsRow_nil _ _ _ _) none 0 0 [] (by rfl) (by rfl) SlI.none (fun _ => ⟨rfl, rfl⟩) (by simp) (by exact Nat.le_refl _) ?_; intro a1 n1 c1 w3 ho1 hf1 hat1; have hB3 : Below w.heap.size w w3 := below_drewN (hf1.below (by exact Nat.le_refl _) (fun k hk => by simp [Value.ownBlock] at hk)); have h03 : w3.cell? ⟨sb, 0, none⟩ = some (.slice none 0 0) := (by rw [hB3.cell (p := ⟨sb, 0, none⟩) hsb]; exact h0); have hk3 := HCK.out w3 hB3; have hv3 := HCV.out w3 hB3)
  | (at_builtin; refine wp_appendI (by rfl) (.tmp 45) (.tmp 51) (by rfl) w.heap.size (.slice a1 n1 c1) ([] ++ []) (by rfl) (ho1.alloc _) (some ⟨w3.heap.size, 0, none⟩) 1 1 [⟨key, value, 0⟩] (by rfl) (by rfl) (by exact SlV.alloc_new w3 _ _) (fun h => by cases h) (by simp) (by have := hB3.size; simp only [World.size_alloc]; omega) ?_; intro a2 n2 c2 w4 ho2 hf2 hat2; have hB4 : Below w.heap.size w w4 := (hB3.alloc (by have := hB3.size; omega) _).trans (hf2.below (by have := hB3.size; simp only [World.size_alloc]; omega) (fun k hk => (ho1.lt k hk).1)); have h04 : w4.cell? ⟨sb, 0, none⟩ = some (.slice none 0 0) := (by rw [hB4.cell (p := ⟨sb, 0, none⟩) hsb]; exact h0))
  | (at_builtin; refine wp_appendI (by rfl) (.tmp 57) (.tmp 63) (by rfl) w.heap.size (.slice a2 n2 c2) ([] ++ [] ++ [⟨key, value, 0⟩]) (by rfl) ho2 none 0 0 [] (by rfl) (by rfl) SlI.none (fun _ => ⟨rfl, rfl⟩) (by simp) (by have := hB4.size; omega) ?_; intro a3 n3 c3 w5 ho3 hf3 hat3; have hB5 : Below w.heap.size w w5 := hB4.trans (hf3.below (by have := hB4.size; omega) (fun k hk => (ho2.lt k hk).1)); have h05 : w5.cell? ⟨sb, 0, none⟩ = some (.slice none 0 0) := (by rw [hB5.cell (p := ⟨sb, 0, none⟩) hsb]; exact h0); have f05 : w5.frozen? ⟨sb, 0, none⟩ = false := (by rw [hB5.frozen (p := ⟨sb, 0, none⟩) hsb]; exact hfz)))
 go_ret
 refine ⟨rfl, _, (hR.below hsb hB5).set 0 _, ?_, (Frame.of_below_all (S := fun k => k = sb) hB5).setCell (p := ⟨sb, 0, none⟩) rfl _⟩
 rw [HP.out]
 exact owns_frame ho3 ((Frame.refl (fun k => k = sb) w5).setCell (p := ⟨sb, 0, none⟩) rfl _) (fun k hk e => by have := (ho3.lt k hk).1; omega)
set_option maxRecDepth 100000 in
set_option maxHeartbeats 1000000 in
theorem refPut_full (sb : Nat) (nowV pastV rootsV : Value) (ak av : Option Addr) (ck nv cv base : Nat) (l : List ItR) (key : List UInt8) (w : World) (hk1 : 1 ≤ key.length) (hk2 : key.length ≤ 12) (hv : nv ≤ 12) (hl : l.length = 60)
  (hR : RefRow w sb nowV pastV rootsV) (hN : OwnI w base nowV l) (hK : SlB w ak key) (hkn : ak = none → ck = 0) (ht : thereB l key = false) :
  Calls Tryz.prog 41 #[.pointer (some ⟨sb, 0, none⟩), .slice ak key.length ck, .slice av nv cv] w fun e w' => e = .returned (.int .i64 2) ∧ ∃ n, w' = w.drewN n := by
 obtain ⟨a, cap, rfl, hs, _⟩ := owns_form hN
 have h0 : w.cell? ⟨sb, 0, none⟩ = some (.slice a l.length cap) := hR.cell 0 (by simp)
 have hcv0 := run_string_SlB (P := Tryz.prog) w 38 9 5 ak key.length ck key Tryz.underlying38 Tryz.underlying5 Tryz.underlying9 rfl hK hkn
 have hf : (decide (1 ≤ key.length) && decide (key.length ≤ 12)) = true := by simp [hk1, hk2]
 have hvI : ¬ (12 : Int) < nv := by omega
 have HPl : Hid (∀ w, w.cell? ⟨sb, 0, none⟩ = some (.slice a l.length cap) → SlI w a l → Calls Tryz.prog 80 #[.pointer (some ⟨sb, 0, none⟩), strV key] w fun e w' => e = .returned (.tuple #[.int .i64 (placeN l key : Int), .bool false]) ∧ ∃ n, w' = w.drewN n) := fun w h1 h2 => by have := place_any sb a cap l key w (by omega) h1 h2; rw [ht] at this; exact this
 generalize placeN l key = i at *
 have HPl2 : Hid (Calls _ _ _ _ _) := HPl.out w h0 hs
 rw [hl] at h0
 clear HPl hN hR hs
 go_enter Tryz.func41, Tryz.ntmps41
 go_wp2_with fail
 refine (keyFits_any ak _ ck _ (by unfold maxLen; omega)).mono ?_
 rintro e w1 ⟨rfl, hw1⟩
 obtain rfl : w = w1 := hw1.symm
 clear hw1
 rw [hf]
 go_wp2_with fail
 refine HPl2.out.mono ?_
 rintro e w2 ⟨rfl, m, rfl⟩
 go_wp2
 go_ret
 exact ⟨rfl, m, rfl⟩
set_option maxRecDepth 100000 in
set_option maxHeartbeats 1000000 in
theorem refPut_some (sb g n cap : Nat) (pastV rootsV : Value) (ak av : Option Addr) (ck cv base : Nat) (l : List ItR) (key value : List UInt8) (w : World) (hk1 : 1 ≤ key.length) (hk2 : key.length ≤ 12) (hv : value.length ≤ 12) (hl : l.length ≤ 60) (hn : n = l.length)
  (hR : RefRow w sb (.slice (some ⟨g, 0, none⟩) n cap) pastV rootsV) (hN : OwnI w base (.slice (some ⟨g, 0, none⟩) n cap) l) (hK : SlB w ak key) (hV : SlB w av value) (hkn : ak = none → ck = 0) (hvn : av = none → cv = 0) (hfull : thereB l key = false → l.length < 60) :
  Calls Tryz.prog 41 #[.pointer (some ⟨sb, 0, none⟩), .slice ak key.length ck, .slice av value.length cv] w fun e w' => e = .returned (.int .i64 0) ∧
   ∃ nowV', RefRow w' sb nowV' pastV rootsV ∧ OwnI w' w.heap.size nowV' (putN l key value) ∧ Frame (fun k => k = sb) w w' := by
 have hN1 := hN
 rw [hn] at hN1
 obtain ⟨_, hcap, hcm, hform⟩ := owns_cap hN1
 obtain ⟨_, _, hvv, hs, _⟩ := owns_form hN1
 cases hvv
 clear hform hN1
 unfold maxLen at hcm
 have hsb : sb < w.heap.size := hR.lt
 have h0 : w.cell? ⟨sb, 0, none⟩ = some (.slice (some ⟨g, 0, none⟩) n cap) := hR.cell 0 (by simp)
 have hfz : w.frozen? ⟨sb, 0, none⟩ = false := hR.frozen 0
 have hcvk := fun (W : World) (hW : Below w.heap.size w W) => run_string_SlB (P := Tryz.prog) W 38 9 5 ak key.length ck key Tryz.underlying38 Tryz.underlying5 Tryz.underlying9 rfl (hK.below hW (Nat.le_refl _)) hkn
 have hcvv := fun (W : World) (hW : Below w.heap.size w W) => run_string_SlB (P := Tryz.prog) W 38 9 5 av value.length cv value Tryz.underlying38 Tryz.underlying5 Tryz.underlying9 rfl (hV.below hW (Nat.le_refl _)) hvn
 have HCK : Hid (∀ W, Below w.heap.size w W → _) := hcvk
 have HCV : Hid (∀ W, Below w.heap.size w W → _) := hcvv
 have hcv0 := hcvk w (Below.refl _ _)
 clear hcvk hcvv
 have hf : (decide (1 ≤ key.length) && decide (key.length ≤ 12)) = true := by simp [hk1, hk2]
 have hvI : ¬ (12 : Int) < value.length := by omega
 have hi := placeN_le l key
 have HP : Hid (putN l key value = l.take (placeN l key) ++ [⟨key, value, 0⟩] ++ l.drop (if thereB l key then placeN l key + 1 else placeN l key)) := rfl
 have HIJ : Hid (thereB l key = true → placeN l key < l.length) := thereB_lt
 have HPl : Hid (∀ w, w.cell? ⟨sb, 0, none⟩ = some (.slice (some ⟨g, 0, none⟩) n cap) → SlI w (some ⟨g, 0, none⟩) l → _) := fun w h1 h2 => by rw [hn] at h1; exact place_any sb (some ⟨g, 0, none⟩) cap l key w (by omega) h1 h2
 have HF : Hid (thereB l key = false → l.length < 60) := hfull
 clear hfull
 generalize placeN l key = i at *
 generalize thereB l key = t at *
 have hiI : (i : Int) ≤ cap := by omega
 have hiJ : (i : Int) ≤ n := by omega
 have hcI : (cap : Int) ≤ 9223372036854775807 := by omega
 obtain ⟨j, hj⟩ : ∃ j, j = if t = true then i + 1 else i := ⟨_, rfl⟩
 rw [← hj] at HP
 have hjl : j ≤ l.length := by
  cases t
  ·simp at hj; omega
  ·have := HIJ.out rfl; simp at hj; omega
 have hjI : (j : Int) ≤ cap := by omega
 have hjL : (j : Int) ≤ n := by omega
 have hcl : (n : Int) ≤ cap := by omega
 have hcl' : n ≤ cap := by omega
 have hjn : j ≤ n := by omega
 have HSW : Hid (SlI w (some ⟨g, 0, none⟩) l) := hs
 have HST : Hid (SlI w (some ⟨g, 0, none⟩) (l.take i)) := SlI.take hs i hi
 have HSD : Hid (SlI w (some ⟨g, j * 3, none⟩) (l.drop j)) := by have := SlI.drop hs j hjl; rw [Nat.zero_add] at this; exact this
 have HT : Hid (i = (l.take i).length) := by unfold Hid; rw [List.length_take]; omega
 have HD : Hid (n - j = (l.drop j).length) := by unfold Hid; rw [List.length_drop, hn]
 have HL : Hid ((l.take i).length + 1 + (l.drop j).length ≤ 1000) := by unfold Hid; rw [List.length_take, List.length_drop]; omega
 have hti : t = false → ((n : Int) == 60) = false := fun ht => by have := HF.out ht; simp; omega
 have HTI : Hid (t = false → ((n : Int) == 60) = false) := hti
 have HN' : Hid (n = l.length) := hn
 clear hti hs hn hi hjl hcap hl
 by_cases hcj : cap = j
 ·have HSD : Hid (SlI w (some ⟨g, 0, none⟩) (l.drop j)) := by
   unfold Hid; rw [List.drop_eq_nil_of_le (by have := HN'.out; omega)]; exact SlI.none
  have HD : Hid (0 = (l.drop j).length) := by
   unfold Hid; rw [List.length_drop]; have := HN'.out; omega
  subst hcj
  obtain rfl : n = cap := by omega
  go_enter Tryz.func41, Tryz.ntmps41
  go_wp2_with fail
  refine (keyFits_any ak _ ck _ (by unfold maxLen; omega)).mono ?_
  rintro e w1 ⟨rfl, hw1⟩
  obtain rfl : w = w1 := hw1.symm
  clear hw1
  rw [hf]
  go_wp2_with fail
  refine (HPl.out _ h0 HSW.out).mono ?_
  rintro e w2 ⟨rfl, m, rfl⟩
  cases t
  ·have hfl : ((n : Int) == 60) = false := HTI.out rfl
   obtain rfl : n = i := by simpa using hj
   clear hj hcv0
   go_wp2_with (first
    | (at_builtin; refine wp_appendI (by rfl) (.tmp 37) (.tmp 43) (by rfl) w.heap.size (.slice none 0 0) [] (by rfl) (World.ownsRow_nil _ _ _ _) (some ⟨g, 0, none⟩) n n (l.take n) (by rfl) HT.out (by exact HST.out) (fun h => by cases h) (by have := HL.out; simp only [List.length_nil]; omega) (by exact Nat.le_refl _) ?_; intro a1 n1 c1 w3 ho1 hf1 hat1; have hB3 : Below w.heap.size w w3 := below_drewN (hf1.below (by exact Nat.le_refl _) (fun k hk => by simp [Value.ownBlock] at hk)); have h03 : w3.cell? ⟨sb, 0, none⟩ = some (.slice (some ⟨g, 0, none⟩) n n) := (by rw [hB3.cell (p := ⟨sb, 0, none⟩) hsb]; exact h0); have hk3 := HCK.out w3 hB3; have hv3 := HCV.out w3 hB3)
    | (at_builtin; refine wp_appendI (by rfl) (.tmp 45) (.tmp 51) (by rfl) w.heap.size (.slice a1 n1 c1) ([] ++ l.take n) (by rfl) (ho1.alloc _) (some ⟨w3.heap.size, 0, none⟩) 1 1 [⟨key, value, 0⟩] (by rfl) (by rfl) (by exact SlV.alloc_new w3 _ _) (fun h => by cases h) (by have := HL.out; simp only [List.nil_append, List.length_singleton]; omega) (by have := hB3.size; simp only [World.size_alloc]; omega) ?_; intro a2 n2 c2 w4 ho2 hf2 hat2; have hB4 : Below w.heap.size w w4 := (hB3.alloc (by have := hB3.size; omega) _).trans (hf2.below (by have := hB3.size; simp only [World.size_alloc]; omega) (fun k hk => (ho1.lt k hk).1)); have h04 : w4.cell? ⟨sb, 0, none⟩ = some (.slice (some ⟨g, 0, none⟩) n n) := (by rw [hB4.cell (p := ⟨sb, 0, none⟩) hsb]; exact h0))
    | (at_builtin; refine wp_appendI (by rfl) (.tmp 57) (.tmp 63) (by rfl) w.heap.size (.slice a2 n2 c2) ([] ++ l.take n ++ [⟨key, value, 0⟩]) (by rfl) ho2 (some ⟨g, 0, none⟩) 0 0 (l.drop n) (by rfl) (by exact HD.out) (by exact SlV.below_all HSD.out hB4) (fun h => by cases h) (by have := HL.out; simp only [List.nil_append, List.length_append, List.length_singleton]; omega) (by have := hB4.size; omega) ?_; intro a3 n3 c3 w5 ho3 hf3 hat3; have hB5 : Below w.heap.size w w5 := hB4.trans (hf3.below (by have := hB4.size; omega) (fun k hk => (ho2.lt k hk).1)); have h05 : w5.cell? ⟨sb, 0, none⟩ = some (.slice (some ⟨g, 0, none⟩) n n) := (by rw [hB5.cell (p := ⟨sb, 0, none⟩) hsb]; exact h0); have f05 : w5.frozen? ⟨sb, 0, none⟩ = false := (by rw [hB5.frozen (p := ⟨sb, 0, none⟩) hsb]; exact hfz)))
   go_ret
   refine ⟨rfl, _, (hR.below hsb hB5).set 0 _, ?_, (Frame.of_below_all (S := fun k => k = sb) hB5).setCell (p := ⟨sb, 0, none⟩) rfl _⟩
   rw [HP.out]
   exact owns_frame ho3 ((Frame.refl (fun k => k = sb) w5).setCell (p := ⟨sb, 0, none⟩) rfl _) (fun k hk e => by have := (ho3.lt k hk).1; omega)
  ·obtain rfl : n = i + 1 := by simpa using hj
   clear hj hcv0
   go_wp2_with (first
    | (at_builtin; refine wp_appendI (by rfl) (.tmp 37) (.tmp 43) (by rfl) w.heap.size (.slice none 0 0) [] (by rfl) (World.ownsRow_nil _ _ _ _) (some ⟨g, 0, none⟩) i (i + 1) (l.take i) (by rfl) HT.out (by exact HST.out) (fun h => by cases h) (by have := HL.out; simp only [List.length_nil]; omega) (by exact Nat.le_refl _) ?_; intro a1 n1 c1 w3 ho1 hf1 hat1; have hB3 : Below w.heap.size w w3 := below_drewN (hf1.below (by exact Nat.le_refl _) (fun k hk => by simp [Value.ownBlock] at hk)); have h03 : w3.cell? ⟨sb, 0, none⟩ = some (.slice (some ⟨g, 0, none⟩) (i + 1) (i + 1)) := (by rw [hB3.cell (p := ⟨sb, 0, none⟩) hsb]; exact h0); have hk3 := HCK.out w3 hB3; have hv3 := HCV.out w3 hB3)
    | (at_builtin; refine wp_appendI (by rfl) (.tmp 45) (.tmp 51) (by rfl) w.heap.size (.slice a1 n1 c1) ([] ++ l.take i) (by rfl) (ho1.alloc _) (some ⟨w3.heap.size, 0, none⟩) 1 1 [⟨key, value, 0⟩] (by rfl) (by rfl) (by exact SlV.alloc_new w3 _ _) (fun h => by cases h) (by have := HL.out; simp only [List.nil_append, List.length_singleton]; omega) (by have := hB3.size; simp only [World.size_alloc]; omega) ?_; intro a2 n2 c2 w4 ho2 hf2 hat2; have hB4 : Below w.heap.size w w4 := (hB3.alloc (by have := hB3.size; omega) _).trans (hf2.below (by have := hB3.size; simp only [World.size_alloc]; omega) (fun k hk => (ho1.lt k hk).1)); have h04 : w4.cell? ⟨sb, 0, none⟩ = some (.slice (some ⟨g, 0, none⟩) (i + 1) (i + 1)) := (by rw [hB4.cell (p := ⟨sb, 0, none⟩) hsb]; exact h0))
    | (at_builtin; refine wp_appendI (by rfl) (.tmp 57) (.tmp 63) (by rfl) w.heap.size (.slice a2 n2 c2) ([] ++ l.take i ++ [⟨key, value, 0⟩]) (by rfl) ho2 (some ⟨g, 0, none⟩) 0 0 (l.drop (i + 1)) (by rfl) (by exact HD.out) (by exact SlV.below_all HSD.out hB4) (fun h => by cases h) (by have := HL.out; simp only [List.nil_append, List.length_append, List.length_singleton]; omega) (by have := hB4.size; omega) ?_; intro a3 n3 c3 w5 ho3 hf3 hat3; have hB5 : Below w.heap.size w w5 := hB4.trans (hf3.below (by have := hB4.size; omega) (fun k hk => (ho2.lt k hk).1)); have h05 : w5.cell? ⟨sb, 0, none⟩ = some (.slice (some ⟨g, 0, none⟩) (i + 1) (i + 1)) := (by rw [hB5.cell (p := ⟨sb, 0, none⟩) hsb]; exact h0); have f05 : w5.frozen? ⟨sb, 0, none⟩ = false := (by rw [hB5.frozen (p := ⟨sb, 0, none⟩) hsb]; exact hfz)))
   go_ret
   refine ⟨rfl, _, (hR.below hsb hB5).set 0 _, ?_, (Frame.of_below_all (S := fun k => k = sb) hB5).setCell (p := ⟨sb, 0, none⟩) rfl _⟩
   rw [HP.out]
   exact owns_frame ho3 ((Frame.refl (fun k => k = sb) w5).setCell (p := ⟨sb, 0, none⟩) rfl _) (fun k hk e => by have := (ho3.lt k hk).1; omega)
 ·go_enter Tryz.func41, Tryz.ntmps41
  go_wp2_with fail
  refine (keyFits_any ak _ ck _ (by unfold maxLen; omega)).mono ?_
  rintro e w1 ⟨rfl, hw1⟩
  obtain rfl : w = w1 := hw1.symm
  clear hw1
  rw [hf]
  go_wp2_with fail
  refine (HPl.out _ h0 HSW.out).mono ?_
  rintro e w2 ⟨rfl, m, rfl⟩
  cases t
  ·have hfl : ((n : Int) == 60) = false := HTI.out rfl
   obtain rfl : j = i := by simpa using hj
   clear hj hcv0
   go_wp2_with (first
    | (at_builtin; refine wp_appendI (by rfl) (.tmp 37) (.tmp 43) (by rfl) w.heap.size (.slice none 0 0) [] (by rfl) (World.ownsRow_nil _ _ _ _) (some ⟨g, 0, none⟩) j cap (l.take j) (by rfl) HT.out (by exact HST.out) (fun h => by cases h) (by have := HL.out; simp only [List.length_nil]; omega) (by exact Nat.le_refl _) ?_; intro a1 n1 c1 w3 ho1 hf1 hat1; have hB3 : Below w.heap.size w w3 := below_drewN (hf1.below (by exact Nat.le_refl _) (fun k hk => by simp [Value.ownBlock] at hk)); have h03 : w3.cell? ⟨sb, 0, none⟩ = some (.slice (some ⟨g, 0, none⟩) n cap) := (by rw [hB3.cell (p := ⟨sb, 0, none⟩) hsb]; exact h0); have hk3 := HCK.out w3 hB3; have hv3 := HCV.out w3 hB3)
    | (at_builtin; refine wp_appendI (by rfl) (.tmp 45) (.tmp 51) (by rfl) w.heap.size (.slice a1 n1 c1) ([] ++ l.take j) (by rfl) (ho1.alloc _) (some ⟨w3.heap.size, 0, none⟩) 1 1 [⟨key, value, 0⟩] (by rfl) (by rfl) (by exact SlV.alloc_new w3 _ _) (fun h => by cases h) (by have := HL.out; simp only [List.nil_append, List.length_singleton]; omega) (by have := hB3.size; simp only [World.size_alloc]; omega) ?_; intro a2 n2 c2 w4 ho2 hf2 hat2; have hB4 : Below w.heap.size w w4 := (hB3.alloc (by have := hB3.size; omega) _).trans (hf2.below (by have := hB3.size; simp only [World.size_alloc]; omega) (fun k hk => (ho1.lt k hk).1)); have h04 : w4.cell? ⟨sb, 0, none⟩ = some (.slice (some ⟨g, 0, none⟩) n cap) := (by rw [hB4.cell (p := ⟨sb, 0, none⟩) hsb]; exact h0))
    | (at_builtin; refine wp_appendI (by rfl) (.tmp 57) (.tmp 63) (by rfl) w.heap.size (.slice a2 n2 c2) ([] ++ l.take j ++ [⟨key, value, 0⟩]) (by rfl) ho2 (some ⟨g, j * 3, none⟩) (n - j) (cap - j) (l.drop j) (by rfl) (by exact HD.out) (by exact SlV.below_all HSD.out hB4) (fun h => by cases h) (by have := HL.out; simp only [List.nil_append, List.length_append, List.length_singleton]; omega) (by have := hB4.size; omega) ?_; intro a3 n3 c3 w5 ho3 hf3 hat3; have hB5 : Below w.heap.size w w5 := hB4.trans (hf3.below (by have := hB4.size; omega) (fun k hk => (ho2.lt k hk).1)); have h05 : w5.cell? ⟨sb, 0, none⟩ = some (.slice (some ⟨g, 0, none⟩) n cap) := (by rw [hB5.cell (p := ⟨sb, 0, none⟩) hsb]; exact h0); have f05 : w5.frozen? ⟨sb, 0, none⟩ = false := (by rw [hB5.frozen (p := ⟨sb, 0, none⟩) hsb]; exact hfz)))
   go_ret
   refine ⟨rfl, _, (hR.below hsb hB5).set 0 _, ?_, (Frame.of_below_all (S := fun k => k = sb) hB5).setCell (p := ⟨sb, 0, none⟩) rfl _⟩
   rw [HP.out]
   exact owns_frame ho3 ((Frame.refl (fun k => k = sb) w5).setCell (p := ⟨sb, 0, none⟩) rfl _) (fun k hk e => by have := (ho3.lt k hk).1; omega)
  ·obtain rfl : j = i + 1 := by simpa using hj
   clear hj hcv0
   go_wp2_with (first
    | (at_builtin; refine wp_appendI (by rfl) (.tmp 37) (.tmp 43) (by rfl) w.heap.size (.slice none 0 0) [] (by rfl) (World.ownsRow_nil _ _ _ _) (some ⟨g, 0, none⟩) i cap (l.take i) (by rfl) HT.out (by exact HST.out) (fun h => by cases h) (by have := HL.out; simp only [List.length_nil]; omega) (by exact Nat.le_refl _) ?_; intro a1 n1 c1 w3 ho1 hf1 hat1; have hB3 : Below w.heap.size w w3 := below_drewN (hf1.below (by exact Nat.le_refl _) (fun k hk => by simp [Value.ownBlock] at hk)); have h03 : w3.cell? ⟨sb, 0, none⟩ = some (.slice (some ⟨g, 0, none⟩) n cap) := (by rw [hB3.cell (p := ⟨sb, 0, none⟩) hsb]; exact h0); have hk3 := HCK.out w3 hB3; have hv3 := HCV.out w3 hB3)
    | (at_builtin; refine wp_appendI (by rfl) (.tmp 45) (.tmp 51) (by rfl) w.heap.size (.slice a1 n1 c1) ([] ++ l.take i) (by rfl) (ho1.alloc _) (some ⟨w3.heap.size, 0, none⟩) 1 1 [⟨key, value, 0⟩] (by rfl) (by rfl) (by exact SlV.alloc_new w3 _ _) (fun h => by cases h) (by have := HL.out; simp only [List.nil_append, List.length_singleton]; omega) (by have := hB3.size; simp only [World.size_alloc]; omega) ?_; intro a2 n2 c2 w4 ho2 hf2 hat2; have hB4 : Below w.heap.size w w4 := (hB3.alloc (by have := hB3.size; omega) _).trans (hf2.below (by have := hB3.size; simp only [World.size_alloc]; omega) (fun k hk => (ho1.lt k hk).1)); have h04 : w4.cell? ⟨sb, 0, none⟩ = some (.slice (some ⟨g, 0, none⟩) n cap) := (by rw [hB4.cell (p := ⟨sb, 0, none⟩) hsb]; exact h0))
    | (at_builtin; refine wp_appendI (by rfl) (.tmp 57) (.tmp 63) (by rfl) w.heap.size (.slice a2 n2 c2) ([] ++ l.take i ++ [⟨key, value, 0⟩]) (by rfl) ho2 (some ⟨g, (i + 1) * 3, none⟩) (n - (i + 1)) (cap - (i + 1)) (l.drop (i + 1)) (by rfl) (by exact HD.out) (by exact SlV.below_all HSD.out hB4) (fun h => by cases h) (by have := HL.out; simp only [List.nil_append, List.length_append, List.length_singleton]; omega) (by have := hB4.size; omega) ?_; intro a3 n3 c3 w5 ho3 hf3 hat3; have hB5 : Below w.heap.size w w5 := hB4.trans (hf3.below (by have := hB4.size; omega) (fun k hk => (ho2.lt k hk).1)); have h05 : w5.cell? ⟨sb, 0, none⟩ = some (.slice (some ⟨g, 0, none⟩) n cap) := (by rw [hB5.cell (p := ⟨sb, 0, none⟩) hsb]; exact h0); have f05 : w5.frozen? ⟨sb, 0, none⟩ = false := (by rw [hB5.frozen (p := ⟨sb, 0, none⟩) hsb]; exact hfz)))
   go_ret
   refine ⟨rfl, _, (hR.below hsb hB5).set 0 _, ?_, (Frame.of_below_all (S := fun k => k = sb) hB5).setCell (p := ⟨sb, 0, none⟩) rfl _⟩
   rw [HP.out]
   exact owns_frame ho3 ((Frame.refl (fun k => k = sb) w5).setCell (p := ⟨sb, 0, none⟩) rfl _) (fun k hk e => by have := (ho3.lt k hk).1; omega)
end Go.Proofs.YtekegfbjbainhaaGreat
