import Derived.Test.YtekegfbjbainhaaGreatKJoin2
set_option linter.unusedVariables false
set_option linter.unusedSimpArgs false

namespace Go.Proofs.YtekegfbjbainhaaGreat
open Go.RowKit
theorem run_string_SlB {P : Program} (w : World) (src dst e : TypeId) (a : Option Addr) (n cap : Nat) (l : List UInt8) (hs : P.underlying src = some (.slice e)) (he : P.underlying e = some (.int .u8)) (hd : P.underlying dst = some .string)
  (hn : n = l.length) (hc : SlB w a l) (hnil : a = none → cap = 0) : (convert src dst (.slice a n cap)).run P w = .ok (.string ⟨l.toArray⟩) w := by
 subst hn
 cases a with
 | none =>
  have : l = [] := by
   cases l with
   | nil => rfl
   | cons x r => obtain ⟨b, o, ha, _⟩ := hc 0 (by simp); cases ha
  subst this
  rw [hnil rfl]
  exact run_convert_bytes_nil w src e hs he 0 0 dst hd
 | some x =>
  cases l with
  | nil =>
   exact run_convert_bytes_back w src dst e x cap [] hs he hd (fun j hj => absurd hj (Nat.not_lt_zero _))
  | cons y r =>
   obtain ⟨b, o, ha, _⟩ := hc 0 (by simp)
   cases ha
   exact run_string_BAt w src dst e b o cap (y :: r) hs he hd (fun j hj => by
    obtain ⟨b', o', ha', _, hcc⟩ := hc j hj
    cases ha'; exact hcc)
def RefRow (w : World) (sb : Nat) (nowV pastV rootsV : Value) : Prop := RowV w sb 91 [nowV, pastV, rootsV]
set_option maxRecDepth 100000 in
set_option maxHeartbeats 1000000 in
theorem refPut_arg (sv : Value) (ak av : Option Addr) (nk ck nv cv : Nat) (w : World) (hnk : nk ≤ maxLen) (hnv : nv ≤ maxLen) (hbad : ((decide (1 ≤ nk) && decide (nk ≤ 12)) && decide (nv ≤ 12)) = false) :
  Calls Tryz.prog 41 #[sv, .slice ak nk ck, .slice av nv cv] w fun e w' => e = .returned (.int .i64 1) ∧ w' = w := by
 have HN : Hid (nk ≤ maxLen) := hnk
 unfold maxLen at hnk hnv
 by_cases hf : (decide (1 ≤ nk) && decide (nk ≤ 12)) = true
 ·have hv : ¬ nv ≤ 12 := by rw [hf] at hbad; simpa using hbad
  have hv' : (12 : Int) < nv := by omega
  go_enter Tryz.func41, Tryz.ntmps41
  go_wp2_with fail
  refine (keyFits_any ak nk ck _ HN.out).mono ?_
  rintro e w1 ⟨rfl, rfl⟩
  rw [hf]
  go_wp2
  go_ret
  exact ⟨rfl, rfl⟩
 ·have hf : (decide (1 ≤ nk) && decide (nk ≤ 12)) = false := by simpa using hf
  go_enter Tryz.func41, Tryz.ntmps41
  go_wp2_with fail
  refine (keyFits_any ak nk ck _ HN.out).mono ?_
  rintro e w1 ⟨rfl, rfl⟩
  rw [hf]
  go_wp2
  go_ret
  exact ⟨rfl, rfl⟩
theorem SlI.none {w : World} {a : Option Addr} : SlI w a [] := SlV.nil _ _
set_option maxRecDepth 100000 in
set_option maxHeartbeats 1000000 in
theorem refPut_nil (sb : Nat) (pastV rootsV : Value) (ak av : Option Addr) (ck cv : Nat) (key value : List UInt8) (w : World) (hk1 : 1 ≤ key.length) (hk2 : key.length ≤ 12) (hv : value.length ≤ 12)
  (hR : RefRow w sb (.slice none 0 0) pastV rootsV) (hK : SlB w ak key) (hV : SlB w av value) (hkn : ak = none → ck = 0) (hvn : av = none → cv = 0) :
  Calls Tryz.prog 41 #[.pointer (some ⟨sb, 0, none⟩), .slice ak key.length ck, .slice av value.length cv] w fun e w' => e = .returned (.int .i64 0) ∧
   ∃ nowV', RefRow w' sb nowV' pastV rootsV ∧ OwnI w' w.heap.size nowV' (putN [] key value) ∧ Frame (fun k => k = sb) w w' := by
 have hsb : sb < w.heap.size := hR.lt
 have h0 : w.cell? ⟨sb, 0, none⟩ = some (.slice none 0 0) := hR.cell 0 (by simp)
 have hfz : w.frozen? ⟨sb, 0, none⟩ = false := hR.frozen 0
 have hcvk := fun (W : World) (hW : Below w.heap.size w W) => run_string_SlB (P := Tryz.prog) W 38 9 5 ak key.length ck key Tryz.underlying38 Tryz.underlying5 Tryz.underlying9 rfl (hK.below hW (Nat.le_refl _)) hkn
 have hcvv := fun (W : World) (hW : Below w.heap.size w W) => run_string_SlB (P := Tryz.prog) W 38 9 5 av value.length cv value Tryz.underlying38 Tryz.underlying5 Tryz.underlying9 rfl (hV.below hW (Nat.le_refl _)) hvn
 have HCK : Hid (∀ W, Below w.heap.size w W → _) := hcvk
 have HCV : Hid (∀ W, Below w.heap.size w W → _) := hcvv
 have hcv0 := hcvk w (Below.refl _ _)
 clear hcvk hcvv
 have hf : (decide (1 ≤ key.length) && decide (key.length ≤ 12)) = true := by simp [hk1, hk2]
 have hvI : ¬ (12 : Int) < value.length := by omega
 have HP : Hid (putN [] key value = [⟨key, value, 0⟩]) := rfl
 have HPl : Hid (∀ w, w.cell? ⟨sb, 0, none⟩ = some (.slice none 0 0) → SlI w none [] → Calls Tryz.prog 80 #[.pointer (some ⟨sb, 0, none⟩), strV key] w fun e w' => e = .returned (.tuple #[.int .i64 0, .bool false]) ∧ ∃ n, w' = w.drewN n) := fun w h1 h2 => place_any sb none 0 [] key w (by simp) h1 h2
 go_enter Tryz.func41, Tryz.ntmps41
 go_wp2_with fail
 refine (keyFits_any ak _ ck _ (by unfold maxLen; omega)).mono ?_
 rintro e w1 ⟨rfl, hw1⟩
 obtain rfl : w = w1 := hw1.symm
 clear hw1
 rw [hf]
 go_wp2_with fail
 refine (HPl.out _ h0 SlI.none).mono ?_
 rintro e w2 ⟨rfl, m, rfl⟩
 clear hcv0
 go_wp2_with (first
  | (at_builtin; refine wp_appendI (by rfl) (.tmp 37) (.tmp 43) (by rfl) w.heap.size (.slice none 0 0) [] (by rfl) (World.ownsRow_nil _ _ _ _) none 0 0 [] (by rfl) (by rfl) SlI.none (fun _ => ⟨rfl, rfl⟩) (by simp) (by exact Nat.le_refl _) ?_; intro a1 n1 c1 w3 ho1 hf1 hat1; have hB3 : Below w.heap.size w w3 := below_drewN (hf1.below (by exact Nat.le_refl _) (fun k hk => by simp [Value.ownBlock] at hk)); have h03 : w3.cell? ⟨sb, 0, none⟩ = some (.slice none 0 0) := (by rw [hB3.cell (p := ⟨sb, 0, none⟩) hsb]; exact h0); have hk3 := HCK.out w3 hB3; have hv3 := HCV.out w3 hB3)
  | (at_builtin; refine wp_appendI (by rfl) (.tmp 45) (.tmp 51) (by rfl) w.heap.size (.slice a1 n1 c1) ([] ++ []) (by rfl) (ho1.alloc _) (some ⟨w3.heap.size, 0, none⟩) 1 1 [⟨key, value, 0⟩] (by rfl) (by rfl) (by exact SlV.alloc_new w3 _ _) (fun h => by cases h) (by simp) (by have := hB3.size; simp only [World.size_alloc]; omega) ?_; intro a2 n2 c2 w4 ho2 hf2 hat2; have hB4 : Below w.heap.size w w4 := (hB3.alloc (by have := hB3.size; omega) _).trans (hf2.below (by have := hB3.size; simp only [World.size_alloc]; omega) (fun k hk => (ho1.lt k hk).1)); have h04 : w4.cell? ⟨sb, 0, none⟩ = some (.slice none 0 0) := (by rw [hB4.cell (p := ⟨sb, 0, none⟩) hsb]; exact h0))
  | (at_builtin; refine wp_appendI (by rfl) (.tmp 57) (.tmp 63) (by rfl) w.heap.size (.slice a2 n2 c2) ([] ++ [] ++ [⟨key, value, 0⟩]) (by rfl) ho2 none 0 0 [] (by rfl) (by rfl) SlI.none (fun _ => ⟨rfl, rfl⟩) (by simp) (by have := hB4.size; omega) ?_; intro a3 n3 c3 w5 ho3 hf3 hat3; have hB5 : Below w.heap.size w w5 := hB4.trans (hf3.below (by have := hB4.size; omega) (fun k hk => (ho2.lt k hk).1)); have h05 : w5.cell? ⟨sb, 0, none⟩ = some (.slice none 0 0) := (by rw [hB5.cell (p := ⟨sb, 0, none⟩) hsb]; exact h0); have f05 : w5.frozen? ⟨sb, 0, none⟩ = false := (by rw [hB5.frozen (p := ⟨sb, 0, none⟩) hsb]; exact hfz)))
 go_ret
 refine ⟨rfl, _, (hR.below hsb hB5).set 0 _, ?_, (Frame.of_below_all (S := fun k => k = sb) hB5).setCell (p := ⟨sb, 0, none⟩) rfl _⟩
 rw [HP.out]
 exact owns_frame ho3 ((Frame.refl (fun k => k = sb) w5).setCell (p := ⟨sb, 0, none⟩) rfl _) (fun k hk e => by have := (ho3.lt k hk).1; omega)
set_option maxRecDepth 100000 in
set_option maxHeartbeats 1000000 in
theorem refPut_full (sb : Nat) (nowV pastV rootsV : Value) (ak av : Option Addr) (ck nv cv base : Nat) (l : List ItR) (key : List UInt8) (w : World) (hk1 : 1 ≤ key.length) (hk2 : key.length ≤ 12) (hv : nv ≤ 12) (hl : l.length = 60)
  (hR : RefRow w sb nowV pastV rootsV) (hN : OwnI w base nowV l) (hK : SlB w ak key) (hkn : ak = none → ck = 0) (ht : thereB l key = false) :
  Calls Tryz.prog 41 #[.pointer (some ⟨sb, 0, none⟩), .slice ak key.length ck, .slice av nv cv] w fun e w' => e = .returned (.int .i64 2) ∧ ∃ n, w' = w.drewN n := by
 obtain ⟨a, cap, rfl, hs, _⟩ := owns_form hN
 have h0 : w.cell? ⟨sb, 0, none⟩ = some (.slice a l.length cap) := hR.cell 0 (by simp)
 have hcv0 := run_string_SlB (P := Tryz.prog) w 38 9 5 ak key.length ck key Tryz.underlying38 Tryz.underlying5 Tryz.underlying9 rfl hK hkn
 have hf : (decide (1 ≤ key.length) && decide (key.length ≤ 12)) = true := by simp [hk1, hk2]
 have hvI : ¬ (12 : Int) < nv := by omega
 have HPl : Hid (∀ w, w.cell? ⟨sb, 0, none⟩ = some (.slice a l.length cap) → SlI w a l → Calls Tryz.prog 80 #[.pointer (some ⟨sb, 0, none⟩), strV key] w fun e w' => e = .returned (.tuple #[.int .i64 (placeN l key : Int), .bool false]) ∧ ∃ n, w' = w.drewN n) := fun w h1 h2 => by have := place_any sb a cap l key w (by omega) h1 h2; rw [ht] at this; exact this
 generalize placeN l key = i at *
 have HPl2 : Hid (Calls _ _ _ _ _) := HPl.out w h0 hs
 rw [hl] at h0
 clear HPl hN hR hs
 go_enter Tryz.func41, Tryz.ntmps41
 go_wp2_with fail
 refine (keyFits_any ak _ ck _ (by unfold maxLen; omega)).mono ?_
 rintro e w1 ⟨rfl, hw1⟩
 obtain rfl : w = w1 := hw1.symm
 clear hw1
 rw [hf]
 go_wp2_with fail
 refine HPl2.out.mono ?_
 rintro e w2 ⟨rfl, m, rfl⟩
 go_wp2
 go_ret
 exact ⟨rfl, m, rfl⟩
set_option maxRecDepth 100000 in
set_option maxHeartbeats 1000000 in
theorem refPut_some (sb g n cap : Nat) (pastV rootsV : Value) (ak av : Option Addr) (ck cv base : Nat) (l : List ItR) (key value : List UInt8) (w : World) (hk1 : 1 ≤ key.length) (hk2 : key.length ≤ 12) (hv : value.length ≤ 12) (hl : l.length ≤ 60) (hn : n = l.length)
  (hR : RefRow w sb (.slice (some ⟨g, 0, none⟩) n cap) pastV rootsV) (hN : OwnI w base (.slice (some ⟨g, 0, none⟩) n cap) l) (hK : SlB w ak key) (hV : SlB w av value) (hkn : ak = none → ck = 0) (hvn : av = none → cv = 0) (hfull : thereB l key = false → l.length < 60) :
  Calls Tryz.prog 41 #[.pointer (some ⟨sb, 0, none⟩), .slice ak key.length ck, .slice av value.length cv] w fun e w' => e = .returned (.int .i64 0) ∧
   ∃ nowV', RefRow w' sb nowV' pastV rootsV ∧ OwnI w' w.heap.size nowV' (putN l key value) ∧ Frame (fun k => k = sb) w w' := by
 have hN1 := hN
 rw [hn] at hN1
 obtain ⟨_, hcap, hcm, hform⟩ := owns_cap hN1
 obtain ⟨_, _, hvv, hs, _⟩ := owns_form hN1
 cases hvv
 clear hform hN1
 unfold maxLen at hcm
 have hsb : sb < w.heap.size := hR.lt
 have h0 : w.cell? ⟨sb, 0, none⟩ = some (.slice (some ⟨g, 0, none⟩) n cap) := hR.cell 0 (by simp)
 have hfz : w.frozen? ⟨sb, 0, none⟩ = false := hR.frozen 0
 have hcvk := fun (W : World) (hW : Below w.heap.size w W) => run_string_SlB (P := Tryz.prog) W 38 9 5 ak key.length ck key Tryz.underlying38 Tryz.underlying5 Tryz.underlying9 rfl (hK.below hW (Nat.le_refl _)) hkn
 have hcvv := fun (W : World) (hW : Below w.heap.size w W) => run_string_SlB (P := Tryz.prog) W 38 9 5 av value.length cv value Tryz.underlying38 Tryz.underlying5 Tryz.underlying9 rfl (hV.below hW (Nat.le_refl _)) hvn
 have HCK : Hid (∀ W, Below w.heap.size w W → _) := hcvk
 have HCV : Hid (∀ W, Below w.heap.size w W → _) := hcvv
 have hcv0 := hcvk w (Below.refl _ _)
 clear hcvk hcvv
 have hf : (decide (1 ≤ key.length) && decide (key.length ≤ 12)) = true := by simp [hk1, hk2]
 have hvI : ¬ (12 : Int) < value.length := by omega
 have hi := placeN_le l key
 have HP : Hid (putN l key value = l.take (placeN l key) ++ [⟨key, value, 0⟩] ++ l.drop (if thereB l key then placeN l key + 1 else placeN l key)) := rfl
 have HIJ : Hid (thereB l key = true → placeN l key < l.length) := thereB_lt
 have HPl : Hid (∀ w, w.cell? ⟨sb, 0, none⟩ = some (.slice (some ⟨g, 0, none⟩) n cap) → SlI w (some ⟨g, 0, none⟩) l → _) := fun w h1 h2 => by rw [hn] at h1; exact place_any sb (some ⟨g, 0, none⟩) cap l key w (by omega) h1 h2
 have HF : Hid (thereB l key = false → l.length < 60) := hfull
 clear hfull
 generalize placeN l key = i at *
 generalize thereB l key = t at *
 have hiI : (i : Int) ≤ cap := by omega
 have hiJ : (i : Int) ≤ n := by omega
 have hcI : (cap : Int) ≤ 9223372036854775807 := by omega
 obtain ⟨j, hj⟩ : ∃ j, j = if t = true then i + 1 else i := ⟨_, rfl⟩
 rw [← hj] at HP
 have hjl : j ≤ l.length := by
  cases t
  ·simp at hj; omega
  ·have := HIJ.out rfl; simp at hj; omega
 have hjI : (j : Int) ≤ cap := by omega
 have hjL : (j : Int) ≤ n := by omega
 have hcl : (n : Int) ≤ cap := by omega
 have hcl' : n ≤ cap := by omega
 have hjn : j ≤ n := by omega
 have HSW : Hid (SlI w (some ⟨g, 0, none⟩) l) := hs
 have HST : Hid (SlI w (some ⟨g, 0, none⟩) (l.take i)) := SlI.take hs i hi
 have HSD : Hid (SlI w (some ⟨g, j * 3, none⟩) (l.drop j)) := by have := SlI.drop hs j hjl; rw [Nat.zero_add] at this; exact this
 have HT : Hid (i = (l.take i).length) := by unfold Hid; rw [List.length_take]; omega
 have HD : Hid (n - j = (l.drop j).length) := by unfold Hid; rw [List.length_drop, hn]
 have HL : Hid ((l.take i).length + 1 + (l.drop j).length ≤ 1000) := by unfold Hid; rw [List.length_take, List.length_drop]; omega
 have hti : t = false → ((n : Int) == 60) = false := fun ht => by have := HF.out ht; simp; omega
 have HTI : Hid (t = false → ((n : Int) == 60) = false) := hti
 have HN' : Hid (n = l.length) := hn
 clear hti hs hn hi hjl hcap hl
 by_cases hcj : cap = j
 ·have HSD : Hid (SlI w (some ⟨g, 0, none⟩) (l.drop j)) := by
   unfold Hid; rw [List.drop_eq_nil_of_le (by have := HN'.out; omega)]; exact SlI.none
  have HD : Hid (0 = (l.drop j).length) := by
   unfold Hid; rw [List.length_drop]; have := HN'.out; omega
  subst hcj
  obtain rfl : n = cap := by omega
  go_enter Tryz.func41, Tryz.ntmps41
  go_wp2_with fail
  refine (keyFits_any ak _ ck _ (by unfold maxLen; omega)).mono ?_
  rintro e w1 ⟨rfl, hw1⟩
  obtain rfl : w = w1 := hw1.symm
  clear hw1
  rw [hf]
  go_wp2_with fail
  refine (HPl.out _ h0 HSW.out).mono ?_
  rintro e w2 ⟨rfl, m, rfl⟩
  cases t
  ·have hfl : ((n : Int) == 60) = false := HTI.out rfl
   obtain rfl : n = i := by simpa using hj
   clear hj hcv0
   go_wp2_with (first
    | (at_builtin; refine wp_appendI (by rfl) (.tmp 37) (.tmp 43) (by rfl) w.heap.size (.slice none 0 0) [] (by rfl) (World.ownsRow_nil _ _ _ _) (some ⟨g, 0, none⟩) n n (l.take n) (by rfl) HT.out (by exact HST.out) (fun h => by cases h) (by have := HL.out; simp only [List.length_nil]; omega) (by exact Nat.le_refl _) ?_; intro a1 n1 c1 w3 ho1 hf1 hat1; have hB3 : Below w.heap.size w w3 := below_drewN (hf1.below (by exact Nat.le_refl _) (fun k hk => by simp [Value.ownBlock] at hk)); have h03 : w3.cell? ⟨sb, 0, none⟩ = some (.slice (some ⟨g, 0, none⟩) n n) := (by rw [hB3.cell (p := ⟨sb, 0, none⟩) hsb]; exact h0); have hk3 := HCK.out w3 hB3; have hv3 := HCV.out w3 hB3)
    | (at_builtin; refine wp_appendI (by rfl) (.tmp 45) (.tmp 51) (by rfl) w.heap.size (.slice a1 n1 c1) ([] ++ l.take n) (by rfl) (ho1.alloc _) (some ⟨w3.heap.size, 0, none⟩) 1 1 [⟨key, value, 0⟩] (by rfl) (by rfl) (by exact SlV.alloc_new w3 _ _) (fun h => by cases h) (by have := HL.out; simp only [List.nil_append, List.length_singleton]; omega) (by have := hB3.size; simp only [World.size_alloc]; omega) ?_; intro a2 n2 c2 w4 ho2 hf2 hat2; have hB4 : Below w.heap.size w w4 := (hB3.alloc (by have := hB3.size; omega) _).trans (hf2.below (by have := hB3.size; simp only [World.size_alloc]; omega) (fun k hk => (ho1.lt k hk).1)); have h04 : w4.cell? ⟨sb, 0, none⟩ = some (.slice (some ⟨g, 0, none⟩) n n) := (by rw [hB4.cell (p := ⟨sb, 0, none⟩) hsb]; exact h0))
    | (at_builtin; refine wp_appendI (by rfl) (.tmp 57) (.tmp 63) (by rfl) w.heap.size (.slice a2 n2 c2) ([] ++ l.take n ++ [⟨key, value, 0⟩]) (by rfl) ho2 (some ⟨g, 0, none⟩) 0 0 (l.drop n) (by rfl) (by exact HD.out) (by exact SlV.below_all HSD.out hB4) (fun h => by cases h) (by have := HL.out; simp only [List.nil_append, List.length_append, List.length_singleton]; omega) (by have := hB4.size; omega) ?_; intro a3 n3 c3 w5 ho3 hf3 hat3; have hB5 : Below w.heap.size w w5 := hB4.trans (hf3.below (by have := hB4.size; omega) (fun k hk => (ho2.lt k hk).1)); have h05 : w5.cell? ⟨sb, 0, none⟩ = some (.slice (some ⟨g, 0, none⟩) n n) := (by rw [hB5.cell (p := ⟨sb, 0, none⟩) hsb]; exact h0); have f05 : w5.frozen? ⟨sb, 0, none⟩ = false := (by rw [hB5.frozen (p := ⟨sb, 0, none⟩) hsb]; exact hfz)))
   go_ret
   refine ⟨rfl, _, (hR.below hsb hB5).set 0 _, ?_, (Frame.of_below_all (S := fun k => k = sb) hB5).setCell (p := ⟨sb, 0, none⟩) rfl _⟩
   rw [HP.out]
   exact owns_frame ho3 ((Frame.refl (fun k => k = sb) w5).setCell (p := ⟨sb, 0, none⟩) rfl _) (fun k hk e => by have := (ho3.lt k hk).1; omega)
  ·obtain rfl : n = i + 1 := by simpa using hj
   clear hj hcv0
   go_wp2_with (first
    | (at_builtin; refine wp_appendI (by rfl) (.tmp 37) (.tmp 43) (by rfl) w.heap.size (.slice none 0 0) [] (by rfl) (World.ownsRow_nil _ _ _ _) (some ⟨g, 0, none⟩) i (i + 1) (l.take i) (by rfl) HT.out (by exact HST.out) (fun h => by cases h) (by have := HL.out; simp only [List.length_nil]; omega) (by exact Nat.le_refl _) ?_; intro a1 n1 c1 w3 ho1 hf1 hat1; have hB3 : Below w.heap.size w w3 := below_drewN (hf1.below (by exact Nat.le_refl _) (fun k hk => by simp [Value.ownBlock] at hk)); have h03 : w3.cell? ⟨sb, 0, none⟩ = some (.slice (some ⟨g, 0, none⟩) (i + 1) (i + 1)) := (by rw [hB3.cell (p := ⟨sb, 0, none⟩) hsb]; exact h0); have hk3 := HCK.out w3 hB3; have hv3 := HCV.out w3 hB3)
    | (at_builtin; refine wp_appendI (by rfl) (.tmp 45) (.tmp 51) (by rfl) w.heap.size (.slice a1 n1 c1) ([] ++ l.take i) (by rfl) (ho1.alloc _) (some ⟨w3.heap.size, 0, none⟩) 1 1 [⟨key, value, 0⟩] (by rfl) (by rfl) (by exact SlV.alloc_new w3 _ _) (fun h => by cases h) (by have := HL.out; simp only [List.nil_append, List.length_singleton]; omega) (by have := hB3.size; simp only [World.size_alloc]; omega) ?_; intro a2 n2 c2 w4 ho2 hf2 hat2; have hB4 : Below w.heap.size w w4 := (hB3.alloc (by have := hB3.size; omega) _).trans (hf2.below (by have := hB3.size; simp only [World.size_alloc]; omega) (fun k hk => (ho1.lt k hk).1)); have h04 : w4.cell? ⟨sb, 0, none⟩ = some (.slice (some ⟨g, 0, none⟩) (i + 1) (i + 1)) := (by rw [hB4.cell (p := ⟨sb, 0, none⟩) hsb]; exact h0))
    | (at_builtin; refine wp_appendI (by rfl) (.tmp 57) (.tmp 63) (by rfl) w.heap.size (.slice a2 n2 c2) ([] ++ l.take i ++ [⟨key, value, 0⟩]) (by rfl) ho2 (some ⟨g, 0, none⟩) 0 0 (l.drop (i + 1)) (by rfl) (by exact HD.out) (by exact SlV.below_all HSD.out hB4) (fun h => by cases h) (by have := HL.out; simp only [List.nil_append, List.length_append, List.length_singleton]; omega) (by have := hB4.size; omega) ?_; intro a3 n3 c3 w5 ho3 hf3 hat3; have hB5 : Below w.heap.size w w5 := hB4.trans (hf3.below (by have := hB4.size; omega) (fun k hk => (ho2.lt k hk).1)); have h05 : w5.cell? ⟨sb, 0, none⟩ = some (.slice (some ⟨g, 0, none⟩) (i + 1) (i + 1)) := (by rw [hB5.cell (p := ⟨sb, 0, none⟩) hsb]; exact h0); have f05 : w5.frozen? ⟨sb, 0, none⟩ = false := (by rw [hB5.frozen (p := ⟨sb, 0, none⟩) hsb]; exact hfz)))
   go_ret
   refine ⟨rfl, _, (hR.below hsb hB5).set 0 _, ?_, (Frame.of_below_all (S := fun k => k = sb) hB5).setCell (p := ⟨sb, 0, none⟩) rfl _⟩
   rw [HP.out]
   exact owns_frame ho3 ((Frame.refl (fun k => k = sb) w5).setCell (p := ⟨sb, 0, none⟩) rfl _) (fun k hk e => by have := (ho3.lt k hk).1; omega)
 ·go_enter Tryz.func41, Tryz.ntmps41
  go_wp2_with fail
  refine (keyFits_any ak _ ck _ (by unfold maxLen; omega)).mono ?_
  rintro e w1 ⟨rfl, hw1⟩
  obtain rfl : w = w1 := hw1.symm
  clear hw1
  rw [hf]
  go_wp2_with fail
  refine (HPl.out _ h0 HSW.out).mono ?_
  rintro e w2 ⟨rfl, m, rfl⟩
  cases t
  ·have hfl : ((n : Int) == 60) = false := HTI.out rfl
   obtain rfl : j = i := by simpa using hj
   clear hj hcv0
   go_wp2_with (first
    | (at_builtin; refine wp_appendI (by rfl) (.tmp 37) (.tmp 43) (by rfl) w.heap.size (.slice none 0 0) [] (by rfl) (World.ownsRow_nil _ _ _ _) (some ⟨g, 0, none⟩) j cap (l.take j) (by rfl) HT.out (by exact HST.out) (fun h => by cases h) (by have := HL.out; simp only [List.length_nil]; omega) (by exact Nat.le_refl _) ?_; intro a1 n1 c1 w3 ho1 hf1 hat1; have hB3 : Below w.heap.size w w3 := below_drewN (hf1.below (by exact Nat.le_refl _) (fun k hk => by simp [Value.ownBlock] at hk)); have h03 : w3.cell? ⟨sb, 0, none⟩ = some (.slice (some ⟨g, 0, none⟩) n cap) := (by rw [hB3.cell (p := ⟨sb, 0, none⟩) hsb]; exact h0); have hk3 := HCK.out w3 hB3; have hv3 := HCV.out w3 hB3)
    | (at_builtin; refine wp_appendI (by rfl) (.tmp 45) (.tmp 51) (by rfl) w.heap.size (.slice a1 n1 c1) ([] ++ l.take j) (by rfl) (ho1.alloc _) (some ⟨w3.heap.size, 0, none⟩) 1 1 [⟨key, value, 0⟩] (by rfl) (by rfl) (by exact SlV.alloc_new w3 _ _) (fun h => by cases h) (by have := HL.out; simp only [List.nil_append, List.length_singleton]; omega) (by have := hB3.size; simp only [World.size_alloc]; omega) ?_; intro a2 n2 c2 w4 ho2 hf2 hat2; have hB4 : Below w.heap.size w w4 := (hB3.alloc (by have := hB3.size; omega) _).trans (hf2.below (by have := hB3.size; simp only [World.size_alloc]; omega) (fun k hk => (ho1.lt k hk).1)); have h04 : w4.cell? ⟨sb, 0, none⟩ = some (.slice (some ⟨g, 0, none⟩) n cap) := (by rw [hB4.cell (p := ⟨sb, 0, none⟩) hsb]; exact h0))
    | (at_builtin; refine wp_appendI (by rfl) (.tmp 57) (.tmp 63) (by rfl) w.heap.size (.slice a2 n2 c2) ([] ++ l.take j ++ [⟨key, value, 0⟩]) (by rfl) ho2 (some ⟨g, j * 3, none⟩) (n - j) (cap - j) (l.drop j) (by rfl) (by exact HD.out) (by exact SlV.below_all HSD.out hB4) (fun h => by cases h) (by have := HL.out; simp only [List.nil_append, List.length_append, List.length_singleton]; omega) (by have := hB4.size; omega) ?_; intro a3 n3 c3 w5 ho3 hf3 hat3; have hB5 : Below w.heap.size w w5 := hB4.trans (hf3.below (by have := hB4.size; omega) (fun k hk => (ho2.lt k hk).1)); have h05 : w5.cell? ⟨sb, 0, none⟩ = some (.slice (some ⟨g, 0, none⟩) n cap) := (by rw [hB5.cell (p := ⟨sb, 0, none⟩) hsb]; exact h0); have f05 : w5.frozen? ⟨sb, 0, none⟩ = false := (by rw [hB5.frozen (p := ⟨sb, 0, none⟩) hsb]; exact hfz)))
   go_ret
   refine ⟨rfl, _, (hR.below hsb hB5).set 0 _, ?_, (Frame.of_below_all (S := fun k => k = sb) hB5).setCell (p := ⟨sb, 0, none⟩) rfl _⟩
   rw [HP.out]
   exact owns_frame ho3 ((Frame.refl (fun k => k = sb) w5).setCell (p := ⟨sb, 0, none⟩) rfl _) (fun k hk e => by have := (ho3.lt k hk).1; omega)
  ·obtain rfl : j = i + 1 := by simpa using hj
   clear hj hcv0
   go_wp2_with (first
    | (at_builtin; refine wp_appendI (by rfl) (.tmp 37) (.tmp 43) (by rfl) w.heap.size (.slice none 0 0) [] (by rfl) (World.ownsRow_nil _ _ _ _) (some ⟨g, 0, none⟩) i cap (l.take i) (by rfl) HT.out (by exact HST.out) (fun h => by cases h) (by have := HL.out; simp only [List.length_nil]; omega) (by exact Nat.le_refl _) ?_; intro a1 n1 c1 w3 ho1 hf1 hat1; have hB3 : Below w.heap.size w w3 := below_drewN (hf1.below (by exact Nat.le_refl _) (fun k hk => by simp [Value.ownBlock] at hk)); have h03 : w3.cell? ⟨sb, 0, none⟩ = some (.slice (some ⟨g, 0, none⟩) n cap) := (by rw [hB3.cell (p := ⟨sb, 0, none⟩) hsb]; exact h0); have hk3 := HCK.out w3 hB3; have hv3 := HCV.out w3 hB3)
    | (at_builtin; refine wp_appendI (by rfl) (.tmp 45) (.tmp 51) (by rfl) w.heap.size (.slice a1 n1 c1) ([] ++ l.take i) (by rfl) (ho1.alloc _) (some ⟨w3.heap.size, 0, none⟩) 1 1 [⟨key, value, 0⟩] (by rfl) (by rfl) (by exact SlV.alloc_new w3 _ _) (fun h => by cases h) (by have := HL.out; simp only [List.nil_append, List.length_singleton]; omega) (by have := hB3.size; simp only [World.size_alloc]; omega) ?_; intro a2 n2 c2 w4 ho2 hf2 hat2; have hB4 : Below w.heap.size w w4 := (hB3.alloc (by have := hB3.size; omega) _).trans (hf2.below (by have := hB3.size; simp only [World.size_alloc]; omega) (fun k hk => (ho1.lt k hk).1)); have h04 : w4.cell? ⟨sb, 0, none⟩ = some (.slice (some ⟨g, 0, none⟩) n cap) := (by rw [hB4.cell (p := ⟨sb, 0, none⟩) hsb]; exact h0))
    | (at_builtin; refine wp_appendI (by rfl) (.tmp 57) (.tmp 63) (by rfl) w.heap.size (.slice a2 n2 c2) ([] ++ l.take i ++ [⟨key, value, 0⟩]) (by rfl) ho2 (some ⟨g, (i + 1) * 3, none⟩) (n - (i + 1)) (cap - (i + 1)) (l.drop (i + 1)) (by rfl) (by exact HD.out) (by exact SlV.below_all HSD.out hB4) (fun h => by cases h) (by have := HL.out; simp only [List.nil_append, List.length_append, List.length_singleton]; omega) (by have := hB4.size; omega) ?_; intro a3 n3 c3 w5 ho3 hf3 hat3; have hB5 : Below w.heap.size w w5 := hB4.trans (hf3.below (by have := hB4.size; omega) (fun k hk => (ho2.lt k hk).1)); have h05 : w5.cell? ⟨sb, 0, none⟩ = some (.slice (some ⟨g, 0, none⟩) n cap) := (by rw [hB5.cell (p := ⟨sb, 0, none⟩) hsb]; exact h0); have f05 : w5.frozen? ⟨sb, 0, none⟩ = false := (by rw [hB5.frozen (p := ⟨sb, 0, none⟩) hsb]; exact hfz)))
   go_ret
   refine ⟨rfl, _, (hR.below hsb hB5).set 0 _, ?_, (Frame.of_below_all (S := fun k => k = sb) hB5).setCell (p := ⟨sb, 0, none⟩) rfl _⟩
   rw [HP.out]
   exact owns_frame ho3 ((Frame.refl (fun k => k = sb) w5).setCell (p := ⟨sb, 0, none⟩) rfl _) (fun k hk e => by have := (ho3.lt k hk).1; omega)
end Go.Proofs.YtekegfbjbainhaaGreat


namespace Go.Proofs.YtekegfbjbainhaaGreat
open Go.RowKit
abbrev LevR := SlR × List (SlR × List ItR)
def LvOk (W : World) (base level : Nat) (q : LevR) : Prop := OwnP W base q.1.val level q.2 ∧ ∀ p ∈ q.2, PgOk W base p
def lvC (lvls : List LevR) : List Value := lvls.map (fun q => q.1.val)
def lvN (lvls : List LevR) : List (List (List ItR)) := lvls.map (fun q => q.2.map (·.2))
def OwnL (W : World) (base : Nat) (v : Value) (lvls : List LevR) : Prop := W.ownsRow base 188 1 v lvls.length (lvC lvls)
theorem Tryz.infoPages : (Tryz.prog.info? 188).map (fun i => (i.zero, i.size, i.bytes)) = some (some (.slice none 0 0), 1, 24) := by kernel_rfl
theorem wp_appendL {w : World} {ops : Array Oper} {rest : List Oper} {o : Oper} {a : Act} {Q : Exit → Act → World → Prop} (hgd : o.guard = none) (s x : Operand)
  (ho : o.op = .call { callee := .builtin .append, args := #[s, x], argTypes := #[144, 144] })
  (base : Nat) (v : Value) (lvls : List LevR) (hs : a.eval s = v) (hown : OwnL w base v lvls)
  (ad : Addr) (q : LevR) (hx : a.eval x = .slice (some ad) 1 1) (hm : SlV w (some ad) [q.1.val])
  (hlen : lvls.length ≤ 1000000) (hbase : base ≤ w.heap.size)
  (h : ∀ a' n' cap' w', OwnL w' base (.slice a' n' cap') (lvls ++ [q]) → Frame (fun k => v.ownBlock = some k) w w' → wpList Tryz.prog ops Q rest (a.put o.dst (.slice a' n' cap')) w') :
  wpList Tryz.prog ops Q (o :: rest) a w := by
 refine wp_appendV hgd s x 144 ho base 188 _ 1 24 Tryz.underlying144 Tryz.infoPages rfl (by decide) v lvls.length (lvC lvls) hs hown (some ad) 1 1 [q.1.val] hx rfl hm (fun h => by cases h) (fun u hu => by simp at hu; subst hu; rfl) (by unfold maxLen; omega) (by omega) hbase ?_
 intro v' w' ho' hf hat
 obtain ⟨a', cap', rfl, _⟩ := owns_form ho'
 refine h a' _ cap' w' ?_ hf
 unfold OwnL lvC
 rw [List.length_append, List.map_append]
 exact ho'
theorem Tryz.sizeTree : (Tryz.prog.info? 146).map (·.size) = some 1 := by kernel_rfl
structure GrowSt (w W : World) (lv : SlR) (lvls : List LevR) : Prop where
 hb : Below w.heap.size w W
 hr : RowV W w.heap.size 146 [.slice none 0 0]
 ht : RowV W (w.heap.size + 1) 146 [lv.val]
 ho : OwnL W (w.heap.size + 2) lv.val lvls
 hl : ∀ i (h : i < lvls.length), LvOk W w.heap.size i lvls[i]
theorem LvOk.below {W W' : World} {base level : Nat} {q : LevR} (h : LvOk W base level q) (hb : Below W.heap.size W W') : LvOk W' base level q := ⟨owns_below h.1 hb, fun p hp => owns_below (h.2 p hp) hb⟩
theorem LvOk.frame {W W' : World} {S : Nat → Prop} {base level : Nat} {q : LevR} (h : LvOk W base level q) (hf : Frame S W W') (h1 : ∀ k, q.1.val.ownBlock = some k → ¬ S k) (h2 : ∀ p ∈ q.2, ∀ k, p.1.val.ownBlock = some k → ¬ S k) : LvOk W' base level q := ⟨owns_frame h.1 hf h1, fun p hp => owns_frame (h.2 p hp) hf (h2 p hp)⟩
theorem LvOk.base {W : World} {base base' level : Nat} {q : LevR} (h : LvOk W base level q) (hb : base' ≤ base) : LvOk W base' level q :=
 ⟨owns_base h.1 (fun k hk => Nat.le_trans hb (h.1.lt k hk).1), fun p hp => owns_base (h.2 p hp) (fun k hk => Nat.le_trans hb ((h.2 p hp).lt k hk).1)⟩
theorem GrowSt.next {w W W' : World} {lv : SlR} {lvls : List LevR} (h : GrowSt w W lv lvls) (hb : Below W.heap.size W W') : GrowSt w W' lv lvls :=
 ⟨h.hb.trans (hb.mono h.hb.size), h.hr.below h.hr.lt hb, h.ht.below h.ht.lt hb, owns_below h.ho hb, fun i hi => (h.hl i hi).below hb⟩
theorem GrowSt.push {w W W1 : World} {lv lv' : SlR} {lvls : List LevR} {q : LevR} (h : GrowSt w W lv lvls) (hq : LvOk W w.heap.size lvls.length q) (ho : OwnL W1 (w.heap.size + 2) lv'.val (lvls ++ [q])) (hf : Frame (fun k => lv.val.ownBlock = some k) W W1) :
  GrowSt w (W1.setCell ⟨w.heap.size + 1, 0, none⟩ lv'.val) lv' (lvls ++ [q]) := by
 have hz := h.hb.size
 have hB1 : Below w.heap.size w W1 := h.hb.trans (hf.below hz (fun k hk => by have := (h.ho.lt k hk).1; omega))
 have hr1 := h.hr.of_block (hf.block _ h.hr.lt (fun e => owns_ne h.ho h.hr (by decide) e))
 have ht1 := h.ht.of_block (hf.block _ h.ht.lt (fun e => owns_ne h.ho h.ht (by decide) e))
 have hf2 : Frame (fun k => k = w.heap.size + 1) W1 (W1.setCell ⟨w.heap.size + 1, 0, none⟩ lv'.val) := (Frame.refl (fun k => k = w.heap.size + 1) _).setCell (p := ⟨w.heap.size + 1, 0, none⟩) rfl _
 have hlv : ∀ i x, LvOk W w.heap.size i x → LvOk (W1.setCell ⟨w.heap.size + 1, 0, none⟩ lv'.val) w.heap.size i x := fun i x hx => by
  have h1 : LvOk W1 w.heap.size i x := hx.frame hf (fun k hk e => owns_ne2 hx.1 h.ho (by decide) k hk e) (fun p hp k hk e => owns_ne2 (hx.2 p hp) h.ho (by decide) k hk e)
  exact h1.frame hf2 (fun k hk e => owns_ne h1.1 ht1 (by decide) (by rw [hk, e])) (fun p hp k hk e => owns_ne (h1.2 p hp) ht1 (by decide) (by rw [hk, e]))
 refine ⟨hB1.setCell (by show w.heap.size ≤ w.heap.size + 1; omega) _, hr1.other (by show w.heap.size ≠ w.heap.size + 1; omega) _, by simpa using ht1.set 0 lv'.val, owns_frame ho hf2 (fun k hk e => by have := (ho.lt k hk).1; omega), fun i hi => ?_⟩
 by_cases hlt : i < lvls.length
 ·rw [List.getElem_append_left hlt]
  exact hlv i _ (h.hl i hlt)
 ·have : i = lvls.length := by simp at hi; omega
  subst this
  rw [List.getElem_append_right (by omega)]
  simpa using hlv _ q hq
theorem SlV.ofOwn {W : World} {base e size n : Nat} {s : SlR} {xs : List Value} (h : W.ownsRow base e size s.val n xs) : SlV W s.a xs ∧ s.n = n := by
 obtain ⟨a, cap, hv, hs, _⟩ := owns_form h
 unfold SlR.val at hv
 cases hv
 exact ⟨hs, rfl⟩
def GrownPost (w : World) (l : List ItR) (lv : SlR) (w' : World) : Prop :=
 ∃ lvls : List LevR, OwnL w' w.heap.size lv.val lvls ∧ (∀ i (h : i < lvls.length), LvOk w' w.heap.size i lvls[i]) ∧ lvN lvls = grownN l ∧ Below w.heap.size w w'
set_option maxRecDepth 100000 in
set_option maxHeartbeats 2000000 in
theorem grown_any (lr0 : SlR) (l : List ItR) (w : World) (hn : lr0.n = l.length) (hl : l.length ≤ 200) (hok : ∀ x ∈ l, ItOk x) (hs : SlI w lr0.a l) :
  Calls Tryz.prog 84 #[.slice lr0.a lr0.n lr0.cap] w fun e w' => ∃ lv : SlR, e = .returned (.agg #[.slice lv.a lv.n lv.cap]) ∧ GrownPost w l lv w' := by
 have hst0 : GrowSt w ((w.alloc (.cells #[.slice none 0 0] 146)).alloc (.cells #[.slice none 0 0] 146)) ⟨none, 0, 0⟩ [] :=
  ⟨by go_grown, (RowV.new w _ _).alloc _, RowV.new_at _ _ _ _ (by simp), World.ownsRow_nil _ _ _ _, fun i hi => absurd hi (Nat.not_lt_zero _)⟩
 have hs0 : SlI ((w.alloc (.cells #[.slice none 0 0] 146)).alloc (.cells #[.slice none 0 0] 146)) lr0.a l := SlV.below_all hs (by go_grown)
 go_enter Tryz.func84, Tryz.ntmps84
 go_wp2
 go_loopw [0, 4] (fun lv0 lev wr => ∃ (k : Nat) (lr : SlR) (cur : List ItR) (lv : SlR) (lvls : List LevR), k ≤ 6 ∧ lev = .int .i64 k ∧ lv0 = .slice lr.a lr.n lr.cap ∧ SlI wr lr.a cur ∧ lr.n = cur.length ∧ cur.length ≤ 200 ∧ (∀ x ∈ cur, ItOk x) ∧ GrowSt w wr lv lvls ∧ lvls.length = k ∧ Hid (lvN lvls ++ grownF (7 - k) k cur = grownN l)) (fun _ lev _ => 7 - (intOf lev).toNat)
 case atStart => exact ⟨0, lr0, l, _, [], by omega, by simp, rfl, hs0, hn, hl, hok, hst0, rfl, by simp [Hid, lvN, grownN]⟩
 case round =>
  obtain ⟨k, lr, cur, lv, lvls, hk, rfl, rfl, hsc, hnc, hlc, hokc, hst, hlv, HG⟩ := hrel
  have HLV : Hid (lvls.length = k) := hlv
  have HNC : Hid (lr.n = cur.length) := hnc
  clear hlv hnc
  have hkI : (k : Int) ≤ 6 := by omega
  go_wp2_with fail
  refine (parted_any k lr.a lr.n lr.cap cur wr HNC.out hlc (by omega) hokc hsc).mono ?_
  rintro e w1 ⟨out, rfl, ps, hops, hpgs, hpn, hb1⟩
  have hst1 := hst.next hb1
  have c1 := hst1.ht.cell 0 (by simp)
  have f1 := hst1.ht.frozen 0
  simp only [List.getElem_cons_zero, SlR.val] at c1
  have hpl : (partedN k cur).length = ps.length := by rw [← hpn]; simp
  have hpb : ps.length ≤ 201 := by rw [← hpl]; have := (partF_length k cur []).2; unfold partedN; omega
  obtain ⟨hsps, hon⟩ := SlV.ofOwn hops
  have HON : Hid (out.n = ps.length) := hon
  have hq : LvOk w1 w.heap.size lvls.length (out, ps) := by
   rw [HLV.out]
   exact LvOk.base (q := (out, ps)) ⟨hops, hpgs⟩ hst.hb.size
  have HOA : Hid (OwnL (w1.alloc (.cells #[.slice out.a out.n out.cap] 188)) (w.heap.size + 2) (.slice lv.a lv.n lv.cap) lvls) := hst1.ho.alloc _
  have HSA : Hid (SlV (w1.alloc (.cells #[.slice out.a out.n out.cap] 188)) (some ⟨w1.heap.size, 0, none⟩) [((out, ps) : LevR).1.val]) := SlV.alloc_new w1 _ _
  have HLA : Hid (lvls.length ≤ 1000000) := by unfold Hid; rw [HLV.out]; omega
  have HZA : Hid (w.heap.size + 2 ≤ (w1.alloc (.cells #[.slice out.a out.n out.cap] 188)).heap.size) := by unfold Hid; have := hst1.ht.lt; simp; omega
  have hstA := hst1.next ((Below.refl _ _).alloc (Nat.le_refl _) (.cells #[.slice out.a out.n out.cap] 188))
  have hqA := hq.below ((Below.refl _ _).alloc (Nat.le_refl _) (.cells #[.slice out.a out.n out.cap] 188))
  clear hon hst hsc hs0 hst0 hs hops hpgs hq hst1
  by_cases h1 : ps.length = 1
  ·have hnI : ((out.n : Int) == 1) = true := by rw [HON.out, h1]; rfl
   have HG1 : Hid (lvN (lvls ++ [(out, ps)]) = grownN l) := by
    have h := HG.out
    rw [show 7 - k = (6 - k) + 1 by omega, grownF, if_pos (by rw [hpl]; exact h1)] at h
    unfold Hid lvN at *
    rw [List.map_append, List.map_cons, List.map_nil, hpn]; exact h
   go_wp2_with (at_builtin; refine wp_appendL (by rfl) (.tmp 15) (.tmp 17) (by rfl) (w.heap.size + 2) (.slice lv.a lv.n lv.cap) lvls (by rfl) HOA.out ⟨w1.heap.size, 0, none⟩ (out, ps) (by rfl) HSA.out HLA.out HZA.out ?_; intro a4 n4 c4 w4 ho4 hf4; have hr4 : RowV w4 w.heap.size 146 [.slice none 0 0] := hstA.hr.of_block (hf4.block _ hstA.hr.lt (fun e => owns_ne HOA.out hstA.hr (by decide) e)); have ht4 : RowV w4 (w.heap.size + 1) 146 [lv.val] := hstA.ht.of_block (hf4.block _ hstA.ht.lt (fun e => owns_ne HOA.out hstA.ht (by decide) e)); have q0 : w4.cell? ⟨w.heap.size, 0, none⟩ = some (.slice none 0 0) := hr4.cell 0 (by simp); have q1 : w4.cell? ⟨w.heap.size + 1, 0, none⟩ = some (.slice lv.a lv.n lv.cap) := ht4.cell 0 (by simp); have r0 : w4.frozen? ⟨w.heap.size, 0, none⟩ = false := hr4.frozen 0; have r1 : w4.frozen? ⟨w.heap.size + 1, 0, none⟩ = false := ht4.frozen 0)
   have hst5 : GrowSt w (w4.setCell ⟨w.heap.size + 1, 0, none⟩ (.slice a4 n4 c4)) ⟨a4, n4, c4⟩ (lvls ++ [(out, ps)]) := GrowSt.push (lv' := ⟨a4, n4, c4⟩) (q := (out, ps)) hstA hqA ho4 hf4
   refine ret_agg (k := 2) (cs := [.slice a4 n4 c4]) rfl rfl (by exact hst5.hr.set 0 _) Tryz.underlying146 rfl Tryz.sizeTree rfl ?_
   refine ⟨⟨a4, n4, c4⟩, rfl, lvls ++ [(out, ps)], ?_, ?_, HG1.out, hst5.hb.setCell (by exact Nat.le_refl _) _⟩
   ·exact owns_base (owns_frame hst5.ho ((Frame.refl (fun k => k = w.heap.size) _).setCell (p := ⟨w.heap.size, 0, none⟩) rfl _) (fun k hk e => by have := (hst5.ho.lt k hk).1; omega)) (fun k hk => by have := (hst5.ho.lt k hk).1; omega)
   ·intro i hi
    have hx := hst5.hl i hi
    exact hx.frame ((Frame.refl (fun k => k = w.heap.size) _).setCell (p := ⟨w.heap.size, 0, none⟩) rfl _) (fun k hk e => owns_ne hx.1 hst5.hr (by decide) (by rw [hk, e])) (fun p hp k hk e => owns_ne (hx.2 p hp) hst5.hr (by decide) (by rw [hk, e]))
  ·have hnI : ((out.n : Int) == 1) = false := by rw [HON.out]; simp; omega
   have hk6 : k < 6 := by
    by_cases h : k < 6
    ·exact h
    ·exfalso; apply h1; rw [← hpl]; unfold partedN; rw [partF_six k h]; rfl
   have hcne : cur ≠ [] := by
    intro h; apply h1; rw [← hpl, h]; rfl
   have HG1 : Hid (lvN (lvls ++ [(out, ps)]) ++ grownF (7 - (k + 1)) (k + 1) (nextF k 0 (partedN k cur)) = grownN l) := by
    have h := HG.out
    rw [show 7 - k = (7 - (k + 1)) + 1 by omega, grownF, if_neg (by rw [hpl]; exact h1)] at h
    unfold Hid lvN at *
    rw [List.map_append, List.map_cons, List.map_nil, hpn, List.append_assoc, List.singleton_append]; exact h
   have hpne : ∀ p ∈ partedN k cur, p ≠ [] := partF_ne k cur [] (Or.inl hcne)
   have hpok := parted_ok (level := k) hokc
   have hpsz : ∀ p ∈ partedN k cur, p.length ≤ 200 := fun p hp => by have := partF_size k cur [] p hp; simp at this; omega
   have hpbn : (partedN k cur).length ≤ 200 := by have := partF_bound k cur [] hcne; unfold partedN; omega
   go_wp2_with (at_builtin; refine wp_appendL (by rfl) (.tmp 15) (.tmp 17) (by rfl) (w.heap.size + 2) (.slice lv.a lv.n lv.cap) lvls (by rfl) HOA.out ⟨w1.heap.size, 0, none⟩ (out, ps) (by rfl) HSA.out HLA.out HZA.out ?_; intro a4 n4 c4 w4 ho4 hf4; have hr4 : RowV w4 w.heap.size 146 [.slice none 0 0] := hstA.hr.of_block (hf4.block _ hstA.hr.lt (fun e => owns_ne HOA.out hstA.hr (by decide) e)); have ht4 : RowV w4 (w.heap.size + 1) 146 [lv.val] := hstA.ht.of_block (hf4.block _ hstA.ht.lt (fun e => owns_ne HOA.out hstA.ht (by decide) e)); have q0 : w4.cell? ⟨w.heap.size, 0, none⟩ = some (.slice none 0 0) := hr4.cell 0 (by simp); have q1 : w4.cell? ⟨w.heap.size + 1, 0, none⟩ = some (.slice lv.a lv.n lv.cap) := ht4.cell 0 (by simp); have r0 : w4.frozen? ⟨w.heap.size, 0, none⟩ = false := hr4.frozen 0; have r1 : w4.frozen? ⟨w.heap.size + 1, 0, none⟩ = false := ht4.frozen 0)
   have hst5 : GrowSt w (w4.setCell ⟨w.heap.size + 1, 0, none⟩ (.slice a4 n4 c4)) ⟨a4, n4, c4⟩ (lvls ++ [(out, ps)]) := GrowSt.push (lv' := ⟨a4, n4, c4⟩) (q := (out, ps)) hstA hqA ho4 hf4
   have hq5 : LvOk (w4.setCell ⟨w.heap.size + 1, 0, none⟩ (.slice a4 n4 c4)) w.heap.size k (out, ps) := by
    have hq5' : LvOk (w4.setCell ⟨w.heap.size + 1, 0, none⟩ (.slice a4 n4 c4)) w.heap.size lvls.length (out, ps) := by
     have := hst5.hl lvls.length (by simp)
     simpa using this
    rw [HLV.out] at hq5'
    exact hq5'
   clear q0 q1 r0 r1 hr4 ht4 c1 f1 hstA hqA ho4 hf4
   generalize w4.setCell ⟨w.heap.size + 1, 0, none⟩ (.slice a4 n4 c4) = W5 at *
   have hsl5 := (SlV.ofOwn hq5.1).1
   go_loopw [0, 6] (fun l0 i wr2 => ∃ (j : Nat) (lr2 : SlR), j ≤ ps.length ∧ i = .int .i64 j ∧ l0 = .slice lr2.a lr2.n lr2.cap ∧ OwnI wr2 W5.heap.size (.slice lr2.a lr2.n lr2.cap) (nextF k 0 ((partedN k cur).take j)) ∧ Below W5.heap.size W5 wr2) (fun _ i _ => ps.length - (intOf i).toNat)
   case atStart => exact ⟨0, ⟨none, 0, 0⟩, by omega, by simp, rfl, by rw [List.take_zero]; exact World.ownsRow_nil _ _ _ _, Below.refl _ _⟩
   case round =>
    obtain ⟨j, lr2, hj, rfl, rfl, hol, hbl⟩ := hrel
    by_cases hjl : j < ps.length
    ·have hjI : (j : Int) < out.n := by rw [HON.out]; omega
     have hj0 : (0 : Int) ≤ (j : Int) := Int.natCast_nonneg _
     obtain ⟨⟨⟨qa, qn, qc⟩, ql⟩, hqe⟩ : ∃ q, q = ps[j] := ⟨_, rfl⟩
     have hqm : ((⟨qa, qn, qc⟩ : SlR), ql) ∈ ps := by rw [hqe]; exact List.getElem_mem hjl
     have hpj : (partedN k cur)[j]? = some ql := by
      rw [← hpn, List.getElem?_map, List.getElem?_eq_getElem hjl, ← hqe]; rfl
     have hpm : ql ∈ partedN k cur := List.mem_of_getElem? hpj
     have hne := hpne _ hpm
     have hqok := hpok _ hpm
     have hqsz := hpsz _ hpm
     have hqpos : 1 ≤ ql.length := List.length_pos_iff.2 hne
     have HNX : Hid (nextF k 0 ((partedN k cur).take (j + 1)) = nextF k 0 ((partedN k cur).take j) ++ [⟨lastK ql, digB (codeB k ql), j⟩]) := by
      unfold Hid
      have hjl' : j < (partedN k cur).length := by omega
      rw [List.take_succ_eq_append_getElem hjl', nextF_snoc]
      have : (partedN k cur)[j] = ql := by rw [List.getElem?_eq_getElem hjl'] at hpj; exact Option.some.inj hpj
      rw [this, List.length_take, Nat.zero_add, Nat.min_eq_left (by omega)]
     have hpg : PgOk wr w.heap.size ((⟨qa, qn, qc⟩ : SlR), ql) := owns_below (hq5.2 _ hqm) hbl
     obtain ⟨hsq, hqn⟩ := SlV.ofOwn (s := ⟨qa, qn, qc⟩) hpg
     have hsq : SlI wr qa ql := hsq
     have HQN : Hid (qn = ql.length) := hqn
     obtain ⟨ib, io, rfl, hib, hik, _, _⟩ := SlI.cells hsq (ql.length - 1) (by omega)
     have hsl5 : SlV W5 out.a (pgsC k ps) := hsl5
     have g0 : (pgsC k ps)[j * 2]? = some (.int .i64 (k : Int)) := (flat_get (pgC k) 2 ps (fun _ _ => rfl) j hjl 0 (by omega)).trans rfl
     have g1 : (pgsC k ps)[j * 2 + 1]? = some (.slice (some ⟨ib, io, none⟩) qn qc) := (flat_get (pgC k) 2 ps (fun _ _ => rfl) j hjl 1 (by omega)).trans (by rw [← hqe]; rfl)
     obtain ⟨ob, oo, hoa, hob, ho0⟩ := SlV.at hsl5 g0
     obtain ⟨ob', oo', hoa', _, ho1⟩ := SlV.at hsl5 g1
     rw [hoa] at hoa'
     cases hoa'
     have y0 : wr.cell? ⟨ob, oo + j * 2, none⟩ = some (.int .i64 (k : Int)) := (hbl.cell (p := ⟨ob, oo + j * 2, none⟩) hob).trans ho0
     have y1 : wr.cell? ⟨ob, oo + j * 2 + 1, none⟩ = some (.slice (some ⟨ib, io, none⟩) qn qc) := (hbl.cell (p := ⟨ob, oo + j * 2 + 1, none⟩) hob).trans ho1
     obtain ⟨oa, on, oc⟩ := out
     simp only at hoa
     subst hoa
     clear ho0 ho1 hpj hqe g0 g1 hqn
     have hsqA : SlI (wr.alloc (.cells #[.int .i64 (k : Int), .slice (some ⟨ib, io, none⟩) qn qc] 80)) (some ⟨ib, io, none⟩) ql := SlV.below_all hsq ((Below.refl _ _).alloc (Nat.le_refl _) _)
     have HCA : Hid (Calls _ _ _ _ _) := code_any k (some ⟨ib, io, none⟩) qn qc ql _ HQN.out hqsz (by omega) hqok hsqA
     obtain ⟨dd, hdd⟩ : ∃ dd, dd = digB (codeB k ql) := ⟨_, rfl⟩
     have hdl : dd.length = 8 := by rw [hdd]; rfl
     obtain ⟨x0, x1, x2, x3, x4, x5, x6, x7, rfl⟩ := list8 dd hdl
     have HV : Hid (digV (codeB k ql) = .agg #[.int .u8 (x0.toNat : Int), .int .u8 (x1.toNat : Int), .int .u8 (x2.toNat : Int), .int .u8 (x3.toNat : Int), .int .u8 (x4.toNat : Int), .int .u8 (x5.toNat : Int), .int .u8 (x6.toNat : Int), .int .u8 (x7.toNat : Int)]) := by
      unfold Hid; rw [digV_eq, ← hdd]; rfl
     have HDD : Hid ([x0, x1, x2, x3, x4, x5, x6, x7] = digB (codeB k ql)) := hdd
     have HCL : Hid ((codeB k ql).length ≤ maxLen) := by
      have := prefB_length k ql.length ql hqok
      unfold Hid maxLen; unfold prefB at this; unfold codeB; omega
     clear hdd hdl hsqA
     go_wp2_with fail
     refine HCA.out.mono ?_
     rintro e w6 ⟨a5, n5, c5, rfl, ho5, hb6⟩
     obtain ⟨hs5, hn5, _⟩ := ho5.sl
     have HN5 : Hid (n5 = (codeB k ql).length) := hn5
     clear hn5
     go_wp2_with fail
     refine (refDigest_any a5 n5 c5 (codeB k ql) w6 HN5.out HCL.out hs5).mono ?_
     rintro e w7 ⟨rfl, hb7⟩
     rw [HV.out]
     have hBA : Below wr.heap.size wr (wr.alloc (.cells #[.int .i64 (k : Int), .slice (some ⟨ib, io, none⟩) qn qc] 80)) := (Below.refl _ _).alloc (Nat.le_refl _) _
     have hB6 : Below wr.heap.size wr w6 := hBA.trans (hb6.mono (by simp))
     have hB7 : Below wr.heap.size wr w7 := hB6.trans (hb7.mono hB6.size)
     have hP7 : RowV w7 wr.heap.size 80 [.int .i64 (k : Int), .slice (some ⟨ib, io, none⟩) qn qc] := by
      have h1 : RowV w6 wr.heap.size 80 [.int .i64 (k : Int), .slice (some ⟨ib, io, none⟩) qn qc] := (RowV.new wr 80 [.int .i64 (k : Int), .slice (some ⟨ib, io, none⟩) qn qc]).below (by simp) hb6
      exact h1.below h1.lt hb7
     have p1 : w7.cell? ⟨wr.heap.size, 1, none⟩ = some (.slice (some ⟨ib, io, none⟩) qn qc) := hP7.cell 1 (by simp)
     have hz7 : wr.heap.size < w7.heap.size := hP7.lt
     have hib7 : ib < w7.heap.size := Nat.lt_trans hib hz7
     have k7 : w7.cell? ⟨ib, io + (qn - 1) * 3, none⟩ = some (.string ⟨(lastK ql).toArray⟩) := by
      rw [HQN.out, lastK_get ql hne]
      exact (hB7.cell (p := ⟨ib, io + (ql.length - 1) * 3, none⟩) hib).trans hik
     have hqn1 : (1 : Int) ≤ qn := by rw [HQN.out]; omega
     have hqn2 : (qn : Int) ≤ 200 := by rw [HQN.out]; omega
     have HO7 : Hid (OwnI w7 W5.heap.size (.slice lr2.a lr2.n lr2.cap) (nextF k 0 ((partedN k cur).take j))) := owns_below hol (hB7)
     have hwr : IntKind.i64.wrap ((qn : Int) - 1) = ((qn - 1 : Nat) : Int) := by simp only [IntKind.wrap_i64]; omega
     have hw1 : ((qn - 1 : Nat) : Int) < qn := by omega
     have hD8 : RowV (w7.alloc (.cells #[.int .u8 (x0.toNat : Int), .int .u8 (x1.toNat : Int), .int .u8 (x2.toNat : Int), .int .u8 (x3.toNat : Int), .int .u8 (x4.toNat : Int), .int .u8 (x5.toNat : Int), .int .u8 (x6.toNat : Int), .int .u8 (x7.toNat : Int)] 36)).drew w7.heap.size 36 ([x0, x1, x2, x3, x4, x5, x6, x7].map u8c) := RowV.new w7 36 ([x0, x1, x2, x3, x4, x5, x6, x7].map u8c)
     have hcv := run_string_SlB (P := Tryz.prog) (w7.alloc (.cells #[.int .u8 (x0.toNat : Int), .int .u8 (x1.toNat : Int), .int .u8 (x2.toNat : Int), .int .u8 (x3.toNat : Int), .int .u8 (x4.toNat : Int), .int .u8 (x5.toNat : Int), .int .u8 (x6.toNat : Int), .int .u8 (x7.toNat : Int)] 36)).drew 38 9 5 (some ⟨w7.heap.size, 0, none⟩) 8 8 [x0, x1, x2, x3, x4, x5, x6, x7] Tryz.underlying38 Tryz.underlying5 Tryz.underlying9 rfl (SlB.of_row hD8) (fun h => by cases h)
     have HOA8 : Hid (OwnI ((w7.alloc (.cells #[.int .u8 (x0.toNat : Int), .int .u8 (x1.toNat : Int), .int .u8 (x2.toNat : Int), .int .u8 (x3.toNat : Int), .int .u8 (x4.toNat : Int), .int .u8 (x5.toNat : Int), .int .u8 (x6.toNat : Int), .int .u8 (x7.toNat : Int)] 36)).drew.alloc (.cells #[.string ⟨(lastK ql).toArray⟩, .string ⟨[x0, x1, x2, x3, x4, x5, x6, x7].toArray⟩, .int .i64 (j : Int)] 84)) W5.heap.size (.slice lr2.a lr2.n lr2.cap) (nextF k 0 ((partedN k cur).take j))) := (HO7.out.alloc _).drew.alloc _
     have HSA8 : Hid (SlI ((w7.alloc (.cells #[.int .u8 (x0.toNat : Int), .int .u8 (x1.toNat : Int), .int .u8 (x2.toNat : Int), .int .u8 (x3.toNat : Int), .int .u8 (x4.toNat : Int), .int .u8 (x5.toNat : Int), .int .u8 (x6.toNat : Int), .int .u8 (x7.toNat : Int)] 36)).drew.alloc (.cells #[.string ⟨(lastK ql).toArray⟩, .string ⟨[x0, x1, x2, x3, x4, x5, x6, x7].toArray⟩, .int .i64 (j : Int)] 84)) (some ⟨w7.heap.size + 1, 0, none⟩) [⟨lastK ql, [x0, x1, x2, x3, x4, x5, x6, x7], j⟩]) := by
      have := SlV.alloc_new (w7.alloc (.cells #[.int .u8 (x0.toNat : Int), .int .u8 (x1.toNat : Int), .int .u8 (x2.toNat : Int), .int .u8 (x3.toNat : Int), .int .u8 (x4.toNat : Int), .int .u8 (x5.toNat : Int), .int .u8 (x6.toNat : Int), .int .u8 (x7.toNat : Int)] 36)).drew (itsC [⟨lastK ql, [x0, x1, x2, x3, x4, x5, x6, x7], j⟩]) 84
      rw [World.size_drew, World.size_alloc] at this
      exact this
     have HLE8 : Hid ((nextF k 0 ((partedN k cur).take j)).length + [(⟨lastK ql, [x0, x1, x2, x3, x4, x5, x6, x7], j⟩ : ItR)].length ≤ 1000000) := by
      unfold Hid; rw [nextF_length, List.length_take]; simp; omega
     have hz5 := hbl.size
     have HZ8 : Hid (W5.heap.size ≤ ((w7.alloc (.cells #[.int .u8 (x0.toNat : Int), .int .u8 (x1.toNat : Int), .int .u8 (x2.toNat : Int), .int .u8 (x3.toNat : Int), .int .u8 (x4.toNat : Int), .int .u8 (x5.toNat : Int), .int .u8 (x6.toNat : Int), .int .u8 (x7.toNat : Int)] 36)).drew.alloc (.cells #[.string ⟨(lastK ql).toArray⟩, .string ⟨[x0, x1, x2, x3, x4, x5, x6, x7].toArray⟩, .int .i64 (j : Int)] 84)).heap.size) := by unfold Hid; simp; omega
     have HB8 : Hid (Below W5.heap.size W5 ((w7.alloc (.cells #[.int .u8 (x0.toNat : Int), .int .u8 (x1.toNat : Int), .int .u8 (x2.toNat : Int), .int .u8 (x3.toNat : Int), .int .u8 (x4.toNat : Int), .int .u8 (x5.toNat : Int), .int .u8 (x6.toNat : Int), .int .u8 (x7.toNat : Int)] 36)).drew.alloc (.cells #[.string ⟨(lastK ql).toArray⟩, .string ⟨[x0, x1, x2, x3, x4, x5, x6, x7].toArray⟩, .int .i64 (j : Int)] 84))) := (((hbl.trans (hB7.mono hz5)).alloc (by omega) _).drew.alloc (by simp; omega) _)
     clear hb6 hb7 ho5 hs5 hP7 y0 y1 HCA hik hD8
     go_wp2
     go_region_law
      ((refine step_appendI (by rfl) (.tmp 37) (.tmp 51) (by rfl) W5.heap.size (.slice lr2.a lr2.n lr2.cap) (nextF k 0 ((partedN k cur).take j)) (by rfl) HOA8.out ⟨w7.heap.size + 1, 0, none⟩ 1 1 [⟨lastK ql, [x0, x1, x2, x3, x4, x5, x6, x7], j⟩] (by rfl) rfl HSA8.out HLE8.out HZ8.out ?_; intro a9 n9 c9 w9 ho9 hf9 hat9))
     all_goals
      go_wp2
      refine ⟨⟨j + 1, ⟨a9, n9, c9⟩, by omega, by go_num, rfl, ?_, HB8.out.trans (hf9.below HZ8.out (fun q hq => (HOA8.out.lt q hq).1))⟩, by simp [intOf]; omega⟩
      rw [HNX.out, ← HDD.out]
      exact ho9
    ·have hjI : ¬ (j : Int) < out.n := by rw [HON.out]; omega
     have HT : Hid ((partedN k cur).take j = partedN k cur) := List.take_of_length_le (by omega)
     go_wp2
     rw [HT.out] at hol
     have hst6 := hst5.next hbl
     refine ⟨⟨k + 1, lr2, nextF k 0 (partedN k cur), ⟨a4, n4, c4⟩, lvls ++ [(out, ps)], by omega, by go_num, rfl, (SlV.ofOwn (s := lr2) hol).1, ?_, by rw [nextF_length]; exact hpbn, nextF_ok k 0 _ hpok, hst6, by rw [List.length_append, HLV.out]; rfl, HG1⟩, by simp [intOf]; omega⟩
     exact (SlV.ofOwn (s := lr2) hol).2
end Go.Proofs.YtekegfbjbainhaaGreat
