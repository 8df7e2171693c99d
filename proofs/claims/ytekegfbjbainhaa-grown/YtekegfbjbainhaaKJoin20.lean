import Derived.Test.YtekegfbjbainhaaKKG4
import Derived.Test.YtekegfbjbainhaaKJoin15
import Derived.Test.YtekegfbjbainhaaKJoin3
import Derived.Test.YtekegfbjbainhaaKJoin14
import Derived.Test.YtekegfbjbainhaaKPr8
import Derived.Deep.RegionHeld3
import Derived.Deep.RegionHeldLaw
set_option linter.unusedVariables false
set_option linter.unusedSimpArgs false

namespace Go.Proofs.Ytekegfbjbainhaa
open Go.RowKit
attribute [local go_sem ↓] Go.wp_at_zero Go.wp_at_succ
theorem jF_len : ∀ (bs : List Bool) (ps : List (List UInt8)) (d : List UInt8), (jF bs ps d).length ≤ bs.length
 | [], _, _ => by simp [jF]
 | _ :: _, [], _ => by simp [jF]
 | b :: bs, p :: ps, d => by
  have := jF_len bs ps (digB (if b = true then 1 :: (p ++ d) else 1 :: (d ++ p)))
  simp only [jF, List.length_cons]
  omega
theorem jF_short : ∀ (bs : List Bool) (ps : List (List UInt8)) (d : List UInt8), (∀ p ∈ ps, p.length = 8) → d.length = 8 → ∀ x ∈ jF bs ps d, x.length ≤ 17
 | [], _, _, _, _ => fun x hx => by simp [jF] at hx
 | _ :: _, [], _, _, _ => fun x hx => by simp [jF] at hx
 | b :: bs, p :: ps, d, h1, h2 => fun x hx => by
  simp only [jF, List.mem_cons] at hx
  rcases hx with rfl | hx
  ·have := h1 p (by simp)
   split <;> simp <;> omega
  ·exact jF_short bs ps _ (fun q hq => h1 q (by simp [hq])) (digB_length _) x hx
theorem joinedF_len (e n : Nat) (root : List UInt8) (path : List (List UInt8)) : (joinedF e n root path).length ≤ 65 := by
 unfold joinedF
 have h1 := jF_len (flagsF 64 e n).reverse path (digB (0 :: root))
 have h2 := flags_len 64 e n
 simp only [List.length_cons, List.length_reverse] at h1 ⊢
 omega
theorem joinedF_short (e n : Nat) (root : List UInt8) (path : List (List UInt8)) (hr : root.length = 8) (hp : ∀ p ∈ path, p.length = 8) : ∀ x ∈ joinedF e n root path, x.length ≤ 1000000000 := fun x hx => by
 unfold joinedF at hx
 rcases List.mem_cons.1 hx with rfl | hx
 ·simp; omega
 ·have := jF_short _ _ _ hp (digB_length _) x hx
  omega
set_option maxRecDepth 100000 in
set_option maxHeartbeats 1600000 in
theorem collides_any (e n : Nat) (x y : List UInt8) (a1 a2 : Option Addr) (c1 c2 : Nat) (pa pb : List (List UInt8)) (w : World) (hx : x.length = 8) (hy : y.length = 8) (hn : 1 ≤ n) (hn2 : n ≤ 64) (he : e < n) (h1 : SlD w a1 pa) (h2 : SlD w a2 pb) (hl1 : pa.length ≤ 9223372036854775807) (hl2 : pb.length ≤ 9223372036854775807) :
  Calls Try.prog 31 #[.slice a1 pa.length c1, .slice a2 pb.length c2, dV x, dV y, .int .i64 (e : Int), .int .i64 (n : Int)] w fun r w' => (r = .returned (.bool true) ∨ r = .returned (.bool false) ∧ ¬ Met (joinedF e n x pa) (joinedF e n y pb)) ∧ Below w.heap.size w w' := by
 have HJ1 : Hid (∀ W, Below w.heap.size w W → Calls Try.prog 52 #[.int .i64 (e : Int), .int .i64 (n : Int), dV x, .slice a1 pa.length c1] W fun r w' => ∃ v : SlR, r = .returned (.slice v.a v.n v.cap) ∧ StrO w' W.heap.size v (joinedF e n x pa) ∧ Below W.heap.size W w') := fun W hW => joined_any e n x a1 c1 pa W hx hn hn2 he (h1.below hW) hl1
 have HJ2 : Hid (∀ W, Below w.heap.size w W → Calls Try.prog 52 #[.int .i64 (e : Int), .int .i64 (n : Int), dV y, .slice a2 pb.length c2] W fun r w' => ∃ v : SlR, r = .returned (.slice v.a v.n v.cap) ∧ StrO w' W.heap.size v (joinedF e n y pb) ∧ Below W.heap.size W w') := fun W hW => joined_any e n y a2 c2 pb W hy hn hn2 he (h2.below hW) hl2
 have HL1 : Hid ((joinedF e n x pa).length ≤ 65 ∧ ∀ t ∈ joinedF e n x pa, t.length ≤ 1000000000) := ⟨joinedF_len _ _ _ _, joinedF_short _ _ _ _ hx h1.2⟩
 have HL2 : Hid ((joinedF e n y pb).length ≤ 65 ∧ ∀ t ∈ joinedF e n y pb, t.length ≤ 1000000000) := ⟨joinedF_len _ _ _ _, joinedF_short _ _ _ _ hy h2.2⟩
 generalize joinedF e n x pa = A at *
 generalize joinedF e n y pb = B at *
 obtain ⟨x0, x1, x2, x3, x4, x5, x6, x7, rfl⟩ := list8 x hx
 obtain ⟨y0, y1, y2, y3, y4, y5, y6, y7, rfl⟩ := list8 y hy
 rw [show dV [x0, x1, x2, x3, x4, x5, x6, x7] = .agg #[.int .u8 (x0.toNat : Int), .int .u8 (x1.toNat : Int), .int .u8 (x2.toNat : Int), .int .u8 (x3.toNat : Int), .int .u8 (x4.toNat : Int), .int .u8 (x5.toNat : Int), .int .u8 (x6.toNat : Int), .int .u8 (x7.toNat : Int)] from rfl] at HJ1 ⊢
 rw [show dV [y0, y1, y2, y3, y4, y5, y6, y7] = .agg #[.int .u8 (y0.toNat : Int), .int .u8 (y1.toNat : Int), .int .u8 (y2.toNat : Int), .int .u8 (y3.toNat : Int), .int .u8 (y4.toNat : Int), .int .u8 (y5.toNat : Int), .int .u8 (y6.toNat : Int), .int .u8 (y7.toNat : Int)] from rfl] at HJ2 ⊢
 have HB0 : Hid (Below w.heap.size w ((w.alloc (.cells #[.int .u8 (x0.toNat : Int), .int .u8 (x1.toNat : Int), .int .u8 (x2.toNat : Int), .int .u8 (x3.toNat : Int), .int .u8 (x4.toNat : Int), .int .u8 (x5.toNat : Int), .int .u8 (x6.toNat : Int), .int .u8 (x7.toNat : Int)] 45)).alloc (.cells #[.int .u8 (y0.toNat : Int), .int .u8 (y1.toNat : Int), .int .u8 (y2.toNat : Int), .int .u8 (y3.toNat : Int), .int .u8 (y4.toNat : Int), .int .u8 (y5.toNat : Int), .int .u8 (y6.toNat : Int), .int .u8 (y7.toNat : Int)] 45))) := ((Below.refl _ _).alloc (Nat.le_refl _) _).alloc (by simp) _
 have HRY : Hid (RowV ((w.alloc (.cells #[.int .u8 (x0.toNat : Int), .int .u8 (x1.toNat : Int), .int .u8 (x2.toNat : Int), .int .u8 (x3.toNat : Int), .int .u8 (x4.toNat : Int), .int .u8 (x5.toNat : Int), .int .u8 (x6.toNat : Int), .int .u8 (x7.toNat : Int)] 45)).alloc (.cells #[.int .u8 (y0.toNat : Int), .int .u8 (y1.toNat : Int), .int .u8 (y2.toNat : Int), .int .u8 (y3.toNat : Int), .int .u8 (y4.toNat : Int), .int .u8 (y5.toNat : Int), .int .u8 (y6.toNat : Int), .int .u8 (y7.toNat : Int)] 45)) (w.heap.size + 1) 45 [.int .u8 (y0.toNat : Int), .int .u8 (y1.toNat : Int), .int .u8 (y2.toNat : Int), .int .u8 (y3.toNat : Int), .int .u8 (y4.toNat : Int), .int .u8 (y5.toNat : Int), .int .u8 (y6.toNat : Int), .int .u8 (y7.toNat : Int)]) := by
  have h := RowV.new (w.alloc (.cells #[.int .u8 (x0.toNat : Int), .int .u8 (x1.toNat : Int), .int .u8 (x2.toNat : Int), .int .u8 (x3.toNat : Int), .int .u8 (x4.toNat : Int), .int .u8 (x5.toNat : Int), .int .u8 (x6.toNat : Int), .int .u8 (x7.toNat : Int)] 45)) 45 [.int .u8 (y0.toNat : Int), .int .u8 (y1.toNat : Int), .int .u8 (y2.toNat : Int), .int .u8 (y3.toNat : Int), .int .u8 (y4.toNat : Int), .int .u8 (y5.toNat : Int), .int .u8 (y6.toNat : Int), .int .u8 (y7.toNat : Int)]
  unfold Hid
  simpa using h
 clear h1 h2 hx hy hl1 hl2 hn hn2 he
 go_enter Try.func31, Try.ntmps31
 go_wp2_with fail
 refine (HJ1.out _ HB0.out).mono ?_
 rintro r w1 ⟨vL, rfl, hL, hb1⟩
 have HB1 : Hid (Below w.heap.size w w1) := HB0.out.trans (hb1.mono HB0.out.size)
 have HL1' : Hid (StrO w1 w.heap.size vL A) := owns_base hL (fun k hk => Nat.le_trans HB0.out.size (World.ownsRow.lt hL k hk).1)
 have HRY1 : Hid (RowV w1 (w.heap.size + 1) 45 [.int .u8 (y0.toNat : Int), .int .u8 (y1.toNat : Int), .int .u8 (y2.toNat : Int), .int .u8 (y3.toNat : Int), .int .u8 (y4.toNat : Int), .int .u8 (y5.toNat : Int), .int .u8 (y6.toNat : Int), .int .u8 (y7.toNat : Int)]) := RowV.below HRY.out HRY.out.lt hb1
 have d0 : w1.cell? ⟨w.heap.size + 1, 0, none⟩ = some (.int .u8 (y0.toNat : Int)) := RowV.cell? HRY1.out 0
 have d1 : w1.cell? ⟨w.heap.size + 1, 1, none⟩ = some (.int .u8 (y1.toNat : Int)) := RowV.cell? HRY1.out 1
 have d2 : w1.cell? ⟨w.heap.size + 1, 2, none⟩ = some (.int .u8 (y2.toNat : Int)) := RowV.cell? HRY1.out 2
 have d3 : w1.cell? ⟨w.heap.size + 1, 3, none⟩ = some (.int .u8 (y3.toNat : Int)) := RowV.cell? HRY1.out 3
 have d4 : w1.cell? ⟨w.heap.size + 1, 4, none⟩ = some (.int .u8 (y4.toNat : Int)) := RowV.cell? HRY1.out 4
 have d5 : w1.cell? ⟨w.heap.size + 1, 5, none⟩ = some (.int .u8 (y5.toNat : Int)) := RowV.cell? HRY1.out 5
 have d6 : w1.cell? ⟨w.heap.size + 1, 6, none⟩ = some (.int .u8 (y6.toNat : Int)) := RowV.cell? HRY1.out 6
 have d7 : w1.cell? ⟨w.heap.size + 1, 7, none⟩ = some (.int .u8 (y7.toNat : Int)) := RowV.cell? HRY1.out 7
 clear hL hb1
 go_wp2_with fail
 refine (HJ2.out _ HB1.out).mono ?_
 rintro r w2 ⟨vM, rfl, hM, hb2⟩
 have HB2 : Hid (Below w.heap.size w w2) := HB1.out.trans (hb2.mono HB1.out.size)
 have HL2' : Hid (StrO w2 w.heap.size vL A) := owns_below HL1'.out hb2
 obtain ⟨hMs, hMn⟩ := SlV.ofOwn (s := vM) hM
 have HMS : Hid (SlV w2 vM.a (B.map strV)) := hMs
 have HMN : Hid (vM.a = none → vM.n = 0 ∧ vM.cap = 0) := fun e => by
  rcases (owns_cap (a := vM.a) (n' := vM.n) (cap := vM.cap) hM).2.2.2 with ⟨_, h1, h2⟩ | ⟨g, h1, _⟩
  ·exact ⟨by rw [hMn]; exact h1, h2⟩
  ·rw [e] at h1; cases h1
 have hMn' : vM.n = B.length := hMn
 clear hM hMs hMn hb2 d0 d1 d2 d3 d4 d5 d6 d7
 obtain ⟨Ma, Mn, Mc⟩ := vM
 simp only at hMn' HMS HMN
 subst hMn'
 go_wp2_with (at_builtin; refine wp_appendV (by rfl) (.tmp 19) (.tmp 24) 67 (by rfl) w.heap.size 9 _ 1 16 Try.underlying67 Try.infoStr rfl (by decide) (.slice vL.a vL.n vL.cap) A.length (A.map strV) (by rfl) HL2'.out Ma B.length Mc (B.map strV) (by rfl) (by simp) HMS.out HMN.out (str_one _) (by have := HL1.out.1; have := HL2.out.1; unfold maxLen; omega) (by have := HL1.out.1; have := HL2.out.1; omega) HB2.out.size ?_; intro v13 w13 ho13 hf13 hat13; obtain ⟨a13, c13, hv13, _⟩ := owns_form ho13; subst hv13; have HB13 : Hid (Below w.heap.size w w13) := HB2.out.trans (hf13.below HB2.out.size (fun k hk => (World.ownsRow.lt HL2'.out k hk).1)); have HO13 : Hid (StrO w13 w.heap.size ⟨a13, A.length + B.length, c13⟩ (A ++ B)) := by { unfold Hid StrO; rw [List.map_append, List.length_append]; exact ho13 }; clear ho13 hf13 hat13)
 have HMT : Hid (Calls _ _ _ _ _) := met_any ⟨a13, A.length + B.length, c13⟩ (A ++ B) w13 (SlV.ofOwn (s := ⟨a13, A.length + B.length, c13⟩) HO13.out).1 (by simp) (by have := HL1.out.1; have := HL2.out.1; simp; omega) (fun t ht => by
  rcases List.mem_append.1 ht with ht | ht
  ·exact HL1.out.2 t ht
  ·exact HL2.out.2 t ht)
 unfold SlR.val at HMT
 refine HMT.out.mono ?_
 rintro r w14 ⟨hres, hb14⟩
 have HB14 : Hid (Below w.heap.size w w14) := HB13.out.trans (hb14.mono HB13.out.size)
 rcases hres with rfl | ⟨rfl, hno⟩
 ·go_wp2
  go_ret
  exact ⟨Or.inl rfl, HB14.out⟩
 ·have HNO : Hid (¬ Met A B) := hno.met
  clear hno
  go_wp2
  go_ret
  exact ⟨Or.inr ⟨rfl, HNO.out⟩, HB14.out⟩
end Go.Proofs.Ytekegfbjbainhaa


namespace Go.Proofs.Ytekegfbjbainhaa
open Go.RowKit
attribute [local go_sem ↓] Go.wp_at_zero Go.wp_at_succ
set_option maxRecDepth 100000 in
set_option maxHeartbeats 4000000 in
theorem extd_lo (l : List (List UInt8)) (b o cap : Nat) (m : Nat) (own : Bool) (LR : List (List UInt8)) (w : World) (h2 : 2 ≤ l.length) (h40 : l.length ≤ 40) (hcap : l.length ≤ cap) (hc : cap ≤ 9223372036854775807) (hs : SlD w (some ⟨b, o, none⟩) l) (hm : m ≤ halfN l.length) (hLR : LR.length ≤ 100)
  (hIH : ∀ W, Below w.heap.size w W → Calls Try.prog 68 #[.slice (some ⟨b, o, none⟩) (halfN l.length) cap, .int .i64 (m : Int), .bool own] W (pathPost W LR)) :
  Calls Try.prog 68 #[.slice (some ⟨b, o, none⟩) l.length cap, .int .i64 (m : Int), .bool own] w (pathPost w (LR ++ [sumF 42 (l.drop (halfN l.length))])) := by
 have hhb := halfN_bd l.length h2
 obtain ⟨d0, d1, d2, d3, d4, d5, d6, d7, hdd⟩ := list8 (sumF 42 (l.drop (halfN l.length))) (sumF_length 41 _)
 have HHF : Hid (∀ w : World, Calls Try.prog 66 #[.int .i64 (l.length : Int)] w fun e w' => e = .returned (.int .i64 (halfN l.length : Int)) ∧ w' = w) := fun w => first_all _ _ (by omega) (by omega)
 have HSM : Hid (∀ W, Below w.heap.size w W → Calls Try.prog 67 #[.slice (some ⟨b, o + halfN l.length * 8, none⟩) (l.length - halfN l.length) (cap - halfN l.length)] W fun e w' => e = .returned (dV [d0, d1, d2, d3, d4, d5, d6, d7]) ∧ Below W.heap.size W w') := fun W hW => by
  rw [← hdd]
  have h := sumP_any 42 (l.drop (halfN l.length)) (some ⟨b, o + halfN l.length * 8, none⟩) (cap - halfN l.length) W (by simp; omega) (by simp; omega) (by simp; omega) (by omega) ((hs.below hW).drop _ (by omega))
  rw [List.length_drop] at h
  exact h
 rw [hdd]
 have HIH : Hid (∀ W, Below w.heap.size w W → Calls Try.prog 68 #[.slice (some ⟨b, o, none⟩) (halfN l.length) cap, .int .i64 (m : Int), .bool own] W (pathPost W LR)) := hIH
 have HV : Hid (dV [d0, d1, d2, d3, d4, d5, d6, d7] = .agg #[Value.int .u8 (d0.toNat : Int), Value.int .u8 (d1.toNat : Int), Value.int .u8 (d2.toNat : Int), Value.int .u8 (d3.toNat : Int), Value.int .u8 (d4.toNat : Int), Value.int .u8 (d5.toNat : Int), Value.int .u8 (d6.toNat : Int), Value.int .u8 (d7.toNat : Int)]) := rfl
 have HLR : Hid (LR.length ≤ 100) := hLR
 generalize halfN l.length = k at *
 clear hIH hdd hs
 generalize l.length = n at *
 have hnI : (n : Int) ≤ 40 := by omega
 have hn2 : (2 : Int) ≤ n := by omega
 have hk1 : (1 : Int) ≤ k := by omega
 have hkn : (k : Int) < n := by omega
 have hcI : (cap : Int) ≤ 9223372036854775807 := by omega
 have hncI : (n : Int) ≤ cap := by omega
 have hkc : ¬ cap = k := by omega
 have hk0 : (0 : Int) ≤ k := by omega
 have hkcap : (k : Int) ≤ cap := by omega
 have hkn' : (k : Int) ≤ n := by omega
 have hn0 : (0 : Int) ≤ n := by omega
 have hwk : IntKind.i64.wrap (k : Int) = (k : Int) := Go.IntWalk.i64_in _ ⟨by omega, by omega⟩
 have hmn : ((m : Int) == (n : Int)) = false := by rw [Bool.eq_false_iff]; simp only [ne_eq, beq_iff_eq]; omega
 have hmN : (m : Int) ≤ 40 := by omega
 have hmI : (m : Int) ≤ k := by omega
 go_enter Try.func68, Try.ntmps68
 go_wp2_with fail
 refine (HHF.out _).mono ?_
 rintro v w1 ⟨rfl, hw1⟩
 obtain rfl : w = w1 := hw1.symm
 clear hw1
 go_wp2
 go_region_held3 (fun _ => True) (trivial)
  ((first
   | (go_at_call 68; refine (HIH.out _ (by repeat' (first | (with_reducible exact Below.refl _ _) | (with_reducible refine Below.drew ?_)))).mono ?_; rintro v w2 hp2; unfold pathPost at hp2; obtain ⟨s2, rfl, ho2, hb2⟩ := hp2; have HB2 : Hid (Below w.heap.size w w2) := ⟨hb2.os, hb2.tape, hb2.output, hb2.size, hb2.block⟩)
   | (go_at_call 67; refine (HSM.out _ (by exact HB2.out)).mono ?_; rintro v w3 ⟨rfl, hb3⟩; rw [HV.out]; have HB3 : Hid (Below w.heap.size w w3) := HB2.out.trans (hb3.mono HB2.out.size); have HO3 : Hid (w3.ownsRow w.heap.size 45 8 (.slice s2.a s2.n s2.cap) LR.length (digsC LR)) := owns_below ho2 hb3)
   | (refine step_appendV (by rfl) (.tmp 27) (.tmp 32) 73 (by rfl) w.heap.size 45 _ 8 8 Try.underlying73 Try.infoDigP rfl (by decide) (.slice s2.a s2.n s2.cap) LR.length (digsC LR) (by rfl) (HO3.out.alloc (.cells #[Value.int .u8 (d0.toNat : Int), Value.int .u8 (d1.toNat : Int), Value.int .u8 (d2.toNat : Int), Value.int .u8 (d3.toNat : Int), Value.int .u8 (d4.toNat : Int), Value.int .u8 (d5.toNat : Int), Value.int .u8 (d6.toNat : Int), Value.int .u8 (d7.toNat : Int)] 45)) ⟨w3.heap.size, 0, none⟩ 1 1 ([d0, d1, d2, d3, d4, d5, d6, d7].map u8c) (by rfl) rfl (SlV.alloc_new w3 ([d0, d1, d2, d3, d4, d5, d6, d7].map u8c) 45) (u8c_one _) (by have := HLR.out; unfold maxLen; omega) (by have := HLR.out; omega) (by have := HB3.out.size; simp; omega) ?_; intro a4 n4 c4 w4 ho4 hf4 hat4)
   | fail))
 all_goals
  have HO4 : Hid (w4.ownsRow w.heap.size 45 8 (.slice a4 n4 c4) (LR ++ [[d0, d1, d2, d3, d4, d5, d6, d7]]).length (digsC (LR ++ [[d0, d1, d2, d3, d4, d5, d6, d7]]))) := by
   rw [digsC_snoc, List.length_append]
   exact ho4
  have HB4 : Hid (Below w.heap.size w w4) := (HB3.out.alloc HB3.out.size _).trans (hf4.below (by have := HB3.out.size; simp; omega) (fun q hq => (HO3.out.lt q hq).1))
  clear ho4 hf4 hat4 ho2 hb2 hb3
  go_wp2
  go_returns
  exact ⟨⟨a4, n4, c4⟩, rfl, HO4.out, HB4.out⟩
set_option maxRecDepth 100000 in
set_option maxHeartbeats 4000000 in
theorem extd_hi (l : List (List UInt8)) (b o cap : Nat) (m : Nat) (own : Bool) (LR : List (List UInt8)) (w : World) (h2 : 2 ≤ l.length) (h40 : l.length ≤ 40) (hcap : l.length ≤ cap) (hc : cap ≤ 9223372036854775807) (hs : SlD w (some ⟨b, o, none⟩) l) (hm : halfN l.length < m) (hm2 : m < l.length) (hLR : LR.length ≤ 100)
  (hIH : ∀ W, Below w.heap.size w W → Calls Try.prog 68 #[.slice (some ⟨b, o + halfN l.length * 8, none⟩) (l.length - halfN l.length) (cap - halfN l.length), .int .i64 ((m - halfN l.length : Nat) : Int), .bool false] W (pathPost W LR)) :
  Calls Try.prog 68 #[.slice (some ⟨b, o, none⟩) l.length cap, .int .i64 (m : Int), .bool own] w (pathPost w (LR ++ [sumF 42 (l.take (halfN l.length))])) := by
 have hhb := halfN_bd l.length h2
 obtain ⟨d0, d1, d2, d3, d4, d5, d6, d7, hdd⟩ := list8 (sumF 42 (l.take (halfN l.length))) (sumF_length 41 _)
 have HHF : Hid (∀ w : World, Calls Try.prog 66 #[.int .i64 (l.length : Int)] w fun e w' => e = .returned (.int .i64 (halfN l.length : Int)) ∧ w' = w) := fun w => first_all _ _ (by omega) (by omega)
 have HSM : Hid (∀ W, Below w.heap.size w W → Calls Try.prog 67 #[.slice (some ⟨b, o, none⟩) (halfN l.length) cap] W fun e w' => e = .returned (dV [d0, d1, d2, d3, d4, d5, d6, d7]) ∧ Below W.heap.size W w') := fun W hW => by
  rw [← hdd]
  have h := sumP_any 42 (l.take (halfN l.length)) (some ⟨b, o, none⟩) cap W (by simp; omega) (by simp; omega) (by simp; omega) (by omega) ((hs.below hW).take _ (by omega))
  rw [List.length_take, Nat.min_eq_left (by omega)] at h
  exact h
 rw [hdd]
 have HIH : Hid (∀ W, Below w.heap.size w W → Calls Try.prog 68 #[.slice (some ⟨b, o + halfN l.length * 8, none⟩) (l.length - halfN l.length) (cap - halfN l.length), .int .i64 ((m - halfN l.length : Nat) : Int), .bool false] W (pathPost W LR)) := hIH
 have HV : Hid (dV [d0, d1, d2, d3, d4, d5, d6, d7] = .agg #[Value.int .u8 (d0.toNat : Int), Value.int .u8 (d1.toNat : Int), Value.int .u8 (d2.toNat : Int), Value.int .u8 (d3.toNat : Int), Value.int .u8 (d4.toNat : Int), Value.int .u8 (d5.toNat : Int), Value.int .u8 (d6.toNat : Int), Value.int .u8 (d7.toNat : Int)]) := rfl
 have HLR : Hid (LR.length ≤ 100) := hLR
 generalize halfN l.length = k at *
 clear hIH hdd hs
 generalize l.length = n at *
 have hnI : (n : Int) ≤ 40 := by omega
 have hn2 : (2 : Int) ≤ n := by omega
 have hk1 : (1 : Int) ≤ k := by omega
 have hkn : (k : Int) < n := by omega
 have hcI : (cap : Int) ≤ 9223372036854775807 := by omega
 have hncI : (n : Int) ≤ cap := by omega
 have hkc : ¬ cap = k := by omega
 have hk0 : (0 : Int) ≤ k := by omega
 have hkcap : (k : Int) ≤ cap := by omega
 have hkn' : (k : Int) ≤ n := by omega
 have hn0 : (0 : Int) ≤ n := by omega
 have hwk : IntKind.i64.wrap (k : Int) = (k : Int) := Go.IntWalk.i64_in _ ⟨by omega, by omega⟩
 have hmn : ((m : Int) == (n : Int)) = false := by rw [Bool.eq_false_iff]; simp only [ne_eq, beq_iff_eq]; omega
 have hmN : (m : Int) ≤ 40 := by omega
 have hmI : ¬ (m : Int) ≤ k := by omega
 have hmk : (m : Int) - k = ((m - k : Nat) : Int) := by omega
 generalize hqq : (m - k : Nat) = mk at *
 have hwe : IntKind.i64.wrap (mk : Int) = (mk : Int) := Go.IntWalk.i64_in _ ⟨by omega, by omega⟩
 have hwd : IntKind.i64.wrap ((m : Int) - (k : Int)) = (mk : Int) := by rw [hmk]; exact hwe
 clear hqq
 go_enter Try.func68, Try.ntmps68
 go_wp2_with fail
 refine (HHF.out _).mono ?_
 rintro v w1 ⟨rfl, hw1⟩
 obtain rfl : w = w1 := hw1.symm
 clear hw1
 go_wp2
 go_region_held3 (fun _ => True) (trivial)
  ((first
   | (go_at_call 68; refine (HIH.out _ (by repeat' (first | (with_reducible exact Below.refl _ _) | (with_reducible refine Below.drew ?_)))).mono ?_; rintro v w2 hp2; unfold pathPost at hp2; obtain ⟨s2, rfl, ho2, hb2⟩ := hp2; have HB2 : Hid (Below w.heap.size w w2) := ⟨hb2.os, hb2.tape, hb2.output, hb2.size, hb2.block⟩)
   | (go_at_call 67; refine (HSM.out _ (by exact HB2.out)).mono ?_; rintro v w3 ⟨rfl, hb3⟩; rw [HV.out]; have HB3 : Hid (Below w.heap.size w w3) := HB2.out.trans (hb3.mono HB2.out.size); have HO3 : Hid (w3.ownsRow w.heap.size 45 8 (.slice s2.a s2.n s2.cap) LR.length (digsC LR)) := owns_below ho2 hb3)
   | (refine step_appendV (by rfl) (.tmp 40) (.tmp 45) 73 (by rfl) w.heap.size 45 _ 8 8 Try.underlying73 Try.infoDigP rfl (by decide) (.slice s2.a s2.n s2.cap) LR.length (digsC LR) (by rfl) (HO3.out.alloc (.cells #[Value.int .u8 (d0.toNat : Int), Value.int .u8 (d1.toNat : Int), Value.int .u8 (d2.toNat : Int), Value.int .u8 (d3.toNat : Int), Value.int .u8 (d4.toNat : Int), Value.int .u8 (d5.toNat : Int), Value.int .u8 (d6.toNat : Int), Value.int .u8 (d7.toNat : Int)] 45)) ⟨w3.heap.size, 0, none⟩ 1 1 ([d0, d1, d2, d3, d4, d5, d6, d7].map u8c) (by rfl) rfl (SlV.alloc_new w3 ([d0, d1, d2, d3, d4, d5, d6, d7].map u8c) 45) (u8c_one _) (by have := HLR.out; unfold maxLen; omega) (by have := HLR.out; omega) (by have := HB3.out.size; simp; omega) ?_; intro a4 n4 c4 w4 ho4 hf4 hat4)
   | fail))
 all_goals
  have HO4 : Hid (w4.ownsRow w.heap.size 45 8 (.slice a4 n4 c4) (LR ++ [[d0, d1, d2, d3, d4, d5, d6, d7]]).length (digsC (LR ++ [[d0, d1, d2, d3, d4, d5, d6, d7]]))) := by
   rw [digsC_snoc, List.length_append]
   exact ho4
  have HB4 : Hid (Below w.heap.size w w4) := (HB3.out.alloc HB3.out.size _).trans (hf4.below (by have := HB3.out.size; simp; omega) (fun q hq => (HO3.out.lt q hq).1))
  clear ho4 hf4 hat4 ho2 hb2 hb3
  go_wp2
  go_returns
  exact ⟨⟨a4, n4, c4⟩, rfl, HO4.out, HB4.out⟩
end Go.Proofs.Ytekegfbjbainhaa


namespace Go.Proofs.Ytekegfbjbainhaa
open Go.RowKit
attribute [local go_sem ↓] Go.wp_at_zero Go.wp_at_succ
theorem pathPost.nil (w : World) : pathPost w [] (.returned (.slice none 0 0)) w := ⟨⟨none, 0, 0⟩, rfl, World.ownsRow_nil _ _ _ _, Below.refl _ _⟩
theorem SlD.adr {w : World} {a : Option Addr} {l : List (List UInt8)} (h : SlD w a l) (hl : 1 ≤ l.length) : ∃ b o, a = some ⟨b, o, none⟩ := by
 cases l with
 | nil => simp at hl
 | cons x l =>
  obtain ⟨b, o, ha, _⟩ := h.1 0 (by rw [digsC_length _ h.2]; simp)
  exact ⟨b, o, ha⟩
theorem owns_new8 (w : World) (base : Nat) (d : List UInt8) (hd : d.length = 8) (hb : base ≤ w.heap.size) : (w.alloc (.cells (d.map u8c).toArray 45)).ownsRow base 45 8 (.slice (some ⟨w.heap.size, 0, none⟩) 1 1) 1 (digsC [d]) := by
 have e : digsC [d] = d.map u8c := by simp [digsC]
 rw [e]
 exact owns_built w base 45 8 1 (d.map u8c) hb (by simp [hd]) (by unfold maxLen; omega)
set_option maxRecDepth 100000 in
theorem incl_one (e : Int) (a : Option Addr) (cap : Nat) (w : World) : Calls Try.prog 46 #[.slice a 1 cap, .int .i64 e] w (pathPost w []) := by
 go_enter Try.func46, Try.ntmps46
 go_wp2
 go_returns
 exact pathPost.nil w
theorem incl_any : ∀ (f e : Nat) (l : List (List UInt8)) (a : Option Addr) (cap : Nat) (w : World), l.length < f → f ≤ 100 → l.length ≤ 40 → l.length ≤ cap → cap ≤ 9223372036854775807 → SlD w a l → e < l.length →
  Calls Try.prog 46 #[.slice a l.length cap, .int .i64 (e : Int)] w (pathPost w (pathF f e l))
 | 0, e, l, a, cap, w, h0, _, _, _, _, _, _ => absurd h0 (Nat.not_lt_zero _)
 | f + 1, e, l, a, cap, w, h0, hf, h40, hcap, hc, hs, he => by
  unfold pathF
  by_cases h1 : l.length ≤ 1
  ·rw [if_pos h1, show l.length = 1 by omega]
   exact incl_one e a cap w
  rw [if_neg h1]
  have hhb := halfN_bd l.length (by omega)
  obtain ⟨b, o, rfl⟩ := hs.adr (by omega)
  by_cases hk : e < halfN l.length
  ·rw [if_pos hk]
   refine incl_lo l b o cap e _ w (by omega) h40 hcap hc hs hk (Nat.le_trans (pathF_len f _ _) (by omega)) (fun W hW => ?_)
   have h := incl_any f e (l.take (halfN l.length)) (some ⟨b, o, none⟩) cap W (by rw [List.length_take]; omega) (by omega) (by rw [List.length_take]; omega) (by rw [List.length_take]; omega) hc ((hs.below hW).take _ (by omega)) (by rw [List.length_take]; omega)
   rw [List.length_take, Nat.min_eq_left (by omega)] at h
   exact h
  ·rw [if_neg hk]
   refine incl_hi l b o cap e _ w (by omega) h40 hcap hc hs (by omega) he (Nat.le_trans (pathF_len f _ _) (by omega)) (fun W hW => ?_)
   have h := incl_any f (e - halfN l.length) (l.drop (halfN l.length)) (some ⟨b, o + halfN l.length * 8, none⟩) (cap - halfN l.length) W (by rw [List.length_drop]; omega) (by omega) (by rw [List.length_drop]; omega) (by rw [List.length_drop]; omega) (by omega) ((hs.below hW).drop _ (by omega)) (by rw [List.length_drop]; omega)
   rw [List.length_drop] at h
   exact h
set_option maxRecDepth 100000 in
theorem extd_own (n : Nat) (a : Option Addr) (cap : Nat) (w : World) (hn : n ≤ 40) : Calls Try.prog 68 #[.slice a n cap, .int .i64 (n : Int), .bool true] w (pathPost w []) := by
 have hnI : (n : Int) ≤ 40 := by omega
 go_enter Try.func68, Try.ntmps68
 go_wp2
 go_returns
 exact pathPost.nil w
set_option maxRecDepth 100000 in
theorem extd_sum (l : List (List UInt8)) (a : Option Addr) (cap : Nat) (w : World) (h40 : l.length ≤ 40) (hcap : l.length ≤ cap) (hc : cap ≤ 9223372036854775807) (hs : SlD w a l) : Calls Try.prog 68 #[.slice a l.length cap, .int .i64 (l.length : Int), .bool false] w (pathPost w [sumF 42 l]) := by
 have hnI : (l.length : Int) ≤ 40 := by omega
 obtain ⟨d0, d1, d2, d3, d4, d5, d6, d7, hdd⟩ := list8 (sumF 42 l) (sumF_length 41 _)
 have HSM : Hid (Calls _ _ _ _ _) := sumP_any 42 l a cap w (by omega) (by omega) hcap hc hs
 rw [hdd] at HSM ⊢
 have HV : Hid (dV [d0, d1, d2, d3, d4, d5, d6, d7] = .agg #[Value.int .u8 (d0.toNat : Int), Value.int .u8 (d1.toNat : Int), Value.int .u8 (d2.toNat : Int), Value.int .u8 (d3.toNat : Int), Value.int .u8 (d4.toNat : Int), Value.int .u8 (d5.toNat : Int), Value.int .u8 (d6.toNat : Int), Value.int .u8 (d7.toNat : Int)]) := rfl
 clear hs hdd
 go_enter Try.func68, Try.ntmps68
 go_wp2_with fail
 refine HSM.out.mono ?_
 rintro v w1 ⟨rfl, hb1⟩
 rw [HV.out]
 have HO : Hid ((w1.alloc (.cells #[Value.int .u8 (d0.toNat : Int), Value.int .u8 (d1.toNat : Int), Value.int .u8 (d2.toNat : Int), Value.int .u8 (d3.toNat : Int), Value.int .u8 (d4.toNat : Int), Value.int .u8 (d5.toNat : Int), Value.int .u8 (d6.toNat : Int), Value.int .u8 (d7.toNat : Int)] 45)).ownsRow w.heap.size 45 8 (.slice (some ⟨w1.heap.size, 0, none⟩) 1 1) 1 (digsC [[d0, d1, d2, d3, d4, d5, d6, d7]])) := owns_new8 w1 w.heap.size [d0, d1, d2, d3, d4, d5, d6, d7] rfl hb1.size
 have HB : Hid (Below w.heap.size w (w1.alloc (.cells #[Value.int .u8 (d0.toNat : Int), Value.int .u8 (d1.toNat : Int), Value.int .u8 (d2.toNat : Int), Value.int .u8 (d3.toNat : Int), Value.int .u8 (d4.toNat : Int), Value.int .u8 (d5.toNat : Int), Value.int .u8 (d6.toNat : Int), Value.int .u8 (d7.toNat : Int)] 45))) := hb1.alloc hb1.size _
 clear hb1
 go_wp2
 go_returns
 exact ⟨⟨some ⟨w1.heap.size, 0, none⟩, 1, 1⟩, rfl, HO.out, HB.out⟩
theorem extd_any : ∀ (f m : Nat) (l : List (List UInt8)) (own : Bool) (a : Option Addr) (cap : Nat) (w : World), l.length < f → f ≤ 100 → l.length ≤ 40 → l.length ≤ cap → cap ≤ 9223372036854775807 → SlD w a l → 1 ≤ m → m ≤ l.length →
  Calls Try.prog 68 #[.slice a l.length cap, .int .i64 (m : Int), .bool own] w (pathPost w (extL f m l own))
 | 0, m, l, own, a, cap, w, h0, _, _, _, _, _, _, _ => absurd h0 (Nat.not_lt_zero _)
 | f + 1, m, l, own, a, cap, w, h0, hf, h40, hcap, hc, hs, h1, h2 => by
  unfold extL
  by_cases hm : m = l.length
  ·rw [if_pos hm, hm]
   cases own
   ·exact extd_sum l a cap w h40 hcap hc hs
   ·exact extd_own l.length a cap w h40
  rw [if_neg hm]
  have hhb := halfN_bd l.length (by omega)
  obtain ⟨b, o, rfl⟩ := hs.adr (by omega)
  by_cases hk : m ≤ halfN l.length
  ·rw [if_pos hk]
   refine extd_lo l b o cap m own _ w (by omega) h40 hcap hc hs hk (Nat.le_trans (extL_len f _ _ _) (by omega)) (fun W hW => ?_)
   have h := extd_any f m (l.take (halfN l.length)) own (some ⟨b, o, none⟩) cap W (by rw [List.length_take]; omega) (by omega) (by rw [List.length_take]; omega) (by rw [List.length_take]; omega) hc ((hs.below hW).take _ (by omega)) h1 (by rw [List.length_take]; omega)
   rw [List.length_take, Nat.min_eq_left (by omega)] at h
   exact h
  ·rw [if_neg hk]
   refine extd_hi l b o cap m own _ w (by omega) h40 hcap hc hs (by omega) (by omega) (Nat.le_trans (extL_len f _ _ _) (by omega)) (fun W hW => ?_)
   have h := extd_any f (m - halfN l.length) (l.drop (halfN l.length)) false (some ⟨b, o + halfN l.length * 8, none⟩) (cap - halfN l.length) W (by rw [List.length_drop]; omega) (by omega) (by rw [List.length_drop]; omega) (by rw [List.length_drop]; omega) (by omega) ((hs.below hW).drop _ (by omega)) (by omega) (by rw [List.length_drop]; omega)
   rw [List.length_drop] at h
   exact h
end Go.Proofs.Ytekegfbjbainhaa


namespace Go.Proofs.Ytekegfbjbainhaa
open Go.RowKit
attribute [local go_sem ↓] Go.wp_at_zero Go.wp_at_succ
def incS (rl : List (List UInt8)) (e n : Int) : List (List UInt8) × Int := if n < 1 ∨ (rl.length : Int) < n ∨ e < 0 ∨ n ≤ e then ([], 4) else (pathF 42 e.toNat (rl.take n.toNat), 0)
def extS (rl : List (List UInt8)) (m n : Int) : List (List UInt8) × Int := if n < 0 ∨ (rl.length : Int) < n ∨ m < 0 ∨ n < m then ([], 4) else if m = 0 then ([], 0) else (extL 42 m.toNat (rl.take n.toNat) true, 0)
def logPost (W : World) (q : List (List UInt8) × Int) (v : Ending) (w' : World) : Prop := ∃ s : SlR, v = .returned (.tuple #[.slice s.a s.n s.cap, .int .i64 q.2]) ∧ w'.ownsRow W.heap.size 45 8 (.slice s.a s.n s.cap) q.1.length (digsC q.1) ∧ Below W.heap.size W w'
theorem logPost.nope (w : World) (e : Int) : logPost w ([], e) (.returned (.tuple #[.slice none 0 0, .int .i64 e])) w := ⟨⟨none, 0, 0⟩, rfl, World.ownsRow_nil _ _ _ _, Below.refl _ _⟩
theorem incS_8 (rl : List (List UInt8)) (e n : Int) : (∀ d ∈ (incS rl e n).1, d.length = 8) ∧ (incS rl e n).1.length ≤ 42 := by
 unfold incS
 split
 ·exact ⟨fun d hd => (by cases hd), by simp⟩
 ·exact ⟨pathF_8 _ _ _, pathF_len _ _ _⟩
theorem extS_8 (rl : List (List UInt8)) (m n : Int) : (∀ d ∈ (extS rl m n).1, d.length = 8) ∧ (extS rl m n).1.length ≤ 42 := by
 unfold extS
 split
 ·exact ⟨fun d hd => (by cases hd), by simp⟩
 ·split
  ·exact ⟨fun d hd => (by cases hd), by simp⟩
  ·exact ⟨extL_8 _ _ _ _, extL_len _ _ _ _⟩
end Go.Proofs.Ytekegfbjbainhaa
