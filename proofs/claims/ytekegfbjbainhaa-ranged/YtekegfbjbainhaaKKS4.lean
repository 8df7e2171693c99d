
import Derived.Test.YtekegfbjbainhaaKJoin27
import Derived.Deep.DeepCutAuto
import Derived.Deep.CutBlock
import Derived.Deep.RegionHeld3
import Derived.Deep.RegionWith
import Derived.OpenShut
set_option linter.unusedVariables false
set_option linter.unusedSimpArgs false
namespace Go.Proofs.Ytekegfbjbainhaa
open Go.RowKit
attribute [local go_sem ↓] Go.wp_at_zero Go.wp_at_succ
set_option maxRecDepth 100000 in
set_option maxHeartbeats 8000000 in
theorem bent_any (sp sq : SlR) (p q : List UInt8) (ta : Option Addr) (tn tc : Nat) (f : Nat → TurnR) (w : World) (hp : BS w sp p) (hq : BS w sq q) (hqc : sq.n ≤ sq.cap) (hpl : p.length ≤ 1000000) (hql : q.length ≤ 1000000) (ht : TurnsAt w ta tn f) (htn : tn ≤ 9223372036854775807) :
  Calls Try.prog 23 #[sp.val, sq.val, .slice ta tn tc] w fun e w' => ∃ (v : SlR) (b : List UInt8), e = .returned v.val ∧ OwnB w' w.heap.size v.val b ∧ b.length ≤ 100000000 ∧ Below w.heap.size w w' := by
 have HQ : Hid (BS w sq q ∧ sq.n ≤ sq.cap) := ⟨hq, hqc⟩
 have HT : Hid (TurnsAt w ta tn f) := ht
 have htnI : (tn : Int) ≤ 9223372036854775807 := by omega
 have hpn : sp.n = p.length := hp.n
 have hqn : sq.n = q.length := hq.n
 obtain ⟨pa, pn, pc⟩ := sp
 obtain ⟨qa, qn, qc⟩ := sq
 simp only at hpn hqn
 subst hpn hqn
 obtain ⟨Z, hZ, hmk⟩ := bytes_make p.length (by omega)
 have hcp := bytes_copy w ⟨pa, p.length, pc⟩ p Z hZ hp
 simp only at hcp
 have HB1 : Hid (BentSt w p.length q.length 0 ⟨some ⟨w.heap.size, 0, none⟩, p.length, p.length⟩ p (w.alloc (.cells (p.map u8c).toArray 5))) := by
  refine ⟨?_, Nat.le_add_right _ _, (Below.refl _ _).alloc (Nat.le_refl _) _⟩
  have h := owns_built w w.heap.size 5 1 p.length (p.map u8c) (Nat.le_refl _) (by simp) (by unfold maxLen; omega)
  exact h
 have hplI : (p.length : Int) ≤ 1000000 := by omega
 have hqlI : (q.length : Int) ≤ 1000000 := by omega
 have HI : Hid ((Try.prog.info? 5).map (·.size) = some 1) := by unfold Hid; kernel_rfl
 have HPL : Hid (p.length ≤ 1000000 ∧ q.length ≤ 1000000) := ⟨hpl, hql⟩
 clear hp hq hqc ht hZ
 unfold SlR.val
 go_enter Try.func23, Try.ntmps23
 go_wp2
 go_loopw [7, 8] (fun bv iv wr => ∃ (i : Nat) (v : SlR) (b : List UInt8), i ≤ 20 ∧ i ≤ tn ∧ iv = .int .i64 (i : Int) ∧ bv = .slice v.a v.n v.cap ∧ Hid (BentSt w p.length q.length i v b wr)) (fun _ iv _ => 20 - (intOf iv).toNat)
 case atStart => exact ⟨0, ⟨some ⟨w.heap.size, 0, none⟩, p.length, p.length⟩, p, by omega, by omega, rfl, rfl, HB1⟩
 case round =>
  obtain ⟨i, v, b, hi20, hit, rfl, rfl, HB⟩ := hrel
  have HLB : Hid (b.length ≤ 25000000) := by
   have h1 := HB.out.2.1
   have h2 := HPL.out
   have h3 : i * (q.length + 70000) ≤ 20 * 1070000 := Nat.mul_le_mul hi20 (by omega)
   unfold Hid; omega
  by_cases hlt : i < tn
  ·have hltI : (i : Int) < tn := by omega
   by_cases h20 : i < 20
   ·have h20I : (i : Int) < 20 := by omega
    obtain ⟨tb, to_, rfl, htb, hrg, hk1, hk2, hk3⟩ := HT.out i hlt
    have hvn : v.n = b.length := (ownB_bs HB.out.1).1.n
    obtain ⟨va, vn, vc⟩ := v
    simp only at hvn
    subst hvn
    have hvc : b.length ≤ vc := (ownB_bs HB.out.1).2
    have hbI : (b.length : Int) ≤ 25000000 := by have := HLB.out; omega
    have HBb : Hid (Below w.heap.size w wr) := HB.out.2.2
    have t0 : wr.cell? ⟨tb, to_ + i * 3, none⟩ = some (.int .i64 (f i).kind) := (HBb.out.cell (p := ⟨tb, to_ + i * 3, none⟩) htb).trans (hrg 0 _ rfl)
    have t1 : wr.cell? ⟨tb, to_ + i * 3 + 1, none⟩ = some (.int .i64 (f i).place) := (HBb.out.cell (p := ⟨tb, to_ + i * 3 + 1, none⟩) htb).trans (hrg 1 _ rfl)
    have t2 : wr.cell? ⟨tb, to_ + i * 3 + 2, none⟩ = some (.int .i64 (f i).dif) := (HBb.out.cell (p := ⟨tb, to_ + i * 3 + 2, none⟩) htb).trans (hrg 2 _ rfl)
    clear hrg
    generalize f i = tr at *
    obtain ⟨kd, pl, df⟩ := tr
    simp only at t0 t1 t2 hk1 hk2 hk3
    go_wp2_with fail
    have HT1 : Hid (RowV (wr.alloc (.cells #[.int .i64 kd, .int .i64 pl, .int .i64 df] 108)) wr.heap.size 108 [.int .i64 kd, .int .i64 pl, .int .i64 df]) := RowV.new wr _ _
    have HA1 : Hid (Below wr.heap.size wr (wr.alloc (.cells #[.int .i64 kd, .int .i64 pl, .int .i64 df] 108))) := (Below.refl _ _).alloc (Nat.le_refl _) _
    have hpk : Calls Try.prog 10 #[.int .i64 pl, .int .i64 ((b.length : Int) + 1)] (wr.alloc (.cells #[.int .i64 kd, .int .i64 pl, .int .i64 df] 108)) _ := pick_any pl (b.length + 1) (wr.alloc (.cells #[.int .i64 kd, .int .i64 pl, .int .i64 df] 108)) hk2.1 hk2.2 (by omega) (by unfold maxLen; omega)
    refine hpk.mono ?_
    rintro r w2 ⟨rfl, rfl⟩
    have hn1 : pickN pl (b.length + 1) ≤ b.length := by have := pickN_lt pl (b.length + 1) (by omega); omega
    clear hpk t0 t1 t2
    generalize pickN pl (b.length + 1) = n at *
    have hnI : (n : Int) ≤ b.length := by omega
    have HPG : Hid (Calls _ _ _ _ _) := pages_any ⟨va, b.length, vc⟩ b (wr.alloc (.cells #[.int .i64 kd, .int .i64 pl, .int .i64 df] 108)) ((ownB_bs HB.out.1).1.below HA1.out) hvc (by have := HLB.out; omega)
    unfold SlR.val at HPG
    go_wp2_with fail
    refine HPG.out.mono ?_
    rintro r w2 ⟨vL, rfl, hL2, hB2⟩
    have HB2 : Hid (Below wr.heap.size wr w2) := HA1.out.trans (hB2.mono HA1.out.size)
    have HT2 : Hid (RowV w2 wr.heap.size 108 [.int .i64 kd, .int .i64 pl, .int .i64 df]) := RowV.below HT1.out HT1.out.lt hB2
    have HL2 : Hid (StrO w2 0 vL (pagesN b)) := owns_base hL2 (fun _ _ => Nat.zero_le _)
    have HW2 : Hid (Below w.heap.size w w2) := HBb.out.trans (HB2.out.mono HBb.out.size)
    have HPG2 : Hid (Calls _ _ _ _ _) := pages_any ⟨qa, q.length, qc⟩ q w2 (HQ.out.1.below HW2.out) HQ.out.2 (by have := HPL.out; omega)
    unfold SlR.val at HPG2
    clear hL2 hB2 HPG HT1 HA1
    go_wp2_with fail
    refine HPG2.out.mono ?_
    rintro r w3 ⟨vM, rfl, hM3, hB3⟩
    have HB3 : Hid (Below w.heap.size w w3) := HW2.out.trans (hB3.mono HW2.out.size)
    have HT3 : Hid (RowV w3 wr.heap.size 108 [.int .i64 kd, .int .i64 pl, .int .i64 df]) := RowV.below HT2.out HT2.out.lt hB3
    have HL3 : Hid (StrO w3 0 vL (pagesN b)) := owns_below HL2.out hB3
    have HM3 : Hid (StrO w3 0 vM (pagesN q)) := owns_base hM3 (fun _ _ => Nat.zero_le _)
    have HB : Hid (BentSt w p.length q.length i ⟨va, b.length, vc⟩ b wr) := HB
    have HSB : Hid (SubS w3 (fun _ => True) ⟨va, b.length, vc⟩ b) := ⟨(ownB_bs HB.out.1).1.below (HB2.out.trans (hB3.mono HB2.out.size)), hvc, fun _ _ => trivial⟩
    have HSQ : Hid (SubS w3 (fun _ => True) ⟨qa, q.length, qc⟩ q) := ⟨HQ.out.1.below HB3.out, HQ.out.2, fun _ _ => trivial⟩
    have HSS : Hid (sumP (pagesN b) ≤ b.length ∧ ∀ x ∈ pagesN b, x.length ≤ 65535) := pagesN_sum _ b (Nat.le_refl _)
    have HSM : Hid (∀ x ∈ pagesN q, x.length ≤ 65535) := (pagesN_sum _ q (Nat.le_refl _)).2
    have t0 : w3.cell? ⟨wr.heap.size, 0, none⟩ = some (.int .i64 kd) := RowV.cell? HT3.out 0
    clear hM3 hB3 HL2 HB2 HT2 HW2 HPG2
    generalize wr.heap.size = xb at *
    go_wp2_with fail
    refine (pick_any kd 7 _ hk1.1 hk1.2 (by decide) (by decide)).mono ?_
    rintro r w4 ⟨rfl, hw4⟩
    obtain rfl : w3 = w4 := hw4.symm
    clear hw4 t0
    have hq := pickN_lt kd 7 (by decide)
    generalize pickN kd 7 = qk at *
    have HNN : Hid (n ≤ b.length) := hn1
    have HTX : Hid (∀ W, Below w3.heap.size w3 W → W.cell? ⟨xb, 2, none⟩ = some (.int .i64 df) ∧ W.cell? ⟨xb, 1, none⟩ = some (.int .i64 pl)) := fun W hW => ⟨(hW.cell (p := ⟨xb, 2, none⟩) HT3.out.lt).trans (RowV.cell? HT3.out 2), (hW.cell (p := ⟨xb, 1, none⟩) HT3.out.lt).trans (RowV.cell? HT3.out 1)⟩
    by_cases h3 : qk = 3
    ·as_aux_lemma =>
     subst h3
     clear hq
     have HTK := HSB.out.take n HNN.out
     go_wp2_with (first
      | (at_builtin; refine wp_appendB (by rfl) (.tmp 144) (.tmp 147) (by rfl) w3.heap.size (.slice none 0 0) ([]) (by rfl) (OwnB.nil _ _) va n vc (b.take n) (by rfl) HTK.bs.n HTK.bs.sl HTK.bs.nil (by have := HLB.out; have := HPL.out; have := HNN.out; simp; omega) (Below.size (B := w3.heap.size) (Below.refl _ _)) ?_; intro a5 n5 c5 w5 hn5 ho5 hs5 hf5 hat5; have hB5 : Hid (Below w3.heap.size w3 w5) := own_grown (v := .slice none 0 0) (Below.refl _ _) (OwnB.nil _ _) hf5; have HO5 : Hid (OwnB w5 w3.heap.size (.slice a5 n5 c5) ([] ++ b.take n)) := ho5; clear hn5 ho5 hs5 hf5 hat5))
     refine ⟨⟨i + 1, ⟨a5, n5, c5⟩, [] ++ b.take n, by omega, by omega, by go_num, rfl, HB.out.next HB3.out HO5.out hB5.out (by simp; omega)⟩, by simp [intOf]; omega⟩
    ·have h3I : ((qk : Int) == 3) = false := by rw [Bool.eq_false_iff]; simp only [ne_eq, beq_iff_eq]; omega
     by_cases h4 : qk = 4
     ·as_aux_lemma =>
      subst h4
      clear hq h3
      go_wp2_with (first
       | (at_builtin; refine wp_appendB (by rfl) (.tmp 151) (.tmp 152) (by rfl) w3.heap.size (.slice none 0 0) ([]) (by rfl) (OwnB.nil _ _) va b.length vc (b) (by rfl) HSB.out.bs.n HSB.out.bs.sl HSB.out.bs.nil (by have := HLB.out; have := HPL.out; have := HNN.out; simp; omega) (Below.size (B := w3.heap.size) (Below.refl _ _)) ?_; intro a5 n5 c5 w5 hn5 ho5 hs5 hf5 hat5; have hB5 : Hid (Below w3.heap.size w3 w5) := own_grown (v := .slice none 0 0) (Below.refl _ _) (OwnB.nil _ _) hf5; have HO5 : Hid (OwnB w5 w3.heap.size (.slice a5 n5 c5) ([] ++ b)) := ho5; clear hn5 ho5 hs5 hf5 hat5)
       | (at_builtin; refine wp_appendB (by rfl) (.tmp 154) (.tmp 155) (by rfl) w3.heap.size (.slice a5 n5 c5) ([] ++ b) (by rfl) (HO5.out) qa q.length qc (q) (by rfl) (HSQ.out.bs.below hB5.out).n (HSQ.out.bs.below hB5.out).sl (HSQ.out.bs.below hB5.out).nil (by have := HLB.out; have := HPL.out; have := HNN.out; simp; omega) (Below.size (B := w3.heap.size) hB5.out) ?_; intro a6 n6 c6 w6 hn6 ho6 hs6 hf6 hat6; have hB6 : Hid (Below w3.heap.size w3 w6) := own_grown (v := .slice a5 n5 c5) hB5.out (HO5.out) hf6; have HO6 : Hid (OwnB w6 w3.heap.size (.slice a6 n6 c6) ([] ++ b ++ q)) := ho6; clear hn6 ho6 hs6 hf6 hat6))
      refine ⟨⟨i + 1, ⟨a6, n6, c6⟩, [] ++ b ++ q, by omega, by omega, by go_num, rfl, HB.out.next HB3.out HO6.out hB6.out (by simp)⟩, by simp [intOf]; omega⟩
     ·have h4I : ((qk : Int) == 4) = false := by rw [Bool.eq_false_iff]; simp only [ne_eq, beq_iff_eq]; omega
      by_cases h1 : qk = 1
      ·as_aux_lemma =>
       subst h1
       clear hq h3 h4 h3I h4I
       have HTK := HSB.out.take n HNN.out
       by_cases hnb : n < b.length
       ·have hnbI : (n : Int) < b.length := by omega
        have HDR := HSB.out.drop (n + 1) hnb
        go_wp2_with (first
         | (at_builtin; refine wp_appendB (by rfl) (.tmp 109) (.tmp 112) (by rfl) w3.heap.size (.slice none 0 0) ([]) (by rfl) (OwnB.nil _ _) va n vc (b.take n) (by rfl) HTK.bs.n HTK.bs.sl HTK.bs.nil (by have := HLB.out; have := HPL.out; have := HNN.out; simp; omega) (Below.size (B := w3.heap.size) (Below.refl _ _)) ?_; intro a5 n5 c5 w5 hn5 ho5 hs5 hf5 hat5; have hB5 : Hid (Below w3.heap.size w3 w5) := own_grown (v := .slice none 0 0) (Below.refl _ _) (OwnB.nil _ _) hf5; have HO5 : Hid (OwnB w5 w3.heap.size (.slice a5 n5 c5) ([] ++ b.take n)) := ho5; clear hn5 ho5 hs5 hf5 hat5)
         | (refine wp_sliceLo (by rfl) 35 5 (.tmp 119) (.tmp 121) (by rfl) va b.length vc (n + 1) 1 (by rfl) (by rfl) Try.underlying35 HI.out hnb hvc ?_)
         | (at_builtin; refine wp_appendB (by rfl) (.tmp 118) (.tmp 122) (by rfl) w3.heap.size (.slice a5 n5 c5) ([] ++ b.take n) (by rfl) (HO5.out) (cutS va vc (n + 1) 1) (b.length - (n + 1)) (vc - (n + 1)) (b.drop (n + 1)) (by rfl) (HDR.bs.below hB5.out).n (HDR.bs.below hB5.out).sl (HDR.bs.below hB5.out).nil (by have := HLB.out; have := HPL.out; have := HNN.out; simp; omega) (Below.size (B := w3.heap.size) hB5.out) ?_; intro a6 n6 c6 w6 hn6 ho6 hs6 hf6 hat6; have hB6 : Hid (Below w3.heap.size w3 w6) := own_grown (v := .slice a5 n5 c5) hB5.out (HO5.out) hf6; have HO6 : Hid (OwnB w6 w3.heap.size (.slice a6 n6 c6) ([] ++ b.take n ++ b.drop (n + 1))) := ho6; clear hn6 ho6 hs6 hf6 hat6))
        refine ⟨⟨i + 1, ⟨a6, n6, c6⟩, [] ++ b.take n ++ b.drop (n + 1), by omega, by omega, by go_num, rfl, HB.out.next HB3.out HO6.out hB6.out (by simp; omega)⟩, by simp [intOf]; omega⟩
       ·have hnbI : ¬ (n : Int) < b.length := by omega
        go_wp2_with (first
         | (at_builtin; refine wp_appendB (by rfl) (.tmp 109) (.tmp 112) (by rfl) w3.heap.size (.slice none 0 0) ([]) (by rfl) (OwnB.nil _ _) va n vc (b.take n) (by rfl) HTK.bs.n HTK.bs.sl HTK.bs.nil (by have := HLB.out; have := HPL.out; have := HNN.out; simp; omega) (Below.size (B := w3.heap.size) (Below.refl _ _)) ?_; intro a5 n5 c5 w5 hn5 ho5 hs5 hf5 hat5; have hB5 : Hid (Below w3.heap.size w3 w5) := own_grown (v := .slice none 0 0) (Below.refl _ _) (OwnB.nil _ _) hf5; have HO5 : Hid (OwnB w5 w3.heap.size (.slice a5 n5 c5) ([] ++ b.take n)) := ho5; clear hn5 ho5 hs5 hf5 hat5))
        refine ⟨⟨i + 1, ⟨a5, n5, c5⟩, [] ++ b.take n, by omega, by omega, by go_num, rfl, HB.out.next HB3.out HO5.out hB5.out (by simp; omega)⟩, by simp [intOf]; omega⟩
      ·have h1I : ((qk : Int) == 1) = false := by rw [Bool.eq_false_iff]; simp only [ne_eq, beq_iff_eq]; omega
       by_cases h2 : qk = 2
       ·as_aux_lemma =>
        subst h2
        clear hq h3 h4 h1 h3I h4I h1I
        have HTK := HSB.out.take n HNN.out
        have HDR := HSB.out.drop n HNN.out
        obtain ⟨z, hz⟩ : ∃ z : UInt8, (z.toNat : Int) = df % 256 := ⟨UInt8.ofNat (df % 256).toNat, by rw [UInt8.toNat_ofNat']; omega⟩
        have HBZ : Hid (∀ W : World, BS (W.alloc (.cells #[.int .u8 (df % 256)] 5)) ⟨some ⟨W.heap.size, 0, none⟩, 1, 1⟩ [z]) := fun W => by rw [← hz]; exact bs_one W z 5 (0, 0)
        clear hz
        go_wp2_with (first
         | (at_builtin; refine wp_appendB (by rfl) (.tmp 126) (.tmp 129) (by rfl) w3.heap.size (.slice none 0 0) ([]) (by rfl) (OwnB.nil _ _) va n vc (b.take n) (by rfl) HTK.bs.n HTK.bs.sl HTK.bs.nil (by have := HLB.out; have := HPL.out; have := HNN.out; simp; omega) (Below.size (B := w3.heap.size) (Below.refl _ _)) ?_; intro a5 n5 c5 w5 hn5 ho5 hs5 hf5 hat5; have hB5 : Hid (Below w3.heap.size w3 w5) := own_grown (v := .slice none 0 0) (Below.refl _ _) (OwnB.nil _ _) hf5; have HO5 : Hid (OwnB w5 w3.heap.size (.slice a5 n5 c5) ([] ++ b.take n)) := ho5; clear hn5 ho5 hs5 hf5 hat5; have g5 := (HTX.out _ hB5.out).1; have HBe5 : Hid (Below w5.heap.size w5 (w5.alloc (.cells #[.int .u8 (df % 256)] 5))) := (Below.refl _ _).alloc (Nat.le_refl _) _; have HBw5 : Hid (Below w3.heap.size w3 (w5.alloc (.cells #[.int .u8 (df % 256)] 5))) := hB5.out.alloc hB5.out.size _)
         | (at_builtin; refine wp_appendB (by rfl) (.tmp 131) (.tmp 135) (by rfl) w3.heap.size (.slice a5 n5 c5) ([] ++ b.take n) (by rfl) (owns_below HO5.out HBe5.out) (some ⟨w5.heap.size, 0, none⟩) 1 1 ([z]) (by rfl) (HBZ.out w5).n (HBZ.out w5).sl (HBZ.out w5).nil (by have := HLB.out; have := HPL.out; have := HNN.out; simp; omega) (Below.size (B := w3.heap.size) HBw5.out) ?_; intro a6 n6 c6 w6 hn6 ho6 hs6 hf6 hat6; have hB6 : Hid (Below w3.heap.size w3 w6) := own_grown (v := .slice a5 n5 c5) HBw5.out (owns_below HO5.out HBe5.out) hf6; have HO6 : Hid (OwnB w6 w3.heap.size (.slice a6 n6 c6) ([] ++ b.take n ++ [z])) := ho6; clear hn6 ho6 hs6 hf6 hat6)
         | (refine wp_sliceLo (by rfl) 35 5 (.tmp 138) (.tmp 139) (by rfl) va b.length vc n 1 (by rfl) (by rfl) Try.underlying35 HI.out HNN.out hvc ?_)
         | (at_builtin; refine wp_appendB (by rfl) (.tmp 137) (.tmp 140) (by rfl) w3.heap.size (.slice a6 n6 c6) ([] ++ b.take n ++ [z]) (by rfl) (HO6.out) (cutS va vc n 1) (b.length - n) (vc - n) (b.drop n) (by rfl) (HDR.bs.below hB6.out).n (HDR.bs.below hB6.out).sl (HDR.bs.below hB6.out).nil (by have := HLB.out; have := HPL.out; have := HNN.out; simp; omega) (Below.size (B := w3.heap.size) hB6.out) ?_; intro a7 n7 c7 w7 hn7 ho7 hs7 hf7 hat7; have hB7 : Hid (Below w3.heap.size w3 w7) := own_grown (v := .slice a6 n6 c6) hB6.out (HO6.out) hf7; have HO7 : Hid (OwnB w7 w3.heap.size (.slice a7 n7 c7) ([] ++ b.take n ++ [z] ++ b.drop n)) := ho7; clear hn7 ho7 hs7 hf7 hat7))
        refine ⟨⟨i + 1, ⟨a7, n7, c7⟩, [] ++ b.take n ++ [z] ++ b.drop n, by omega, by omega, by go_num, rfl, HB.out.next HB3.out HO7.out hB7.out (by simp; omega)⟩, by simp [intOf]; omega⟩
       ·have h2I : ((qk : Int) == 2) = false := by rw [Bool.eq_false_iff]; simp only [ne_eq, beq_iff_eq]; omega
        by_cases h0 : qk = 0
        ·as_aux_lemma =>
         subst h0
         clear hq h1 h2 h3 h4 h1I h2I h3I h4I
         by_cases hnb : n < b.length
         ·have hnbI : (n : Int) < b.length := by omega
          go_upto_region 21 with (first
           | (at_builtin; refine wp_appendB (by rfl) (.tmp 87) (.tmp 88) (by rfl) w3.heap.size (.slice none 0 0) ([]) (by rfl) (OwnB.nil _ _) va b.length vc (b) (by rfl) HSB.out.bs.n HSB.out.bs.sl HSB.out.bs.nil (by have := HLB.out; have := HPL.out; have := HNN.out; simp; omega) (Below.size (B := w3.heap.size) (Below.refl _ _)) ?_; intro a5 n5 c5 w5 hn5 ho5 hs5 hf5 hat5; have hB5 : Hid (Below w3.heap.size w3 w5) := own_grown (v := .slice none 0 0) (Below.refl _ _) (OwnB.nil _ _) hf5; have HO5 : Hid (OwnB w5 w3.heap.size (.slice a5 n5 c5) ([] ++ b)) := ho5; clear hn5 ho5 hs5 hf5 hat5))
          have HG5 : Hid (OwnB w5 w3.heap.size (.slice a5 n5 c5) b) := HO5.out
          obtain ⟨hn5, _, _, hga⟩ := owns_cap (a := a5) (n' := n5) (cap := c5) HG5.out
          subst hn5
          obtain ⟨g5, hg5⟩ : ∃ g, a5 = some ⟨g, 0, none⟩ := by
           rcases hga with ⟨_, hz, _⟩ | ⟨g, e, _⟩
           ·omega
           ·exact ⟨g, e⟩
          subst hg5
          have e0 : w5.cell? ⟨g5, n, none⟩ = some (.int .u8 (b[n].toNat : Int)) := by
           rw [World.ownsRow.cellAt HG5.out n (by omega)]; simp [hnb, u8c]
          have z0 := World.ownsRow.frozenAt HG5.out n
          have y2 := (HTX.out _ hB5.out).1
          have HPKV : Hid (pickN df 255 < 255) := pickN_lt df 255 (by decide)
          go_wp2
          go_region_with (go_at_call 10; refine (pick_any df 255 _ hk3.1 hk3.2 (by decide) (by decide)).mono ?_; rintro r w6 ⟨rfl, hw6⟩; subst hw6)
          all_goals
           go_wp2
           obtain ⟨z, hz⟩ := bits8 .xor (b[n].toNat : Int) (wrap64 (1 + (pickN df 255 : Int)) % 256)
           rw [hz]
           have hfs : Frame (fun k => k = g5) w5 (w5.setCell ⟨g5, n, none⟩ (.int .u8 (z.toNat : Int))) := Frame.setCell (S := fun k => k = g5) (Frame.refl _ _) (p := ⟨g5, n, none⟩) rfl _
           have hge : w3.heap.size ≤ g5 := (World.ownsRow.lt HG5.out g5 rfl).1
           refine ⟨⟨i + 1, ⟨some ⟨g5, 0, none⟩, b.length, c5⟩, b.set n z, by omega, by omega, by go_num, rfl, HB.out.next HB3.out (W := (w5.setCell ⟨g5, n, none⟩ (.int .u8 (z.toNat : Int))).drew) (World.ownsRow.drew (OwnB.set HG5.out z)) ((hB5.out.trans (hfs.below hB5.out.size (fun k hk => by rw [hk]; exact hge))).drew) (by simp; omega)⟩, by simp [intOf]; omega⟩
         ·have hnbI : ¬ (n : Int) < b.length := by omega
          go_wp2_with (first
           | (at_builtin; refine wp_appendB (by rfl) (.tmp 87) (.tmp 88) (by rfl) w3.heap.size (.slice none 0 0) ([]) (by rfl) (OwnB.nil _ _) va b.length vc (b) (by rfl) HSB.out.bs.n HSB.out.bs.sl HSB.out.bs.nil (by have := HLB.out; have := HPL.out; have := HNN.out; simp; omega) (Below.size (B := w3.heap.size) (Below.refl _ _)) ?_; intro a5 n5 c5 w5 hn5 ho5 hs5 hf5 hat5; have hB5 : Hid (Below w3.heap.size w3 w5) := own_grown (v := .slice none 0 0) (Below.refl _ _) (OwnB.nil _ _) hf5; have HO5 : Hid (OwnB w5 w3.heap.size (.slice a5 n5 c5) ([] ++ b)) := ho5; clear hn5 ho5 hs5 hf5 hat5))
          refine ⟨⟨i + 1, ⟨a5, n5, c5⟩, [] ++ b, by omega, by omega, by go_num, rfl, HB.out.next HB3.out HO5.out hB5.out (by simp; omega)⟩, by simp [intOf]; omega⟩
        ·have h0I : ((qk : Int) == 0) = false := by rw [Bool.eq_false_iff]; simp only [ne_eq, beq_iff_eq]; omega
         have hvL : vL.n = (pagesN b).length := (SlV.ofOwn (s := vL) HL3.out).2
         have hvM : vM.n = (pagesN q).length := (SlV.ofOwn (s := vM) HM3.out).2
         have HSVL : Hid (SlV w3 vL.a ((pagesN b).map strV)) := (SlV.ofOwn (s := vL) HL3.out).1
         have HSVM : Hid (SlV w3 vM.a ((pagesN q).map strV)) := (SlV.ofOwn (s := vM) HM3.out).1
         have HPBL : Hid ((pagesN b).length * 2 ≤ b.length ∧ (pagesN q).length ≤ 1000000) := by
          have h1 := sumP_len (pagesN b)
          have h2 := sumP_len (pagesN q)
          have h3 := (pagesN_sum _ q (Nat.le_refl _)).1
          have h4 := HSS.out.1
          have h5 := HPL.out
          unfold Hid; omega
         generalize pagesN b = L at *
         generalize pagesN q = M at *
         obtain ⟨La, Ln, Lc⟩ := vL
         obtain ⟨Ma, Mn, Mc⟩ := vM
         simp only at hvL hvM HSVL HSVM
         subst hvL hvM
         have hLI : (L.length : Int) ≤ 25000000 := by have := HPBL.out; have := HLB.out; omega
         have hMI : (M.length : Int) ≤ 1000000 := by have := HPBL.out; omega
         have HCL : Hid (∀ k (hk : k < L.length), ∃ lb lo, La = some ⟨lb, lo, none⟩ ∧ ∀ W, Below w3.heap.size w3 W → W.cell? ⟨lb, lo + k, none⟩ = some (.string ⟨L[k].toArray⟩)) := fun k hk => by
          obtain ⟨lb, lo, e, hb, hc⟩ := HSVL.out k (by simpa using hk)
          refine ⟨lb, lo, e, fun W hW => (hW.cell (p := ⟨lb, lo + k, none⟩) hb).trans ?_⟩
          rw [hc]; simp [strV]
         have HCM : Hid (∀ k (hk : k < M.length), ∃ lb lo, Ma = some ⟨lb, lo, none⟩ ∧ ∀ W, Below w3.heap.size w3 W → W.cell? ⟨lb, lo + k, none⟩ = some (.string ⟨M[k].toArray⟩)) := fun k hk => by
          obtain ⟨lb, lo, e, hb, hc⟩ := HSVM.out k (by simpa using hk)
          refine ⟨lb, lo, e, fun W hW => (hW.cell (p := ⟨lb, lo + k, none⟩) hb).trans ?_⟩
          rw [hc]; simp [strV]
         by_cases h5 : qk = 5
         ·as_aux_lemma =>
          subst h5
          clear hq h0 h1 h2 h3 h4 h0I h1I h2I h3I h4I
          go_wp2_with fail
          go_loopw [10, 14] (fun ov kv wx => ∃ (k : Nat) (o : SlR) (ol : List UInt8), k ≤ L.length ∧ kv = .int .i64 (k : Int) ∧ ov = .slice o.a o.n o.cap ∧ Hid (OwnB wx w3.heap.size (.slice o.a o.n o.cap) ol) ∧ Hid (ol.length ≤ sumP (L.take k) + (if pickN df L.length < k then 65535 else 0)) ∧ Hid (Below w3.heap.size w3 wx)) (fun _ kv _ => L.length - (intOf kv).toNat)
          case atStart => exact ⟨0, ⟨none, 0, 0⟩, [], by omega, rfl, rfl, OwnB.nil _ _, Nat.zero_le _, Below.refl _ _⟩
          case round =>
           obtain ⟨k, o, ol, hk, rfl, rfl, HOl, HLl, HBl⟩ := hrel
           have HLk : Hid (ol.length ≤ b.length + 65535) := by have h1 := HLl.out; have h2 := sumP_le L k; have h3 := HSS.out.1; unfold Hid; split at h1 <;> omega
           by_cases hkl : k < L.length
           ·have hklI : (k : Int) < L.length := by omega
            obtain ⟨lb, lo, hLa, hcs⟩ := HCL.out k hkl
            subst hLa
            have l0 := hcs _ HBl.out
            have HLKL : Hid (L[k].length ≤ 65535) := HSS.out.2 _ (List.getElem_mem hkl)
            have HSU : Hid (sumP (L.take (k + 1)) = sumP (L.take k) + (L[k].length + 2)) := sumP_take L k hkl
            clear hcs
            generalize L[k] = pg at *
            have y2 := (HTX.out _ HBl.out).1
            have y1 := (HTX.out _ HBl.out).2
            go_upto_region 40 with fail
            go_cut [180] (fun cv wx => ∃ c : Bool, cv = .bool c ∧ Hid (c = true → k = pickN df L.length ∧ 0 < M.length) ∧ wx = wr)
            case first =>
             by_cases hM0 : 0 < M.length
             ·have hM0I : (0 : Int) < M.length := by omega
              go_wp2_with fail
              refine (pick_any df L.length _ hk3.1 hk3.2 (by omega) (by unfold maxLen; omega)).mono ?_
              rintro r w7 ⟨rfl, hw7⟩
              obtain rfl : wr = w7 := hw7.symm
              clear hw7
              go_wp2
              go_meet
              exact ⟨_, rfl, fun h => ⟨(by have h' : (k : Int) = (pickN df L.length : Int) := (by simpa using h); omega), hM0⟩, rfl⟩
             ·have hM0I : ¬ (0 : Int) < M.length := by omega
              go_wp2
              go_meet
              exact ⟨false, rfl, fun h => (by cases h), rfl⟩
            case rest =>
             obtain ⟨c, rfl, HC, hwx⟩ := hcut
             obtain rfl : wr = wc := hwx.symm
             clear hwx
             go_upto_if 180 with fail
             go_cut [15] (fun sv wx => ∃ t : List UInt8, sv = .string ⟨t.toArray⟩ ∧ Hid (t.length ≤ 65535 ∧ (t.length ≤ pg.length ∨ k = pickN df L.length)) ∧ wx = wr)
             case first =>
              cases c with
              | false =>
               go_wp2
               go_meet
               exact ⟨pg, rfl, ⟨HLKL.out, Or.inl (Nat.le_refl _)⟩, rfl⟩
              | true =>
               obtain ⟨hkr, hM0⟩ := HC.out rfl
               have hpl2 := pickN_lt pl M.length hM0
               obtain ⟨mb, mo, hMa, hcm⟩ := HCM.out (pickN pl M.length) hpl2
               subst hMa
               have m0 := hcm _ HBl.out
               have HML : Hid (M[pickN pl M.length].length ≤ 65535 ∧ k = pickN df L.length) := ⟨HSM.out _ (List.getElem_mem hpl2), hkr⟩
               have hpl2I : (pickN pl M.length : Int) < M.length := by omega
               have HPP : Hid (Calls _ _ _ _ _) := pick_any pl M.length wr hk2.1 hk2.2 (by omega) (by unfold maxLen; omega)
               clear hcm hkr
               generalize M[pickN pl M.length] = mg at *
               generalize pickN pl M.length = mp at *
               go_wp2_with fail
               refine HPP.out.mono ?_
               rintro r w7 ⟨rfl, hw7⟩
               obtain rfl : wr = w7 := hw7.symm
               clear hw7
               go_wp2
               go_meet
               exact ⟨mg, rfl, ⟨HML.out.1, Or.inr HML.out.2⟩, rfl⟩
             case rest =>
              obtain ⟨t, rfl, HTL, hwx⟩ := hcut
              obtain rfl : wr = wc := hwx.symm
              clear hwx
              have htI : (t.length : Int) ≤ 65535 := by have := HTL.out.1; omega
              obtain ⟨z1, z2, hz1, hz2⟩ : ∃ z1 z2 : UInt8, (t.length : Int) / 256 = (z1.toNat : Int) ∧ (t.length : Int) % 256 = (z2.toNat : Int) := ⟨UInt8.ofNat (t.length / 256), UInt8.ofNat (t.length % 256), by rw [UInt8.toNat_ofNat']; omega, by rw [UInt8.toNat_ofNat']; omega⟩
              have HAB : Hid (Below wr.heap.size wr (wr.alloc (.cells #[.int .u8 ((t.length : Int) / 256), .int .u8 ((t.length : Int) % 256)] 5))) := (Below.refl _ _).alloc (Nat.le_refl _) _
              have HS0 : Hid (SlB (wr.alloc (.cells #[.int .u8 ((t.length : Int) / 256), .int .u8 ((t.length : Int) % 256)] 5)) (some ⟨wr.heap.size, 0, none⟩) [z1, z2]) := by
               have h := (SlV.alloc_new wr ([z1, z2].map u8c) 5).toB
               unfold Hid; rw [hz1, hz2]; exact h
              have HOl2 : Hid (OwnB (wr.alloc (.cells #[.int .u8 ((t.length : Int) / 256), .int .u8 ((t.length : Int) % 256)] 5)) w3.heap.size (.slice o.a o.n o.cap) ol) := owns_below HOl.out HAB.out
              have HBA2 : Hid (Below w3.heap.size w3 (wr.alloc (.cells #[.int .u8 ((t.length : Int) / 256), .int .u8 ((t.length : Int) % 256)] 5))) := HBl.out.trans (HAB.out.mono HBl.out.size)
              clear hz1 hz2
              go_wp2_with (first
               | (at_builtin; refine wp_appendB (by rfl) (.tmp 189) (.tmp 197) (by rfl) w3.heap.size (.slice o.a o.n o.cap) ol (by rfl) HOl2.out (some ⟨wr.heap.size, 0, none⟩) 2 2 [z1, z2] (by rfl) rfl HS0.out (fun h => by cases h) (by have := HLk.out; have := HLB.out; simp; omega) HBA2.out.size ?_; intro a8 n8 c8 w8 hn8 ho8 hs8 hf8 hat8; have HB8 : Hid (Below w3.heap.size w3 w8) := own_grown (v := .slice o.a o.n o.cap) HBA2.out HOl2.out hf8; have HO8 : Hid (OwnB w8 w3.heap.size (.slice a8 n8 c8) (ol ++ [z1, z2])) := ho8; clear hn8 ho8 hs8 hf8 hat8)
               | (at_builtin; refine wp_appendS (by rfl) (.tmp 199) (.tmp 200) (by rfl) w3.heap.size (.slice a8 n8 c8) (ol ++ [z1, z2]) (by rfl) HO8.out t (by rfl) (by have := HLk.out; have := HLB.out; have := HTL.out; simp; omega) HB8.out.size ?_; intro a9 n9 c9 w9 ho9 hs9 hf9; have HB9 : Hid (Below w3.heap.size w3 w9) := own_grown (v := .slice a8 n8 c8) HB8.out HO8.out hf9; have HO9 : Hid (OwnB w9 w3.heap.size (.slice a9 n9 c9) (ol ++ [z1, z2] ++ t)) := ho9; clear ho9 hs9 hf9))
              refine ⟨⟨k + 1, ⟨a9, n9, c9⟩, ol ++ [z1, z2] ++ t, by omega, by go_num, rfl, HO9, ?_, HB9⟩, by simp [intOf]; omega⟩
              have g1 := HLl.out
              have g2 := HTL.out
              rw [HSU.out]
              unfold Hid
              simp only [List.length_append, List.length_cons, List.length_nil]
              split at g1 <;> split <;> omega
           ·have hklI : ¬ (k : Int) < L.length := by omega
            go_wp2
            refine ⟨⟨i + 1, o, ol, by omega, by omega, by go_num, rfl, HB.out.next HB3.out HOl.out HBl.out (by have := HLk.out; omega)⟩, by simp [intOf]; omega⟩
         ·as_aux_lemma =>
          have h5I : ((qk : Int) == 5) = false := by rw [Bool.eq_false_iff]; simp only [ne_eq, beq_iff_eq]; omega
          clear hq h0 h1 h2 h3 h4 h5
          go_wp2_with fail
          go_loopw [10, 16] (fun ov kv wx => ∃ (k : Nat) (o : SlR) (ol : List UInt8), k ≤ L.length ∧ kv = .int .i64 (k : Int) ∧ ov = .slice o.a o.n o.cap ∧ Hid (OwnB wx w3.heap.size (.slice o.a o.n o.cap) ol) ∧ Hid (ol.length ≤ sumP (L.take k)) ∧ Hid (Below w3.heap.size w3 wx)) (fun _ kv _ => L.length - (intOf kv).toNat)
          case atStart => exact ⟨0, ⟨none, 0, 0⟩, [], by omega, rfl, rfl, OwnB.nil _ _, Nat.zero_le _, Below.refl _ _⟩
          case round =>
           obtain ⟨k, o, ol, hk, rfl, rfl, HOl, HLl, HBl⟩ := hrel
           have HLk : Hid (ol.length ≤ b.length) := by have := HLl.out; have := sumP_le L k; have := HSS.out.1; unfold Hid; omega
           by_cases hkl : k < L.length
           ·have hklI : (k : Int) < L.length := by omega
            have y2 := (HTX.out _ HBl.out).1
            go_wp2_with fail
            refine (pick_any df L.length _ hk3.1 hk3.2 (by omega) (by unfold maxLen; omega)).mono ?_
            rintro r w7 ⟨rfl, hw7⟩
            obtain rfl : wr = w7 := hw7.symm
            clear hw7
            by_cases hkr : k = pickN df L.length
            ·have hkrI : ((k : Int) == (pickN df L.length : Int)) = true := by simp only [beq_iff_eq]; omega
             clear hkr
             go_wp2
             refine ⟨⟨k + 1, o, ol, by omega, by go_num, rfl, HOl, by have := HLl.out; rw [sumP_take L k hkl]; unfold Hid; omega, HBl⟩, by simp [intOf]; omega⟩
            ·have hkrI : ((k : Int) == (pickN df L.length : Int)) = false := by rw [Bool.eq_false_iff]; simp only [ne_eq, beq_iff_eq]; omega
             clear hkr
             obtain ⟨lb, lo, hLa, hcs⟩ := HCL.out k hkl
             subst hLa
             have HCK : Hid (∀ W, Below w3.heap.size w3 W → W.cell? ⟨lb, lo + k, none⟩ = some (.string ⟨L[k].toArray⟩)) := hcs
             have l0 := hcs _ HBl.out
             have HLKL : Hid (L[k].length ≤ 65535) := HSS.out.2 _ (List.getElem_mem hkl)
             have HSU : Hid (sumP (L.take (k + 1)) = sumP (L.take k) + (L[k].length + 2)) := sumP_take L k hkl
             clear hcs
             generalize L[k] = pg at *
             obtain ⟨z1, z2, hz1, hz2⟩ : ∃ z1 z2 : UInt8, IntKind.u8.wrap (IntKind.i64.wrap ((pg.length : Int) / 256)) = (z1.toNat : Int) ∧ IntKind.u8.wrap (pg.length : Int) = (z2.toNat : Int) := wrap8_two _ _
             have HAB : Hid (Below wr.heap.size wr (wr.alloc (.cells #[.int .u8 (IntKind.u8.wrap (IntKind.i64.wrap ((pg.length : Int) / 256))), .int .u8 (IntKind.u8.wrap (pg.length : Int))] 5)).drew) := ((Below.refl _ _).alloc (Nat.le_refl _) _).drew
             have HS0 : Hid (SlV (wr.alloc (.cells #[.int .u8 (IntKind.u8.wrap (IntKind.i64.wrap ((pg.length : Int) / 256))), .int .u8 (IntKind.u8.wrap (pg.length : Int))] 5)).drew (some ⟨wr.heap.size, 0, none⟩) ([z1, z2].map u8c)) := by
              have h := SlV.alloc_new wr ([z1, z2].map u8c) 5
              unfold Hid; rw [hz1, hz2]; exact h
             have HOl2 : Hid ((wr.alloc (.cells #[.int .u8 (IntKind.u8.wrap (IntKind.i64.wrap ((pg.length : Int) / 256))), .int .u8 (IntKind.u8.wrap (pg.length : Int))] 5)).drew.ownsRow w3.heap.size 5 1 (.slice o.a o.n o.cap) ol.length (ol.map u8c)) := owns_below HOl.out HAB.out
             have HBA2 : Hid (Below w3.heap.size w3 (wr.alloc (.cells #[.int .u8 (IntKind.u8.wrap (IntKind.i64.wrap ((pg.length : Int) / 256))), .int .u8 (IntKind.u8.wrap (pg.length : Int))] 5)).drew) := HBl.out.trans (HAB.out.mono HBl.out.size)
             clear hz1 hz2
             go_wp2
             go_region_held3 (fun W' => W'.cell? ⟨lb, lo + k, none⟩ = some (.string ⟨pg.toArray⟩)) (go_keep)
              ((refine step_appendV (by rfl) (.tmp 63) (.tmp 77) 35 (by rfl) w3.heap.size 5 _ 1 1 Try.underlying35 Try.infoU8 rfl (by decide) (.slice o.a o.n o.cap) ol.length (ol.map u8c) (by rfl) HOl2.out ⟨wr.heap.size, 0, none⟩ 2 2 ([z1, z2].map u8c) (by rfl) rfl HS0.out (u8c_one _) (by have := HLk.out; have := HLB.out; unfold maxLen; omega) (by have := HLk.out; have := HLB.out; omega) HBA2.out.size ?_; intro a8 n8 c8 w8 ho8 hf8 hat8; have HB8 : Hid (Below w3.heap.size w3 w8) := own_grown (v := .slice o.a o.n o.cap) HBA2.out HOl2.out hf8; have d8 := HCK.out _ HB8.out))
             have HO8 : Hid (OwnB w8 w3.heap.size (.slice a8 n8 c8) (ol ++ [z1, z2])) := by
              unfold Hid OwnB
              rw [List.length_append, List.map_append]
              exact ho8
             clear ho8 hf8 hat8 d8 l0
             have l8 := HCK.out _ HB8.out
             go_wp2_with (at_builtin; refine wp_appendS (by rfl) (.tmp 79) (.tmp 83) (by rfl) w3.heap.size (.slice a8 n8 c8) (ol ++ [z1, z2]) (by rfl) HO8.out pg (by rfl) (by have := HLk.out; have := HLB.out; have := HLKL.out; simp; omega) HB8.out.size ?_; intro a9 n9 c9 w9 ho9 hs9 hf9; have HB9 : Hid (Below w3.heap.size w3 w9) := own_grown (v := .slice a8 n8 c8) HB8.out HO8.out hf9; have HO9 : Hid (OwnB w9 w3.heap.size (.slice a9 n9 c9) (ol ++ [z1, z2] ++ pg)) := ho9; clear ho9 hs9 hf9)
             refine ⟨⟨k + 1, ⟨a9, n9, c9⟩, ol ++ [z1, z2] ++ pg, by omega, by go_num, rfl, HO9, by have := HLl.out; rw [HSU.out]; unfold Hid; simp; omega, HB9⟩, by simp [intOf]; omega⟩
           ·have hklI : ¬ (k : Int) < L.length := by omega
            go_wp2
            refine ⟨⟨i + 1, o, ol, by omega, by omega, by go_num, rfl, HB.out.next HB3.out HOl.out HBl.out (by have := HLk.out; omega)⟩, by simp [intOf]; omega⟩
   ·have h20I : ¬ (i : Int) < 20 := by omega
    go_wp2
    go_ret
    exact ⟨v, rfl, b, HB.out.1, (by have := HLB.out; omega), HB.out.2.2⟩
  ·have hltI : ¬ (i : Int) < tn := by omega
   go_wp2
   go_ret
   exact ⟨v, rfl, b, HB.out.1, (by have := HLB.out; omega), HB.out.2.2⟩
end Go.Proofs.Ytekegfbjbainhaa
