
import Derived.Test.YtekegfbjbainhaaKJoin19
set_option linter.unusedVariables false
set_option linter.unusedSimpArgs false
namespace Go.Proofs.Ytekegfbjbainhaa
open Go.RowKit
attribute [local go_sem ↓] Go.wp_at_zero Go.wp_at_succ
theorem Try.infoBool : (Try.prog.info? 4).map (fun i => (i.zero, i.size, i.bytes)) = some (some (.bool false), 1, 1) := by kernel_rfl
theorem bool_one (bs : List Bool) : ∀ u ∈ bs.map Value.bool, u.oneCell' = true := fun u hu => by
 obtain ⟨b, _, rfl⟩ := List.mem_map.1 hu
 rfl
theorem flags_fuel : ∀ (f g e n : Nat), n ≤ f → n ≤ g → 1 ≤ n → flagsF f e n = flagsF g e n
 | 0, _, e, n, h, _, h1 => by omega
 | _ + 1, 0, e, n, _, h, h1 => by omega
 | f + 1, g + 1, e, n, hf, hg, h1 => by
  by_cases hn : n ≤ 1
  ·have : n = 1 := by omega
   subst this
   rw [flags_one, flags_one]
  ·have hb := halfN_bd n (by omega)
   rw [flags_step hn, flags_step hn, flags_fuel f g e (halfN n) (by omega) (by omega) (by omega), flags_fuel f g (e - halfN n) (n - halfN n) (by omega) (by omega) (by omega)]
theorem flags_len : ∀ (f e n : Nat), (flagsF f e n).length ≤ f
 | 0, e, n => Nat.le_refl _
 | f + 1, e, n => by
  unfold flagsF
  split
  ·simp
  ·split
   ·have := flags_len f e (halfN n); simp; omega
   ·have := flags_len f (e - halfN n) (n - halfN n); simp; omega
theorem halfF_stop (f q n : Nat) (h : ¬ q < n - q) : halfF f q n = q := by
 cases f with
 | zero => rfl
 | succ f => unfold halfF; rw [if_neg h]
theorem halfF_go (f q n : Nat) (h : q < n - q) : halfF (f + 1) q n = halfF f (2 * q) n := by
 conv => lhs; unfold halfF
 rw [if_pos h]
set_option maxRecDepth 100000 in
set_option maxHeartbeats 4000000 in
theorem joined_any (e n : Nat) (root : List UInt8) (a : Option Addr) (cap : Nat) (path : List (List UInt8)) (w : World) (hr : root.length = 8) (hn : 1 ≤ n) (hn2 : n ≤ 64) (he : e < n) (hp : SlD w a path) (hl : path.length ≤ 9223372036854775807) :
  Calls Try.prog 52 #[.int .i64 (e : Int), .int .i64 (n : Int), dV root, .slice a path.length cap] w fun r w' => ∃ v : SlR, r = .returned (.slice v.a v.n v.cap) ∧ StrO w' w.heap.size v (joinedF e n root path) ∧ Below w.heap.size w w' := by
 have HLF : Hid (∀ W, Calls Try.prog 73 #[dV root] W fun e w' => e = .returned (.string ⟨(0 :: root).toArray⟩) ∧ Below W.heap.size W w') := fun W => leaf_any root W hr
 have HJF : Hid (joinedF e n root path = (0 :: root) :: jF (flagsF 64 e n).reverse path (digB (0 :: root))) := rfl
 have HR8 : Hid (root.length = 8) := hr
 obtain ⟨x0, x1, x2, x3, x4, x5, x6, x7, rfl⟩ := list8 root hr
 have HPA : Hid (SlD w a path) := hp
 have hlI : (path.length : Int) ≤ 9223372036854775807 := by omega
 have HB0 : Hid (Below w.heap.size w (w.alloc (.cells #[.int .u8 (x0.toNat : Int), .int .u8 (x1.toNat : Int), .int .u8 (x2.toNat : Int), .int .u8 (x3.toNat : Int), .int .u8 (x4.toNat : Int), .int .u8 (x5.toNat : Int), .int .u8 (x6.toNat : Int), .int .u8 (x7.toNat : Int)] 45))) := (Below.refl _ _).alloc (Nat.le_refl _) _
 have HR0 : Hid (RowV (w.alloc (.cells #[.int .u8 (x0.toNat : Int), .int .u8 (x1.toNat : Int), .int .u8 (x2.toNat : Int), .int .u8 (x3.toNat : Int), .int .u8 (x4.toNat : Int), .int .u8 (x5.toNat : Int), .int .u8 (x6.toNat : Int), .int .u8 (x7.toNat : Int)] 45)) w.heap.size 45 [.int .u8 (x0.toNat : Int), .int .u8 (x1.toNat : Int), .int .u8 (x2.toNat : Int), .int .u8 (x3.toNat : Int), .int .u8 (x4.toNat : Int), .int .u8 (x5.toNat : Int), .int .u8 (x6.toNat : Int), .int .u8 (x7.toNat : Int)]) := RowV.new w _ _
 rw [show dV [x0, x1, x2, x3, x4, x5, x6, x7] = .agg #[.int .u8 (x0.toNat : Int), .int .u8 (x1.toNat : Int), .int .u8 (x2.toNat : Int), .int .u8 (x3.toNat : Int), .int .u8 (x4.toNat : Int), .int .u8 (x5.toNat : Int), .int .u8 (x6.toNat : Int), .int .u8 (x7.toNat : Int)] from rfl] at HLF ⊢
 clear hp hr
 go_enter Try.func52, Try.ntmps52
 go_upto_block 0 with fail
 generalize w.alloc (.cells #[.int .u8 (x0.toNat : Int), .int .u8 (x1.toNat : Int), .int .u8 (x2.toNat : Int), .int .u8 (x3.toNat : Int), .int .u8 (x4.toNat : Int), .int .u8 (x5.toNat : Int), .int .u8 (x6.toNat : Int), .int .u8 (x7.toNat : Int)] 45) = w1 at *
 go_cut [9] (fun lv wx => ∃ u : SlR, lv = .slice u.a u.n u.cap ∧ Hid (wx.ownsRow w1.heap.size 4 1 (.slice u.a u.n u.cap) (flagsF 64 e n).length ((flagsF 64 e n).map Value.bool)) ∧ Hid (Below w1.heap.size w1 wx))
 case first =>
  go_wp2_with fail
  go_loopw [0, 1, 9] (fun ev nv lv wx => ∃ (e' n' : Nat) (u : SlR) (bs : List Bool), ev = .int .i64 (e' : Int) ∧ nv = .int .i64 (n' : Int) ∧ lv = .slice u.a u.n u.cap ∧ 1 ≤ n' ∧ n' ≤ 64 ∧ e' < n' ∧ Hid (wx.ownsRow w1.heap.size 4 1 (.slice u.a u.n u.cap) bs.length (bs.map Value.bool)) ∧ Hid (flagsF 64 e n = bs ++ flagsF 64 e' n') ∧ Hid (Below w1.heap.size w1 wx)) (fun _ nv _ _ => (intOf nv).toNat)
  case atStart => exact ⟨e, n, ⟨none, 0, 0⟩, [], rfl, rfl, rfl, hn, hn2, he, World.ownsRow_nil _ _ _ _, rfl, Below.refl _ _⟩
  case round =>
   obtain ⟨e', n', u, bs, rfl, rfl, rfl, h1, h64, hen, HO, HFL, HB⟩ := hrel
   have h64I : (n' : Int) ≤ 64 := by omega
   have henI : (e' : Int) < n' := by omega
   by_cases hn1 : 1 < n'
   ·have hn1I : (1 : Int) < n' := by omega
    have hhb := halfN_bd n' (by omega)
    have HLB : Hid (bs.length ≤ 64) := by
     have h := congrArg List.length HFL.out
     have := flags_len 64 e n
     rw [List.length_append] at h
     unfold Hid; omega
    have HST : Hid (flagsF 64 e' n' = if e' < halfN n' then false :: flagsF 64 e' (halfN n') else true :: flagsF 64 (e' - halfN n') (n' - halfN n')) := by
     unfold Hid
     rw [flags_step (f := 63) (by omega), flags_fuel 63 64 e' (halfN n') (by omega) (by omega) (by omega), flags_fuel 63 64 (e' - halfN n') (n' - halfN n') (by omega) (by omega) (by omega)]
    go_upto_block 2 with fail
    go_cut [10] (fun kv wx => kv = .int .i64 (halfN n' : Int) ∧ wx = wr)
    case first =>
     go_wp2_with fail
     go_loopw [10] (fun kv wx => ∃ q f : Nat, kv = .int .i64 (q : Int) ∧ 1 ≤ q ∧ q < n' ∧ 65 ≤ f + q ∧ Hid (halfN n' = halfF f q n') ∧ wx = wr) (fun kv _ => n' - (intOf kv).toNat)
     case atStart => exact ⟨1, 64, rfl, by omega, hn1, by omega, rfl, rfl⟩
     case round =>
      obtain ⟨q, f, rfl, hq1, hqn, hfq, HH, hwx⟩ := hrel
      subst hwx
      by_cases hq : q < n' - q
      ·have hqI : (q : Int) < (n' : Int) - q := by omega
       obtain ⟨f', rfl⟩ : ∃ f', f = f' + 1 := ⟨f - 1, by omega⟩
       have HH2 : Hid (halfN n' = halfF f' (2 * q) n') := by unfold Hid; rw [HH.out, halfF_go f' q n' hq]
       go_wp2
       refine ⟨⟨2 * q, f', by go_num, by omega, by omega, by omega, HH2, by first | rfl | trivial⟩, by simp [intOf]; omega⟩
      ·have hqI : ¬ (q : Int) < (n' : Int) - q := by omega
       have HH2 : Hid (halfN n' = q) := by unfold Hid; rw [HH.out, halfF_stop f q n' hq]
       go_wp2
       go_meet
       exact ⟨by rw [HH2.out], rfl⟩
    case rest =>
     obtain ⟨rfl, hwx⟩ := hcut
     obtain rfl : wr = wc := hwx.symm
     clear hwx
     have HHB : Hid (1 ≤ halfN n' ∧ halfN n' < n') := hhb
     clear hhb
     by_cases hek : e' < halfN n'
     ·have HFL2 : Hid (flagsF 64 e n = bs ++ [false] ++ flagsF 64 e' (halfN n')) := by
       unfold Hid; rw [HFL.out, HST.out, if_pos hek, List.append_assoc]; rfl
      have hekI : (e' : Int) < (halfN n' : Int) := by omega
      have hekD : decide ((halfN n' : Int) ≤ (e' : Int)) = false := decide_eq_false (by omega)
      have hekN : decide (halfN n' ≤ e') = false := decide_eq_false (by omega)
      have HEK : Hid (e' < halfN n') := hek
      clear hek HST
      generalize halfN n' = hk at *
      go_wp2_with (at_builtin; have HBe : Hid (Below wr.heap.size wr (wr.alloc (.cells #[.bool false] 4))) := (Below.refl _ _).alloc (Nat.le_refl _) _; refine wp_appendV (by rfl) (.tmp 24) (.tmp 28) 141 (by rfl) w1.heap.size 4 _ 1 1 Try.underlying141 Try.infoBool rfl (by decide) (.slice u.a u.n u.cap) bs.length (bs.map Value.bool) (by rfl) (owns_below HO.out HBe.out) (some ⟨wr.heap.size, 0, none⟩) 1 1 ([false].map Value.bool) (by rfl) rfl (SlV.alloc_new wr ([false].map Value.bool) _) (fun h => by cases h) (bool_one _) (by have := HLB.out; unfold maxLen; omega) (by have := HLB.out; omega) (Nat.le_trans HB.out.size HBe.out.size) ?_; intro v6 w6 ho6 hf6 hat6; obtain ⟨a6, c6, hv6, _⟩ := owns_form ho6; subst hv6; have HB6 : Hid (Below w1.heap.size w1 w6) := (HB.out.trans (HBe.out.mono HB.out.size)).trans (hf6.below (Nat.le_trans HB.out.size HBe.out.size) (fun k hk => (World.ownsRow.lt HO.out k hk).1)); have HO6 : Hid (w6.ownsRow w1.heap.size 4 1 (.slice a6 (bs.length + 1) c6) (bs ++ [false]).length ((bs ++ [false]).map Value.bool)) := by { unfold Hid; rw [List.map_append, show (bs ++ [false]).length = bs.length + 1 from List.length_append]; exact ho6 }; clear ho6 hf6 hat6)
      refine ⟨⟨e', hk, ⟨a6, bs.length + 1, c6⟩, bs ++ [false], rfl, rfl, rfl, HHB.out.1, by have := HHB.out; omega, HEK.out, HO6, HFL2, HB6⟩, by have := HHB.out; simp [intOf]; omega⟩
     ·have HFL2 : Hid (flagsF 64 e n = bs ++ [true] ++ flagsF 64 (e' - halfN n') (n' - halfN n')) := by
       unfold Hid; rw [HFL.out, HST.out, if_neg hek, List.append_assoc]; rfl
      have hekI : ¬ (e' : Int) < (halfN n' : Int) := by omega
      have hekD : decide ((halfN n' : Int) ≤ (e' : Int)) = true := decide_eq_true (by omega)
      have hekL : (halfN n' : Int) ≤ (e' : Int) := by omega
      have hekN : decide (halfN n' ≤ e') = true := decide_eq_true (by omega)
      have HEK : Hid (¬ e' < halfN n') := hek
      clear hek HST
      generalize halfN n' = hk at *
      go_wp2_with (at_builtin; have HBe : Hid (Below wr.heap.size wr (wr.alloc (.cells #[.bool true] 4))) := (Below.refl _ _).alloc (Nat.le_refl _) _; refine wp_appendV (by rfl) (.tmp 24) (.tmp 28) 141 (by rfl) w1.heap.size 4 _ 1 1 Try.underlying141 Try.infoBool rfl (by decide) (.slice u.a u.n u.cap) bs.length (bs.map Value.bool) (by rfl) (owns_below HO.out HBe.out) (some ⟨wr.heap.size, 0, none⟩) 1 1 ([true].map Value.bool) (by rfl) rfl (SlV.alloc_new wr ([true].map Value.bool) _) (fun h => by cases h) (bool_one _) (by have := HLB.out; unfold maxLen; omega) (by have := HLB.out; omega) (Nat.le_trans HB.out.size HBe.out.size) ?_; intro v6 w6 ho6 hf6 hat6; obtain ⟨a6, c6, hv6, _⟩ := owns_form ho6; subst hv6; have HB6 : Hid (Below w1.heap.size w1 w6) := (HB.out.trans (HBe.out.mono HB.out.size)).trans (hf6.below (Nat.le_trans HB.out.size HBe.out.size) (fun k hk => (World.ownsRow.lt HO.out k hk).1)); have HO6 : Hid (w6.ownsRow w1.heap.size 4 1 (.slice a6 (bs.length + 1) c6) (bs ++ [true]).length ((bs ++ [true]).map Value.bool)) := by { unfold Hid; rw [List.map_append, show (bs ++ [true]).length = bs.length + 1 from List.length_append]; exact ho6 }; clear ho6 hf6 hat6)
      refine ⟨⟨e' - hk, n' - hk, ⟨a6, bs.length + 1, c6⟩, bs ++ [true], by have := HEK.out; congr 1; omega, by have := HHB.out; congr 1; omega, rfl, by have := HHB.out; omega, by have := HHB.out; omega, by have := HHB.out; have := HEK.out; omega, HO6, HFL2, HB6⟩, by have := HHB.out; simp [intOf]; omega⟩
   ·have hn1I : ¬ (1 : Int) < n' := by omega
    obtain rfl : n' = 1 := by omega
    go_wp2
    go_meet
    refine ⟨u, rfl, ?_, HB⟩
    have h := HFL.out
    rw [flags_one, List.append_nil] at h
    rw [h]
    exact HO.out
 case rest =>
  obtain ⟨u, rfl, HO, HB⟩ := hcut
  have HFN : Hid (u.n = (flagsF 64 e n).length) := (SlV.ofOwn (s := u) HO.out).2
  have HFS : Hid (SlV wc u.a ((flagsF 64 e n).map Value.bool)) := (SlV.ofOwn (s := u) HO.out).1
  have HF64 : Hid ((flagsF 64 e n).length ≤ 64) := flags_len _ _ _
  have HRc : Hid (RowV wc w.heap.size 45 [.int .u8 (x0.toNat : Int), .int .u8 (x1.toNat : Int), .int .u8 (x2.toNat : Int), .int .u8 (x3.toNat : Int), .int .u8 (x4.toNat : Int), .int .u8 (x5.toNat : Int), .int .u8 (x6.toNat : Int), .int .u8 (x7.toNat : Int)]) := RowV.below HR0.out HR0.out.lt HB.out
  have HBc : Hid (Below w.heap.size w wc) := HB0.out.trans (HB.out.mono HB0.out.size)
  clear hn hn2 he HO
  generalize flagsF 64 e n = fl at *
  obtain ⟨ua, un, uc⟩ := u
  simp only at HFN HFS
  obtain rfl : un = fl.length := HFN.out
  have hflI : (fl.length : Int) ≤ 64 := by have := HF64.out; omega
  have c0 : wc.cell? ⟨w.heap.size, 0, none⟩ = some (.int .u8 (x0.toNat : Int)) := RowV.cell? HRc.out 0
  have c1 : wc.cell? ⟨w.heap.size, 1, none⟩ = some (.int .u8 (x1.toNat : Int)) := RowV.cell? HRc.out 1
  have c2 : wc.cell? ⟨w.heap.size, 2, none⟩ = some (.int .u8 (x2.toNat : Int)) := RowV.cell? HRc.out 2
  have c3 : wc.cell? ⟨w.heap.size, 3, none⟩ = some (.int .u8 (x3.toNat : Int)) := RowV.cell? HRc.out 3
  have c4 : wc.cell? ⟨w.heap.size, 4, none⟩ = some (.int .u8 (x4.toNat : Int)) := RowV.cell? HRc.out 4
  have c5 : wc.cell? ⟨w.heap.size, 5, none⟩ = some (.int .u8 (x5.toNat : Int)) := RowV.cell? HRc.out 5
  have c6 : wc.cell? ⟨w.heap.size, 6, none⟩ = some (.int .u8 (x6.toNat : Int)) := RowV.cell? HRc.out 6
  have c7 : wc.cell? ⟨w.heap.size, 7, none⟩ = some (.int .u8 (x7.toNat : Int)) := RowV.cell? HRc.out 7
  go_wp2_with fail
  refine (HLF.out _).mono ?_
  rintro r w2 ⟨rfl, hb2⟩
  have HB2 : Hid (Below w.heap.size w w2) := HBc.out.trans (hb2.mono HBc.out.size)
  have HC2 : Hid (Below wc.heap.size wc w2) := hb2
  clear hb2 c0 c1 c2 c3 c4 c5 c6 c7
  have o0 : (w2.alloc (.cells #[.string ⟨(0 :: [x0, x1, x2, x3, x4, x5, x6, x7]).toArray⟩] 9)).cell? ⟨w2.heap.size, 0, none⟩ = some (.string ⟨(0 :: [x0, x1, x2, x3, x4, x5, x6, x7]).toArray⟩) := by rw [World.cell?_alloc_new]; rfl
  have HOUT : Hid (StrO (w2.alloc (.cells #[.string ⟨(0 :: [x0, x1, x2, x3, x4, x5, x6, x7]).toArray⟩] 9)) w2.heap.size ⟨some ⟨w2.heap.size, 0, none⟩, 1, 1⟩ [0 :: [x0, x1, x2, x3, x4, x5, x6, x7]]) := by
   have h := owns_built w2 w2.heap.size 9 1 1 ([0 :: [x0, x1, x2, x3, x4, x5, x6, x7]].map strV) (Nat.le_refl _) rfl (by decide)
   exact h
  have HB3 : Hid (Below w2.heap.size w2 (w2.alloc (.cells #[.string ⟨(0 :: [x0, x1, x2, x3, x4, x5, x6, x7]).toArray⟩] 9))) := (Below.refl _ _).alloc (Nat.le_refl _) _
  go_wp2_with (first
   | (refine wp_toBytes (by rfl) (.tmp 45) (by rfl) (0 :: [x0, x1, x2, x3, x4, x5, x6, x7]) (by rfl) ?_; intro s1 w3 hb3 hB3 hn3))
  refine (digest_any s1.a s1.n s1.cap (0 :: [x0, x1, x2, x3, x4, x5, x6, x7]) w3 hb3.n (by simp; unfold maxLen; omega) hb3.sl).mono ?_
  rintro r w4 ⟨rfl, hb4⟩
  obtain ⟨z0, z1, z2, z3, z4, z5, z6, z7, hzz⟩ := list8 (digB (0 :: [x0, x1, x2, x3, x4, x5, x6, x7])) (digB_length _)
  have HDZ : Hid (digV (0 :: [x0, x1, x2, x3, x4, x5, x6, x7]) = .agg #[.int .u8 (z0.toNat : Int), .int .u8 (z1.toNat : Int), .int .u8 (z2.toNat : Int), .int .u8 (z3.toNat : Int), .int .u8 (z4.toNat : Int), .int .u8 (z5.toNat : Int), .int .u8 (z6.toNat : Int), .int .u8 (z7.toNat : Int)]) := by unfold Hid; rw [digV_eq, hzz]; rfl
  have HZZ : Hid (digB (0 :: [x0, x1, x2, x3, x4, x5, x6, x7]) = [z0, z1, z2, z3, z4, z5, z6, z7]) := hzz
  rw [HDZ.out]
  have HB5 : Hid (Below w2.heap.size w2 (w4.alloc (.cells #[.int .u8 (z0.toNat : Int), .int .u8 (z1.toNat : Int), .int .u8 (z2.toNat : Int), .int .u8 (z3.toNat : Int), .int .u8 (z4.toNat : Int), .int .u8 (z5.toNat : Int), .int .u8 (z6.toNat : Int), .int .u8 (z7.toNat : Int)] 45))) := ((HB3.out.trans (hB3.mono HB3.out.size)).trans (hb4.mono (Nat.le_trans HB3.out.size hB3.size))).alloc (Nat.le_trans HB3.out.size (Nat.le_trans hB3.size hb4.size)) _
  have HOUT5 : Hid (StrO (w4.alloc (.cells #[.int .u8 (z0.toNat : Int), .int .u8 (z1.toNat : Int), .int .u8 (z2.toNat : Int), .int .u8 (z3.toNat : Int), .int .u8 (z4.toNat : Int), .int .u8 (z5.toNat : Int), .int .u8 (z6.toNat : Int), .int .u8 (z7.toNat : Int)] 45)) w2.heap.size ⟨some ⟨w2.heap.size, 0, none⟩, 1, 1⟩ [0 :: [x0, x1, x2, x3, x4, x5, x6, x7]]) := owns_below HOUT.out ((hB3.trans (hb4.mono hB3.size)).alloc (Nat.le_trans hB3.size hb4.size) _)
  have HR5 : Hid (RowV (w4.alloc (.cells #[.int .u8 (z0.toNat : Int), .int .u8 (z1.toNat : Int), .int .u8 (z2.toNat : Int), .int .u8 (z3.toNat : Int), .int .u8 (z4.toNat : Int), .int .u8 (z5.toNat : Int), .int .u8 (z6.toNat : Int), .int .u8 (z7.toNat : Int)] 45)) w4.heap.size 45 [.int .u8 (z0.toNat : Int), .int .u8 (z1.toNat : Int), .int .u8 (z2.toNat : Int), .int .u8 (z3.toNat : Int), .int .u8 (z4.toNat : Int), .int .u8 (z5.toNat : Int), .int .u8 (z6.toNat : Int), .int .u8 (z7.toNat : Int)]) := RowV.new w4 _ _
  have HDB : Hid (w2.heap.size ≤ w4.heap.size) := Nat.le_trans HB3.out.size (Nat.le_trans hB3.size hb4.size)
  have HSD : Hid ((Try.prog.info? 45).map (·.size) = some 8) := by unfold Hid; kernel_rfl
  have HFS2 : Hid (SlV w2 ua (fl.map Value.bool)) := SlV.below_all HFS.out HC2.out
  clear hzz hb3 hB3 hn3 hb4 o0 HOUT HB3
  go_wp2
  generalize w4.alloc (.cells #[.int .u8 (z0.toNat : Int), .int .u8 (z1.toNat : Int), .int .u8 (z2.toNat : Int), .int .u8 (z3.toNat : Int), .int .u8 (z4.toNat : Int), .int .u8 (z5.toNat : Int), .int .u8 (z6.toNat : Int), .int .u8 (z7.toNat : Int)] 45) = w5 at *
  generalize w4.heap.size = db at *
  go_loopw [11, 13] (fun ov kv wx => ∃ (i : Nat) (v : SlR) (ts : List (List UInt8)) (d : List UInt8), i ≤ path.length ∧ i ≤ fl.length ∧ kv = .int .i64 (i : Int) ∧ ov = .slice v.a v.n v.cap ∧ Hid (StrO wx w2.heap.size v ts ∧ ts.length = i + 1) ∧ Hid (RowV wx db 45 (d.map u8c) ∧ d.length = 8) ∧ Hid ((0 :: [x0, x1, x2, x3, x4, x5, x6, x7]) :: jF fl.reverse path (digB (0 :: [x0, x1, x2, x3, x4, x5, x6, x7])) = ts ++ jF (fl.reverse.drop i) (path.drop i) d) ∧ Hid (Below w2.heap.size w2 wx)) (fun _ kv _ => fl.length - (intOf kv).toNat)
  case atStart => exact ⟨0, ⟨some ⟨w2.heap.size, 0, none⟩, 1, 1⟩, [0 :: [x0, x1, x2, x3, x4, x5, x6, x7]], [z0, z1, z2, z3, z4, z5, z6, z7], Nat.zero_le _, Nat.zero_le _, rfl, rfl, ⟨HOUT5.out, rfl⟩, ⟨HR5.out, rfl⟩, by rw [← HZZ.out]; rfl, HB5⟩
  case round =>
   obtain ⟨i, v, ts, d, hip0, hif0, rfl, rfl, HOT, HRD, HJ, HBx⟩ := hrel
   have hi64 : (i : Int) ≤ 64 := by have := HF64.out; omega
   have HFIN : Hid (Below w.heap.size w wr) := HB2.out.trans (HBx.out.mono HB2.out.size)
   by_cases hip : i < path.length
   ·have hipI : (i : Int) < path.length := by omega
    by_cases hif : i < fl.length
    ·have hifI : (i : Int) < fl.length := by omega
     obtain ⟨z0, z1, z2, z3, z4, z5, z6, z7, hdz⟩ := list8 d HRD.out.2
     have HRW0 : Hid (RowV wr db 45 [.int .u8 (z0.toNat : Int), .int .u8 (z1.toNat : Int), .int .u8 (z2.toNat : Int), .int .u8 (z3.toNat : Int), .int .u8 (z4.toNat : Int), .int .u8 (z5.toNat : Int), .int .u8 (z6.toNat : Int), .int .u8 (z7.toNat : Int)]) := by have h := HRD.out.1; rw [hdz] at h; exact h
     obtain ⟨pb, po, hpa, hpbw, hrg⟩ := SlD.at (HPA.out.below (HFIN.out)) i hip
     obtain ⟨pb', po', hpa', hpbl, _⟩ := SlD.at HPA.out i hip
     rw [hpa] at hpa'
     cases hpa'
     subst hpa
     obtain ⟨y0, y1, y2, y3, y4, y5, y6, y7, hyy⟩ := list8 path[i] (HPA.out.2 _ (List.getElem_mem hip))
     rw [hyy] at hrg
     have HPC : Hid (∀ W, Below wr.heap.size wr W → W.cell? ⟨pb, po + i * 8, none⟩ = some (.int .u8 (y0.toNat : Int)) ∧ W.cell? ⟨pb, po + i * 8 + 1, none⟩ = some (.int .u8 (y1.toNat : Int)) ∧ W.cell? ⟨pb, po + i * 8 + 2, none⟩ = some (.int .u8 (y2.toNat : Int)) ∧ W.cell? ⟨pb, po + i * 8 + 3, none⟩ = some (.int .u8 (y3.toNat : Int)) ∧ W.cell? ⟨pb, po + i * 8 + 4, none⟩ = some (.int .u8 (y4.toNat : Int)) ∧ W.cell? ⟨pb, po + i * 8 + 5, none⟩ = some (.int .u8 (y5.toNat : Int)) ∧ W.cell? ⟨pb, po + i * 8 + 6, none⟩ = some (.int .u8 (y6.toNat : Int)) ∧ W.cell? ⟨pb, po + i * 8 + 7, none⟩ = some (.int .u8 (y7.toNat : Int))) := fun W hW => ⟨(hW.cell (p := ⟨pb, po + i * 8, none⟩) hpbw).trans (hrg 0 _ rfl), (hW.cell (p := ⟨pb, po + i * 8 + 1, none⟩) hpbw).trans (hrg 1 _ rfl), (hW.cell (p := ⟨pb, po + i * 8 + 2, none⟩) hpbw).trans (hrg 2 _ rfl), (hW.cell (p := ⟨pb, po + i * 8 + 3, none⟩) hpbw).trans (hrg 3 _ rfl), (hW.cell (p := ⟨pb, po + i * 8 + 4, none⟩) hpbw).trans (hrg 4 _ rfl), (hW.cell (p := ⟨pb, po + i * 8 + 5, none⟩) hpbw).trans (hrg 5 _ rfl), (hW.cell (p := ⟨pb, po + i * 8 + 6, none⟩) hpbw).trans (hrg 6 _ rfl), (hW.cell (p := ⟨pb, po + i * 8 + 7, none⟩) hpbw).trans (hrg 7 _ rfl)⟩
     have HDC : Hid (∀ W, Below wr.heap.size wr W → W.cell? ⟨db, 0, none⟩ = some (.int .u8 (z0.toNat : Int)) ∧ W.cell? ⟨db, 1, none⟩ = some (.int .u8 (z1.toNat : Int)) ∧ W.cell? ⟨db, 2, none⟩ = some (.int .u8 (z2.toNat : Int)) ∧ W.cell? ⟨db, 3, none⟩ = some (.int .u8 (z3.toNat : Int)) ∧ W.cell? ⟨db, 4, none⟩ = some (.int .u8 (z4.toNat : Int)) ∧ W.cell? ⟨db, 5, none⟩ = some (.int .u8 (z5.toNat : Int)) ∧ W.cell? ⟨db, 6, none⟩ = some (.int .u8 (z6.toNat : Int)) ∧ W.cell? ⟨db, 7, none⟩ = some (.int .u8 (z7.toNat : Int))) := fun W hW => ⟨(hW.cell (p := ⟨db, 0, none⟩) HRW0.out.lt).trans (RowV.cell? HRW0.out 0), (hW.cell (p := ⟨db, 1, none⟩) HRW0.out.lt).trans (RowV.cell? HRW0.out 1), (hW.cell (p := ⟨db, 2, none⟩) HRW0.out.lt).trans (RowV.cell? HRW0.out 2), (hW.cell (p := ⟨db, 3, none⟩) HRW0.out.lt).trans (RowV.cell? HRW0.out 3), (hW.cell (p := ⟨db, 4, none⟩) HRW0.out.lt).trans (RowV.cell? HRW0.out 4), (hW.cell (p := ⟨db, 5, none⟩) HRW0.out.lt).trans (RowV.cell? HRW0.out 5), (hW.cell (p := ⟨db, 6, none⟩) HRW0.out.lt).trans (RowV.cell? HRW0.out 6), (hW.cell (p := ⟨db, 7, none⟩) HRW0.out.lt).trans (RowV.cell? HRW0.out 7)⟩
     have HDR : Hid (fl.reverse.drop i = fl.reverse[i]'(by simpa using hif) :: fl.reverse.drop (i + 1)) := List.drop_eq_getElem_cons (by simpa using hif)
     have HDP : Hid (path.drop i = [y0, y1, y2, y3, y4, y5, y6, y7] :: path.drop (i + 1)) := by unfold Hid; rw [← hyy]; exact List.drop_eq_getElem_cons hip
     have hjl : fl.length - 1 - i < fl.length := by omega
     have hrev : fl.reverse[i]'(by simpa using hif) = fl[fl.length - 1 - i] := by rw [List.getElem_reverse]
     obtain ⟨ub, uo, hua, hub, hcu⟩ := HFS2.out (fl.length - 1 - i) (by simpa using hjl)
     subst hua
     simp only [List.getElem_map] at hcu
     obtain ⟨fb, hfb⟩ : ∃ fb, fb = fl[fl.length - 1 - i] := ⟨_, rfl⟩
     have HFB : Hid (fl.reverse[i]'(by simpa using hif) = fb) := by unfold Hid; rw [hrev, hfb]
     rw [← hfb] at hcu
     obtain ⟨jx, hjx⟩ : ∃ jx, jx = fl.length - 1 - i := ⟨_, rfl⟩
     rw [← hjx] at hcu hjl
     have hjxI : (fl.length : Int) - 1 - (i : Int) = (jx : Int) := by omega
     have HCU : Hid (∀ W, Below wr.heap.size wr W → W.cell? ⟨ub, uo + jx, none⟩ = some (.bool fb)) := fun W hW => (((HBx.out.trans (hW.mono HBx.out.size))).cell (p := ⟨ub, uo + jx, none⟩) hub).trans hcu
     have HPR1 : Hid (∀ W, Calls Try.prog 74 #[.agg #[.int .u8 (z0.toNat : Int), .int .u8 (z1.toNat : Int), .int .u8 (z2.toNat : Int), .int .u8 (z3.toNat : Int), .int .u8 (z4.toNat : Int), .int .u8 (z5.toNat : Int), .int .u8 (z6.toNat : Int), .int .u8 (z7.toNat : Int)], .agg #[.int .u8 (y0.toNat : Int), .int .u8 (y1.toNat : Int), .int .u8 (y2.toNat : Int), .int .u8 (y3.toNat : Int), .int .u8 (y4.toNat : Int), .int .u8 (y5.toNat : Int), .int .u8 (y6.toNat : Int), .int .u8 (y7.toNat : Int)]] W fun e w' => e = .returned (.string ⟨(1 :: ([z0, z1, z2, z3, z4, z5, z6, z7] ++ [y0, y1, y2, y3, y4, y5, y6, y7])).toArray⟩) ∧ Below W.heap.size W w') := fun W => pair_any [z0, z1, z2, z3, z4, z5, z6, z7] [y0, y1, y2, y3, y4, y5, y6, y7] W rfl rfl
     have HPR2 : Hid (∀ W, Calls Try.prog 74 #[.agg #[.int .u8 (y0.toNat : Int), .int .u8 (y1.toNat : Int), .int .u8 (y2.toNat : Int), .int .u8 (y3.toNat : Int), .int .u8 (y4.toNat : Int), .int .u8 (y5.toNat : Int), .int .u8 (y6.toNat : Int), .int .u8 (y7.toNat : Int)], .agg #[.int .u8 (z0.toNat : Int), .int .u8 (z1.toNat : Int), .int .u8 (z2.toNat : Int), .int .u8 (z3.toNat : Int), .int .u8 (z4.toNat : Int), .int .u8 (z5.toNat : Int), .int .u8 (z6.toNat : Int), .int .u8 (z7.toNat : Int)]] W fun e w' => e = .returned (.string ⟨(1 :: ([y0, y1, y2, y3, y4, y5, y6, y7] ++ [z0, z1, z2, z3, z4, z5, z6, z7])).toArray⟩) ∧ Below W.heap.size W w') := fun W => pair_any [y0, y1, y2, y3, y4, y5, y6, y7] [z0, z1, z2, z3, z4, z5, z6, z7] W rfl rfl
     have HTS : Hid (ts.length ≤ 65) := by have := HOT.out.2; have := HF64.out; unfold Hid; omega
     have HTL : Hid (ts.length = i + 1) := HOT.out.2
     have HDD : Hid (d = [z0, z1, z2, z3, z4, z5, z6, z7]) := hdz
     obtain ⟨p0, p1, p2, p3, p4, p5, p6, p7⟩ := HPC.out wr (Below.refl _ _)
     obtain ⟨q0, q1, q2, q3, q4, q5, q6, q7⟩ := HDC.out wr (Below.refl _ _)
     have HJ : Hid ((0 :: [x0, x1, x2, x3, x4, x5, x6, x7]) :: jF fl.reverse path (digB (0 :: [x0, x1, x2, x3, x4, x5, x6, x7])) = ts ++ jF (fl.reverse.drop i) (path.drop i) [z0, z1, z2, z3, z4, z5, z6, z7]) := by have h := HJ.out; rw [hdz] at h; exact h
     clear hrg hyy hdz hcu hrev hfb hjx hpbw
     go_wp2
     go_cut [14] (fun sv wx => sv = .string ⟨(1 :: ([z0, z1, z2, z3, z4, z5, z6, z7] ++ [y0, y1, y2, y3, y4, y5, y6, y7])).toArray⟩ ∧ Hid (Below wr.heap.size wr wx))
     case first =>
      go_region_held3 (fun W' => W'.cell? ⟨db, 0, none⟩ = some (.int .u8 (z0.toNat : Int)) ∧ W'.cell? ⟨db, 1, none⟩ = some (.int .u8 (z1.toNat : Int)) ∧ W'.cell? ⟨db, 2, none⟩ = some (.int .u8 (z2.toNat : Int)) ∧ W'.cell? ⟨db, 3, none⟩ = some (.int .u8 (z3.toNat : Int)) ∧ W'.cell? ⟨db, 4, none⟩ = some (.int .u8 (z4.toNat : Int)) ∧ W'.cell? ⟨db, 5, none⟩ = some (.int .u8 (z5.toNat : Int)) ∧ W'.cell? ⟨db, 6, none⟩ = some (.int .u8 (z6.toNat : Int)) ∧ W'.cell? ⟨db, 7, none⟩ = some (.int .u8 (z7.toNat : Int)) ∧ W'.cell? ⟨pb, po + i * 8, none⟩ = some (.int .u8 (y0.toNat : Int)) ∧ W'.cell? ⟨pb, po + i * 8 + 1, none⟩ = some (.int .u8 (y1.toNat : Int)) ∧ W'.cell? ⟨pb, po + i * 8 + 2, none⟩ = some (.int .u8 (y2.toNat : Int)) ∧ W'.cell? ⟨pb, po + i * 8 + 3, none⟩ = some (.int .u8 (y3.toNat : Int)) ∧ W'.cell? ⟨pb, po + i * 8 + 4, none⟩ = some (.int .u8 (y4.toNat : Int)) ∧ W'.cell? ⟨pb, po + i * 8 + 5, none⟩ = some (.int .u8 (y5.toNat : Int)) ∧ W'.cell? ⟨pb, po + i * 8 + 6, none⟩ = some (.int .u8 (y6.toNat : Int)) ∧ W'.cell? ⟨pb, po + i * 8 + 7, none⟩ = some (.int .u8 (y7.toNat : Int))) (go_keep)
       ((go_at_call 74; refine (HPR1.out _).mono ?_; rintro r w6 ⟨rfl, hb6⟩; have HB6 : Hid (Below wr.heap.size wr w6) := (Below.refl _ _).drew.trans hb6; obtain ⟨e0, e1, e2, e3, e4, e5, e6, e7⟩ := HPC.out _ HB6.out; obtain ⟨g0, g1, g2, g3, g4, g5, g6, g7⟩ := HDC.out _ HB6.out))
      all_goals
       go_wp2
       go_meet
       exact ⟨rfl, HB6⟩
     case rest =>
      obtain ⟨rfl, HB6⟩ := hcut
      have cu := HCU.out _ HB6.out
      cases fb with
      | false =>
       have HBW : Hid (Below w2.heap.size w2 wc) := HBx.out.trans (HB6.out.mono HBx.out.size)
       have HOW : Hid (StrO wc w2.heap.size v ts) := owns_below HOT.out.1 HB6.out
       have HRW : Hid (RowV wc db 45 [.int .u8 (z0.toNat : Int), .int .u8 (z1.toNat : Int), .int .u8 (z2.toNat : Int), .int .u8 (z3.toNat : Int), .int .u8 (z4.toNat : Int), .int .u8 (z5.toNat : Int), .int .u8 (z6.toNat : Int), .int .u8 (z7.toNat : Int)]) := RowV.below HRW0.out HRW0.out.lt HB6.out
       clear p0 p1 p2 p3 p4 p5 p6 p7 q0 q1 q2 q3 q4 q5 q6 q7
       go_wp2_with (first
        | (at_builtin; have HBe : Hid (Below wc.heap.size wc (wc.alloc (.cells #[.string ⟨(1 :: ([z0, z1, z2, z3, z4, z5, z6, z7] ++ [y0, y1, y2, y3, y4, y5, y6, y7])).toArray⟩] 9))) := (Below.refl _ _).alloc (Nat.le_refl _) _; refine wp_appendV (by rfl) (.tmp 80) (.tmp 82) 67 (by rfl) w2.heap.size 9 _ 1 16 Try.underlying67 Try.infoStr rfl (by decide) (.slice v.a v.n v.cap) ts.length (ts.map strV) (by rfl) (owns_below HOW.out HBe.out) (some ⟨wc.heap.size, 0, none⟩) 1 1 ([(1 :: ([z0, z1, z2, z3, z4, z5, z6, z7] ++ [y0, y1, y2, y3, y4, y5, y6, y7]))].map strV) (by rfl) rfl (SlV.alloc_new wc ([(1 :: ([z0, z1, z2, z3, z4, z5, z6, z7] ++ [y0, y1, y2, y3, y4, y5, y6, y7]))].map strV) _) (fun h => by cases h) (str_one _) (by have := HTS.out; unfold maxLen; omega) (by have := HTS.out; omega) (Nat.le_trans HBW.out.size HBe.out.size) ?_; intro v8 w8 ho8 hf8 hat8; obtain ⟨a8, c8, hv8, _⟩ := owns_form ho8; subst hv8; have HB8 : Hid (Below w2.heap.size w2 w8) := (HBW.out.trans (HBe.out.mono HBW.out.size)).trans (hf8.below (Nat.le_trans HBW.out.size HBe.out.size) (fun k hk => (World.ownsRow.lt HOW.out k hk).1)); have HR8 : Hid (RowV w8 db 45 [.int .u8 (z0.toNat : Int), .int .u8 (z1.toNat : Int), .int .u8 (z2.toNat : Int), .int .u8 (z3.toNat : Int), .int .u8 (z4.toNat : Int), .int .u8 (z5.toNat : Int), .int .u8 (z6.toNat : Int), .int .u8 (z7.toNat : Int)]) := (RowV.below HRW.out HRW.out.lt HBe.out).of_block (hf8.block _ (RowV.below HRW.out HRW.out.lt HBe.out).lt (fun e => owns_ne (owns_below HOW.out HBe.out) (RowV.below HRW.out HRW.out.lt HBe.out) (by decide) e)); have HO8 : Hid (StrO w8 w2.heap.size ⟨a8, ts.length + 1, c8⟩ (ts ++ [(1 :: ([z0, z1, z2, z3, z4, z5, z6, z7] ++ [y0, y1, y2, y3, y4, y5, y6, y7]))])) := by { unfold Hid StrO; rw [List.map_append, show (ts ++ [(1 :: ([z0, z1, z2, z3, z4, z5, z6, z7] ++ [y0, y1, y2, y3, y4, y5, y6, y7]))]).length = ts.length + 1 from List.length_append]; exact ho8 }; clear ho8 hf8 hat8)
        | (refine wp_toBytes (by rfl) (.tmp 84) (by rfl) ((1 :: ([z0, z1, z2, z3, z4, z5, z6, z7] ++ [y0, y1, y2, y3, y4, y5, y6, y7]))) (by rfl) ?_; intro s9 w9 hb9 hB9 hn9))
       refine (digest_any s9.a s9.n s9.cap ((1 :: ([z0, z1, z2, z3, z4, z5, z6, z7] ++ [y0, y1, y2, y3, y4, y5, y6, y7]))) w9 hb9.n (by simp; unfold maxLen; omega) hb9.sl).mono ?_
       rintro r w10 ⟨rfl, hb10⟩
       obtain ⟨q0, q1, q2, q3, q4, q5, q6, q7, hqq⟩ := list8 (digB ((1 :: ([z0, z1, z2, z3, z4, z5, z6, z7] ++ [y0, y1, y2, y3, y4, y5, y6, y7])))) (digB_length _)
       have HDQ : Hid (digV ((1 :: ([z0, z1, z2, z3, z4, z5, z6, z7] ++ [y0, y1, y2, y3, y4, y5, y6, y7]))) = .agg #[.int .u8 (q0.toNat : Int), .int .u8 (q1.toNat : Int), .int .u8 (q2.toNat : Int), .int .u8 (q3.toNat : Int), .int .u8 (q4.toNat : Int), .int .u8 (q5.toNat : Int), .int .u8 (q6.toNat : Int), .int .u8 (q7.toNat : Int)]) := by unfold Hid; rw [digV_eq, hqq]; rfl
       have HQQ : Hid (digB ((1 :: ([z0, z1, z2, z3, z4, z5, z6, z7] ++ [y0, y1, y2, y3, y4, y5, y6, y7]))) = [q0, q1, q2, q3, q4, q5, q6, q7]) := hqq
       rw [HDQ.out]
       have HB10 : Hid (Below w8.heap.size w8 w10) := hB9.trans (hb10.mono hB9.size)
       have HR10 : Hid (RowV w10 db 45 [.int .u8 (z0.toNat : Int), .int .u8 (z1.toNat : Int), .int .u8 (z2.toNat : Int), .int .u8 (z3.toNat : Int), .int .u8 (z4.toNat : Int), .int .u8 (z5.toNat : Int), .int .u8 (z6.toNat : Int), .int .u8 (z7.toNat : Int)]) := RowV.below HR8.out HR8.out.lt HB10.out
       have HO10 : Hid (StrO w10 w2.heap.size ⟨a8, ts.length + 1, c8⟩ (ts ++ [(1 :: ([z0, z1, z2, z3, z4, z5, z6, z7] ++ [y0, y1, y2, y3, y4, y5, y6, y7]))])) := owns_below HO8.out HB10.out
       clear hqq hb9 hB9 hn9 hb10
       go_wp2_with (first
        | (refine wp_storeR (by rfl) 45 (.tmp 12) (.tmp 86) (by rfl) db (by rfl) [.int .u8 (q0.toNat : Int), .int .u8 (q1.toNat : Int), .int .u8 (q2.toNat : Int), .int .u8 (q3.toNat : Int), .int .u8 (q4.toNat : Int), .int .u8 (q5.toNat : Int), .int .u8 (q6.toNat : Int), .int .u8 (q7.toNat : Int)] (by rfl) (l := [.int .u8 (z0.toNat : Int), .int .u8 (z1.toNat : Int), .int .u8 (z2.toNat : Int), .int .u8 (z3.toNat : Int), .int .u8 (z4.toNat : Int), .int .u8 (z5.toNat : Int), .int .u8 (z6.toNat : Int), .int .u8 (z7.toNat : Int)]) HR10.out rfl HSD.out (digsC_one [[q0, q1, q2, q3, q4, q5, q6, q7]]) ?_; intro w11 hr11 hf11 hz11))
       refine ⟨⟨i + 1, ⟨a8, ts.length + 1, c8⟩, ts ++ [(1 :: ([z0, z1, z2, z3, z4, z5, z6, z7] ++ [y0, y1, y2, y3, y4, y5, y6, y7]))], [q0, q1, q2, q3, q4, q5, q6, q7], hip, hif, by go_num, rfl, ⟨owns_frame HO10.out hf11 (fun k hk e => owns_ne HO10.out HR10.out (by decide) (e ▸ hk)), by rw [List.length_append, HTL.out]; rfl⟩, ⟨hr11, rfl⟩, ?_, (HB8.out.trans (HB10.out.mono HB8.out.size)).trans (hf11.below (Nat.le_trans HB8.out.size HB10.out.size) (fun k hk => by rw [hk]; exact HDB.out))⟩, by simp [intOf]; omega⟩
       unfold Hid
       rw [HJ.out, HDR.out, HDP.out, HFB.out]
       show ts ++ ((1 :: ([z0, z1, z2, z3, z4, z5, z6, z7] ++ [y0, y1, y2, y3, y4, y5, y6, y7])) :: jF (fl.reverse.drop (i + 1)) (path.drop (i + 1)) (digB ((1 :: ([z0, z1, z2, z3, z4, z5, z6, z7] ++ [y0, y1, y2, y3, y4, y5, y6, y7]))))) = _
       rw [HQQ.out, List.append_assoc]
       rfl
      | true =>
       obtain ⟨r0, r1, r2, r3, r4, r5, r6, r7⟩ := HPC.out _ HB6.out
       obtain ⟨t0, t1, t2, t3, t4, t5, t6, t7⟩ := HDC.out _ HB6.out
       go_wp2
       go_cut [14] (fun sv wx => sv = .string ⟨(1 :: ([y0, y1, y2, y3, y4, y5, y6, y7] ++ [z0, z1, z2, z3, z4, z5, z6, z7])).toArray⟩ ∧ Hid (Below wr.heap.size wr wx))
       case first =>
        go_region_held3 (fun W' => W'.cell? ⟨db, 0, none⟩ = some (.int .u8 (z0.toNat : Int)) ∧ W'.cell? ⟨db, 1, none⟩ = some (.int .u8 (z1.toNat : Int)) ∧ W'.cell? ⟨db, 2, none⟩ = some (.int .u8 (z2.toNat : Int)) ∧ W'.cell? ⟨db, 3, none⟩ = some (.int .u8 (z3.toNat : Int)) ∧ W'.cell? ⟨db, 4, none⟩ = some (.int .u8 (z4.toNat : Int)) ∧ W'.cell? ⟨db, 5, none⟩ = some (.int .u8 (z5.toNat : Int)) ∧ W'.cell? ⟨db, 6, none⟩ = some (.int .u8 (z6.toNat : Int)) ∧ W'.cell? ⟨db, 7, none⟩ = some (.int .u8 (z7.toNat : Int)) ∧ W'.cell? ⟨pb, po + i * 8, none⟩ = some (.int .u8 (y0.toNat : Int)) ∧ W'.cell? ⟨pb, po + i * 8 + 1, none⟩ = some (.int .u8 (y1.toNat : Int)) ∧ W'.cell? ⟨pb, po + i * 8 + 2, none⟩ = some (.int .u8 (y2.toNat : Int)) ∧ W'.cell? ⟨pb, po + i * 8 + 3, none⟩ = some (.int .u8 (y3.toNat : Int)) ∧ W'.cell? ⟨pb, po + i * 8 + 4, none⟩ = some (.int .u8 (y4.toNat : Int)) ∧ W'.cell? ⟨pb, po + i * 8 + 5, none⟩ = some (.int .u8 (y5.toNat : Int)) ∧ W'.cell? ⟨pb, po + i * 8 + 6, none⟩ = some (.int .u8 (y6.toNat : Int)) ∧ W'.cell? ⟨pb, po + i * 8 + 7, none⟩ = some (.int .u8 (y7.toNat : Int))) (go_keep)
         ((go_at_call 74; refine (HPR2.out _).mono ?_; rintro r w6 ⟨rfl, hb6⟩; have HB7 : Hid (Below wr.heap.size wr w6) := HB6.out.drew.trans (hb6.mono HB6.out.size); obtain ⟨e0, e1, e2, e3, e4, e5, e6, e7⟩ := HPC.out _ HB7.out; obtain ⟨g0, g1, g2, g3, g4, g5, g6, g7⟩ := HDC.out _ HB7.out))
        all_goals
         go_wp2
         go_meet
         exact ⟨rfl, HB7⟩
       case rest =>
        obtain ⟨rfl, HB7⟩ := hcut
        clear r0 r1 r2 r3 r4 r5 r6 r7 t0 t1 t2 t3 t4 t5 t6 t7 cu
        have HBW : Hid (Below w2.heap.size w2 wc) := HBx.out.trans (HB7.out.mono HBx.out.size)
        have HOW : Hid (StrO wc w2.heap.size v ts) := owns_below HOT.out.1 HB7.out
        have HRW : Hid (RowV wc db 45 [.int .u8 (z0.toNat : Int), .int .u8 (z1.toNat : Int), .int .u8 (z2.toNat : Int), .int .u8 (z3.toNat : Int), .int .u8 (z4.toNat : Int), .int .u8 (z5.toNat : Int), .int .u8 (z6.toNat : Int), .int .u8 (z7.toNat : Int)]) := RowV.below HRW0.out HRW0.out.lt HB7.out
        clear p0 p1 p2 p3 p4 p5 p6 p7 q0 q1 q2 q3 q4 q5 q6 q7
        go_wp2_with (first
         | (at_builtin; have HBe : Hid (Below wc.heap.size wc (wc.alloc (.cells #[.string ⟨(1 :: ([y0, y1, y2, y3, y4, y5, y6, y7] ++ [z0, z1, z2, z3, z4, z5, z6, z7])).toArray⟩] 9))) := (Below.refl _ _).alloc (Nat.le_refl _) _; refine wp_appendV (by rfl) (.tmp 80) (.tmp 82) 67 (by rfl) w2.heap.size 9 _ 1 16 Try.underlying67 Try.infoStr rfl (by decide) (.slice v.a v.n v.cap) ts.length (ts.map strV) (by rfl) (owns_below HOW.out HBe.out) (some ⟨wc.heap.size, 0, none⟩) 1 1 ([(1 :: ([y0, y1, y2, y3, y4, y5, y6, y7] ++ [z0, z1, z2, z3, z4, z5, z6, z7]))].map strV) (by rfl) rfl (SlV.alloc_new wc ([(1 :: ([y0, y1, y2, y3, y4, y5, y6, y7] ++ [z0, z1, z2, z3, z4, z5, z6, z7]))].map strV) _) (fun h => by cases h) (str_one _) (by have := HTS.out; unfold maxLen; omega) (by have := HTS.out; omega) (Nat.le_trans HBW.out.size HBe.out.size) ?_; intro v8 w8 ho8 hf8 hat8; obtain ⟨a8, c8, hv8, _⟩ := owns_form ho8; subst hv8; have HB8 : Hid (Below w2.heap.size w2 w8) := (HBW.out.trans (HBe.out.mono HBW.out.size)).trans (hf8.below (Nat.le_trans HBW.out.size HBe.out.size) (fun k hk => (World.ownsRow.lt HOW.out k hk).1)); have HR8 : Hid (RowV w8 db 45 [.int .u8 (z0.toNat : Int), .int .u8 (z1.toNat : Int), .int .u8 (z2.toNat : Int), .int .u8 (z3.toNat : Int), .int .u8 (z4.toNat : Int), .int .u8 (z5.toNat : Int), .int .u8 (z6.toNat : Int), .int .u8 (z7.toNat : Int)]) := (RowV.below HRW.out HRW.out.lt HBe.out).of_block (hf8.block _ (RowV.below HRW.out HRW.out.lt HBe.out).lt (fun e => owns_ne (owns_below HOW.out HBe.out) (RowV.below HRW.out HRW.out.lt HBe.out) (by decide) e)); have HO8 : Hid (StrO w8 w2.heap.size ⟨a8, ts.length + 1, c8⟩ (ts ++ [(1 :: ([y0, y1, y2, y3, y4, y5, y6, y7] ++ [z0, z1, z2, z3, z4, z5, z6, z7]))])) := by { unfold Hid StrO; rw [List.map_append, show (ts ++ [(1 :: ([y0, y1, y2, y3, y4, y5, y6, y7] ++ [z0, z1, z2, z3, z4, z5, z6, z7]))]).length = ts.length + 1 from List.length_append]; exact ho8 }; clear ho8 hf8 hat8)
         | (refine wp_toBytes (by rfl) (.tmp 84) (by rfl) ((1 :: ([y0, y1, y2, y3, y4, y5, y6, y7] ++ [z0, z1, z2, z3, z4, z5, z6, z7]))) (by rfl) ?_; intro s9 w9 hb9 hB9 hn9))
        refine (digest_any s9.a s9.n s9.cap ((1 :: ([y0, y1, y2, y3, y4, y5, y6, y7] ++ [z0, z1, z2, z3, z4, z5, z6, z7]))) w9 hb9.n (by simp; unfold maxLen; omega) hb9.sl).mono ?_
        rintro r w10 ⟨rfl, hb10⟩
        obtain ⟨q0, q1, q2, q3, q4, q5, q6, q7, hqq⟩ := list8 (digB ((1 :: ([y0, y1, y2, y3, y4, y5, y6, y7] ++ [z0, z1, z2, z3, z4, z5, z6, z7])))) (digB_length _)
        have HDQ : Hid (digV ((1 :: ([y0, y1, y2, y3, y4, y5, y6, y7] ++ [z0, z1, z2, z3, z4, z5, z6, z7]))) = .agg #[.int .u8 (q0.toNat : Int), .int .u8 (q1.toNat : Int), .int .u8 (q2.toNat : Int), .int .u8 (q3.toNat : Int), .int .u8 (q4.toNat : Int), .int .u8 (q5.toNat : Int), .int .u8 (q6.toNat : Int), .int .u8 (q7.toNat : Int)]) := by unfold Hid; rw [digV_eq, hqq]; rfl
        have HQQ : Hid (digB ((1 :: ([y0, y1, y2, y3, y4, y5, y6, y7] ++ [z0, z1, z2, z3, z4, z5, z6, z7]))) = [q0, q1, q2, q3, q4, q5, q6, q7]) := hqq
        rw [HDQ.out]
        have HB10 : Hid (Below w8.heap.size w8 w10) := hB9.trans (hb10.mono hB9.size)
        have HR10 : Hid (RowV w10 db 45 [.int .u8 (z0.toNat : Int), .int .u8 (z1.toNat : Int), .int .u8 (z2.toNat : Int), .int .u8 (z3.toNat : Int), .int .u8 (z4.toNat : Int), .int .u8 (z5.toNat : Int), .int .u8 (z6.toNat : Int), .int .u8 (z7.toNat : Int)]) := RowV.below HR8.out HR8.out.lt HB10.out
        have HO10 : Hid (StrO w10 w2.heap.size ⟨a8, ts.length + 1, c8⟩ (ts ++ [(1 :: ([y0, y1, y2, y3, y4, y5, y6, y7] ++ [z0, z1, z2, z3, z4, z5, z6, z7]))])) := owns_below HO8.out HB10.out
        clear hqq hb9 hB9 hn9 hb10
        go_wp2_with (first
         | (refine wp_storeR (by rfl) 45 (.tmp 12) (.tmp 86) (by rfl) db (by rfl) [.int .u8 (q0.toNat : Int), .int .u8 (q1.toNat : Int), .int .u8 (q2.toNat : Int), .int .u8 (q3.toNat : Int), .int .u8 (q4.toNat : Int), .int .u8 (q5.toNat : Int), .int .u8 (q6.toNat : Int), .int .u8 (q7.toNat : Int)] (by rfl) (l := [.int .u8 (z0.toNat : Int), .int .u8 (z1.toNat : Int), .int .u8 (z2.toNat : Int), .int .u8 (z3.toNat : Int), .int .u8 (z4.toNat : Int), .int .u8 (z5.toNat : Int), .int .u8 (z6.toNat : Int), .int .u8 (z7.toNat : Int)]) HR10.out rfl HSD.out (digsC_one [[q0, q1, q2, q3, q4, q5, q6, q7]]) ?_; intro w11 hr11 hf11 hz11))
        refine ⟨⟨i + 1, ⟨a8, ts.length + 1, c8⟩, ts ++ [(1 :: ([y0, y1, y2, y3, y4, y5, y6, y7] ++ [z0, z1, z2, z3, z4, z5, z6, z7]))], [q0, q1, q2, q3, q4, q5, q6, q7], hip, hif, by go_num, rfl, ⟨owns_frame HO10.out hf11 (fun k hk e => owns_ne HO10.out HR10.out (by decide) (e ▸ hk)), by rw [List.length_append, HTL.out]; rfl⟩, ⟨hr11, rfl⟩, ?_, (HB8.out.trans (HB10.out.mono HB8.out.size)).trans (hf11.below (Nat.le_trans HB8.out.size HB10.out.size) (fun k hk => by rw [hk]; exact HDB.out))⟩, by simp [intOf]; omega⟩
        unfold Hid
        rw [HJ.out, HDR.out, HDP.out, HFB.out]
        show ts ++ ((1 :: ([y0, y1, y2, y3, y4, y5, y6, y7] ++ [z0, z1, z2, z3, z4, z5, z6, z7])) :: jF (fl.reverse.drop (i + 1)) (path.drop (i + 1)) (digB ((1 :: ([y0, y1, y2, y3, y4, y5, y6, y7] ++ [z0, z1, z2, z3, z4, z5, z6, z7]))))) = _
        rw [HQQ.out, List.append_assoc]
        rfl
    ·have hifI : ¬ (i : Int) < fl.length := by omega
     obtain rfl : i = fl.length := by omega
     go_wp2
     go_ret
     refine ⟨v, rfl, ?_, HFIN.out⟩
     rw [HJF.out, HJ.out, List.drop_of_length_le (by simp)]
     simp only [jF, List.append_nil]
     exact owns_base HOT.out.1 (fun k hk => Nat.le_trans HB2.out.size (World.ownsRow.lt HOT.out.1 k hk).1)
   ·have hipI : ¬ (i : Int) < path.length := by omega
    obtain rfl : i = path.length := by omega
    go_wp2
    go_ret
    refine ⟨v, rfl, ?_, HFIN.out⟩
    rw [HJF.out, HJ.out, List.drop_length]
    have hj0 : ∀ bs : List Bool, jF bs [] d = [] := fun bs => by cases bs <;> rfl
    rw [hj0, List.append_nil]
    exact owns_base HOT.out.1 (fun k hk => Nat.le_trans HB2.out.size (World.ownsRow.lt HOT.out.1 k hk).1)
end Go.Proofs.Ytekegfbjbainhaa
