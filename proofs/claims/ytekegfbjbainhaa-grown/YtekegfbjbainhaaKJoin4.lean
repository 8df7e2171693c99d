import Derived.Test.YtekegfbjbainhaaKPr8
import Derived.Test.YtekegfbjbainhaaKJoin3
set_option linter.unusedVariables false
set_option linter.unusedSimpArgs false

namespace Go.Proofs.Ytekegfbjbainhaa
open Go.RowKit
attribute [local go_sem ↓] Go.wp_at_zero Go.wp_at_succ
set_option maxRecDepth 100000 in
set_option maxHeartbeats 400000 in
theorem len64_56 (x : Nat) (w : World) (hx : x < 18446744073709551616) (h0 : 72057594037927936 ≤ x) :
  Calls Try.prog 97 #[.int .u64 (x : Int)] w fun e w' => e = .returned (.int .i64 (Lib.bitLen x : Int)) ∧ w' = w := by
 have h1 : (4294967296 : Int) ≤ (x : Int) := by omega
 have h2 : (65536 : Int) ≤ (x : Int) / 4294967296 := by omega
 have h3 : (256 : Int) ≤ (x : Int) / 4294967296 / 65536 := by omega
 have h4 : (x : Int) / 4294967296 / 65536 / 256 < 256 := by omega
 have h5 : ((x : Int) / 4294967296 / 65536 / 256) % 256 = (x : Int) / 4294967296 / 65536 / 256 := by omega
 have h6 : (0 : Int) ≤ (x : Int) / 4294967296 / 65536 / 256 := by omega
 have hxI : (x : Int) < 18446744073709551616 := by omega
 have hd : x / 72057594037927936 < 256 := by omega
 have HT : Hid (lenT[x / 72057594037927936]?.map (·.toNat) = some (Lib.bitLen (x / 72057594037927936))) := lenT_eq ⟨x / 72057594037927936, hd⟩
 have hle : Lib.bitLen (x / 72057594037927936) ≤ 8 := Lib.bitLen_le8 ⟨x / 72057594037927936, hd⟩
 have HE : Hid (Lib.bitLen x = 56 + Lib.bitLen (x / 72057594037927936)) := Lib.bitLen_shift56 x h0 (by omega)
 rw [HE.out]
 clear HE
 generalize Lib.bitLen (x / 72057594037927936) = b at *
 have hbI : (b : Int) ≤ 8 := by omega
 go_enter Try.func97, Try.ntmps97
 go_wp2_with (refine wp_indexT (by rfl) 9 (.tmp 21) lenT (by rfl) (x / 72057594037927936) b (by exact congrArg (Value.int .u8) (by omega)) Try.underlying9 HT.out ?_)
 go_ret
 exact ⟨by congr 2, rfl⟩
set_option maxRecDepth 100000 in
set_option maxHeartbeats 400000 in
theorem len64_48 (x : Nat) (w : World) (hx : x < 72057594037927936) (h0 : 281474976710656 ≤ x) :
  Calls Try.prog 97 #[.int .u64 (x : Int)] w fun e w' => e = .returned (.int .i64 (Lib.bitLen x : Int)) ∧ w' = w := by
 have h1 : (4294967296 : Int) ≤ (x : Int) := by omega
 have h2 : (65536 : Int) ≤ (x : Int) / 4294967296 := by omega
 have h3 : ¬ (256 : Int) ≤ (x : Int) / 4294967296 / 65536 := by omega
 have h4 : (x : Int) / 4294967296 / 65536 < 256 := by omega
 have h5 : ((x : Int) / 4294967296 / 65536) % 256 = (x : Int) / 4294967296 / 65536 := by omega
 have h6 : (0 : Int) ≤ (x : Int) / 4294967296 / 65536 := by omega
 have hxI : (x : Int) < 72057594037927936 := by omega
 have hd : x / 281474976710656 < 256 := by omega
 have HT : Hid (lenT[x / 281474976710656]?.map (·.toNat) = some (Lib.bitLen (x / 281474976710656))) := lenT_eq ⟨x / 281474976710656, hd⟩
 have hle : Lib.bitLen (x / 281474976710656) ≤ 8 := Lib.bitLen_le8 ⟨x / 281474976710656, hd⟩
 have HE : Hid (Lib.bitLen x = 48 + Lib.bitLen (x / 281474976710656)) := Lib.bitLen_shift48 x h0 (by omega)
 rw [HE.out]
 clear HE
 generalize Lib.bitLen (x / 281474976710656) = b at *
 have hbI : (b : Int) ≤ 8 := by omega
 go_enter Try.func97, Try.ntmps97
 go_wp2_with (refine wp_indexT (by rfl) 9 (.tmp 21) lenT (by rfl) (x / 281474976710656) b (by exact congrArg (Value.int .u8) (by omega)) Try.underlying9 HT.out ?_)
 go_ret
 exact ⟨by congr 2, rfl⟩
set_option maxRecDepth 100000 in
set_option maxHeartbeats 400000 in
theorem len64_40 (x : Nat) (w : World) (hx : x < 281474976710656) (h0 : 1099511627776 ≤ x) :
  Calls Try.prog 97 #[.int .u64 (x : Int)] w fun e w' => e = .returned (.int .i64 (Lib.bitLen x : Int)) ∧ w' = w := by
 have h1 : (4294967296 : Int) ≤ (x : Int) := by omega
 have h2 : ¬ (65536 : Int) ≤ (x : Int) / 4294967296 := by omega
 have h3 : (256 : Int) ≤ (x : Int) / 4294967296 := by omega
 have h4 : (x : Int) / 4294967296 / 256 < 256 := by omega
 have h5 : ((x : Int) / 4294967296 / 256) % 256 = (x : Int) / 4294967296 / 256 := by omega
 have h6 : (0 : Int) ≤ (x : Int) / 4294967296 / 256 := by omega
 have hxI : (x : Int) < 281474976710656 := by omega
 have hd : x / 1099511627776 < 256 := by omega
 have HT : Hid (lenT[x / 1099511627776]?.map (·.toNat) = some (Lib.bitLen (x / 1099511627776))) := lenT_eq ⟨x / 1099511627776, hd⟩
 have hle : Lib.bitLen (x / 1099511627776) ≤ 8 := Lib.bitLen_le8 ⟨x / 1099511627776, hd⟩
 have HE : Hid (Lib.bitLen x = 40 + Lib.bitLen (x / 1099511627776)) := Lib.bitLen_shift40 x h0 (by omega)
 rw [HE.out]
 clear HE
 generalize Lib.bitLen (x / 1099511627776) = b at *
 have hbI : (b : Int) ≤ 8 := by omega
 go_enter Try.func97, Try.ntmps97
 go_wp2_with (refine wp_indexT (by rfl) 9 (.tmp 21) lenT (by rfl) (x / 1099511627776) b (by exact congrArg (Value.int .u8) (by omega)) Try.underlying9 HT.out ?_)
 go_ret
 exact ⟨by congr 2, rfl⟩
set_option maxRecDepth 100000 in
set_option maxHeartbeats 400000 in
theorem len64_32 (x : Nat) (w : World) (hx : x < 1099511627776) (h0 : 4294967296 ≤ x) :
  Calls Try.prog 97 #[.int .u64 (x : Int)] w fun e w' => e = .returned (.int .i64 (Lib.bitLen x : Int)) ∧ w' = w := by
 have h1 : (4294967296 : Int) ≤ (x : Int) := by omega
 have h2 : ¬ (65536 : Int) ≤ (x : Int) / 4294967296 := by omega
 have h3 : ¬ (256 : Int) ≤ (x : Int) / 4294967296 := by omega
 have h4 : (x : Int) / 4294967296 < 256 := by omega
 have h5 : ((x : Int) / 4294967296) % 256 = (x : Int) / 4294967296 := by omega
 have h6 : (0 : Int) ≤ (x : Int) / 4294967296 := by omega
 have hxI : (x : Int) < 1099511627776 := by omega
 have hd : x / 4294967296 < 256 := by omega
 have HT : Hid (lenT[x / 4294967296]?.map (·.toNat) = some (Lib.bitLen (x / 4294967296))) := lenT_eq ⟨x / 4294967296, hd⟩
 have hle : Lib.bitLen (x / 4294967296) ≤ 8 := Lib.bitLen_le8 ⟨x / 4294967296, hd⟩
 have HE : Hid (Lib.bitLen x = 32 + Lib.bitLen (x / 4294967296)) := Lib.bitLen_shift32 x h0 (by omega)
 rw [HE.out]
 clear HE
 generalize Lib.bitLen (x / 4294967296) = b at *
 have hbI : (b : Int) ≤ 8 := by omega
 go_enter Try.func97, Try.ntmps97
 go_wp2_with (refine wp_indexT (by rfl) 9 (.tmp 21) lenT (by rfl) (x / 4294967296) b (by exact congrArg (Value.int .u8) (by omega)) Try.underlying9 HT.out ?_)
 go_ret
 exact ⟨by congr 2, rfl⟩
set_option maxRecDepth 100000 in
set_option maxHeartbeats 400000 in
theorem len64_24 (x : Nat) (w : World) (hx : x < 4294967296) (h0 : 16777216 ≤ x) :
  Calls Try.prog 97 #[.int .u64 (x : Int)] w fun e w' => e = .returned (.int .i64 (Lib.bitLen x : Int)) ∧ w' = w := by
 have h1 : ¬ (4294967296 : Int) ≤ (x : Int) := by omega
 have h2 : (65536 : Int) ≤ (x : Int) := by omega
 have h3 : (256 : Int) ≤ (x : Int) / 65536 := by omega
 have h4 : (x : Int) / 65536 / 256 < 256 := by omega
 have h5 : ((x : Int) / 65536 / 256) % 256 = (x : Int) / 65536 / 256 := by omega
 have h6 : (0 : Int) ≤ (x : Int) / 65536 / 256 := by omega
 have hxI : (x : Int) < 4294967296 := by omega
 have hd : x / 16777216 < 256 := by omega
 have HT : Hid (lenT[x / 16777216]?.map (·.toNat) = some (Lib.bitLen (x / 16777216))) := lenT_eq ⟨x / 16777216, hd⟩
 have hle : Lib.bitLen (x / 16777216) ≤ 8 := Lib.bitLen_le8 ⟨x / 16777216, hd⟩
 have HE : Hid (Lib.bitLen x = 24 + Lib.bitLen (x / 16777216)) := Lib.bitLen_shift24 x h0 (by omega)
 rw [HE.out]
 clear HE
 generalize Lib.bitLen (x / 16777216) = b at *
 have hbI : (b : Int) ≤ 8 := by omega
 go_enter Try.func97, Try.ntmps97
 go_wp2_with (refine wp_indexT (by rfl) 9 (.tmp 21) lenT (by rfl) (x / 16777216) b (by exact congrArg (Value.int .u8) (by omega)) Try.underlying9 HT.out ?_)
 go_ret
 exact ⟨by congr 2, rfl⟩
set_option maxRecDepth 100000 in
set_option maxHeartbeats 400000 in
theorem len64_16 (x : Nat) (w : World) (hx : x < 16777216) (h0 : 65536 ≤ x) :
  Calls Try.prog 97 #[.int .u64 (x : Int)] w fun e w' => e = .returned (.int .i64 (Lib.bitLen x : Int)) ∧ w' = w := by
 have h1 : ¬ (4294967296 : Int) ≤ (x : Int) := by omega
 have h2 : (65536 : Int) ≤ (x : Int) := by omega
 have h3 : ¬ (256 : Int) ≤ (x : Int) / 65536 := by omega
 have h4 : (x : Int) / 65536 < 256 := by omega
 have h5 : ((x : Int) / 65536) % 256 = (x : Int) / 65536 := by omega
 have h6 : (0 : Int) ≤ (x : Int) / 65536 := by omega
 have hxI : (x : Int) < 16777216 := by omega
 have hd : x / 65536 < 256 := by omega
 have HT : Hid (lenT[x / 65536]?.map (·.toNat) = some (Lib.bitLen (x / 65536))) := lenT_eq ⟨x / 65536, hd⟩
 have hle : Lib.bitLen (x / 65536) ≤ 8 := Lib.bitLen_le8 ⟨x / 65536, hd⟩
 have HE : Hid (Lib.bitLen x = 16 + Lib.bitLen (x / 65536)) := Lib.bitLen_shift16 x h0 (by omega)
 rw [HE.out]
 clear HE
 generalize Lib.bitLen (x / 65536) = b at *
 have hbI : (b : Int) ≤ 8 := by omega
 go_enter Try.func97, Try.ntmps97
 go_wp2_with (refine wp_indexT (by rfl) 9 (.tmp 21) lenT (by rfl) (x / 65536) b (by exact congrArg (Value.int .u8) (by omega)) Try.underlying9 HT.out ?_)
 go_ret
 exact ⟨by congr 2, rfl⟩
set_option maxRecDepth 100000 in
set_option maxHeartbeats 400000 in
theorem len64_8 (x : Nat) (w : World) (hx : x < 65536) (h0 : 256 ≤ x) :
  Calls Try.prog 97 #[.int .u64 (x : Int)] w fun e w' => e = .returned (.int .i64 (Lib.bitLen x : Int)) ∧ w' = w := by
 have h1 : ¬ (4294967296 : Int) ≤ (x : Int) := by omega
 have h2 : ¬ (65536 : Int) ≤ (x : Int) := by omega
 have h3 : (256 : Int) ≤ (x : Int) := by omega
 have h4 : (x : Int) / 256 < 256 := by omega
 have h5 : ((x : Int) / 256) % 256 = (x : Int) / 256 := by omega
 have h6 : (0 : Int) ≤ (x : Int) / 256 := by omega
 have hxI : (x : Int) < 65536 := by omega
 have hd : x / 256 < 256 := by omega
 have HT : Hid (lenT[x / 256]?.map (·.toNat) = some (Lib.bitLen (x / 256))) := lenT_eq ⟨x / 256, hd⟩
 have hle : Lib.bitLen (x / 256) ≤ 8 := Lib.bitLen_le8 ⟨x / 256, hd⟩
 have HE : Hid (Lib.bitLen x = 8 + Lib.bitLen (x / 256)) := Lib.bitLen_shift8 x h0 (by omega)
 rw [HE.out]
 clear HE
 generalize Lib.bitLen (x / 256) = b at *
 have hbI : (b : Int) ≤ 8 := by omega
 go_enter Try.func97, Try.ntmps97
 go_wp2_with (refine wp_indexT (by rfl) 9 (.tmp 21) lenT (by rfl) (x / 256) b (by exact congrArg (Value.int .u8) (by omega)) Try.underlying9 HT.out ?_)
 go_ret
 exact ⟨by congr 2, rfl⟩
theorem len64_all (x : Nat) (w : World) (hx : x < 18446744073709551616) :
  Calls Try.prog 97 #[.int .u64 (x : Int)] w fun e w' => e = .returned (.int .i64 (Lib.bitLen x : Int)) ∧ w' = w := by
 by_cases h8 : x < 256
 ·exact len64_any x w h8
 by_cases h16 : x < 65536
 ·exact len64_8 x w h16 (by omega)
 by_cases h24 : x < 16777216
 ·exact len64_16 x w h24 (by omega)
 by_cases h32 : x < 4294967296
 ·exact len64_24 x w h32 (by omega)
 by_cases h40 : x < 1099511627776
 ·exact len64_32 x w h40 (by omega)
 by_cases h48 : x < 281474976710656
 ·exact len64_40 x w h48 (by omega)
 by_cases h56 : x < 72057594037927936
 ·exact len64_48 x w h56 (by omega)
 ·exact len64_56 x w hx (by omega)
set_option maxRecDepth 100000 in
theorem len_all (x : Nat) (w : World) (hx : x ≤ 9223372036854775807) :
  Calls Try.prog 86 #[.int .u64 (x : Int)] w fun e w' => e = .returned (.int .i64 (Lib.bitLen x : Int)) ∧ w' = w := by
 have HC : Hid (Calls _ _ _ _ _) := len64_all x w (by omega)
 generalize Lib.bitLen x = b at *
 have h4 : (x : Int) ≤ 9223372036854775807 := by omega
 clear hx
 go_enter Try.func86, Try.ntmps86
 go_wp2_with (go_at_call 97; refine HC.out.mono ?_; rintro e w1 ⟨rfl, hw1⟩; obtain rfl : w = w1 := hw1.symm)
 go_ret
 exact ⟨rfl, rfl⟩
theorem bitLen_in : ∀ (k x : Nat), x < 2 ^ k → k ≤ 64 → 1 ≤ x → 1 ≤ Lib.bitLen x ∧ 2 ^ (Lib.bitLen x - 1) ≤ x ∧ x < 2 ^ Lib.bitLen x ∧ Lib.bitLen x ≤ k
 | 0, x, h, _, h1 => by simp at h; omega
 | k + 1, x, h, hk, h1 => by
  have h64 : x < 2 ^ 64 := Nat.lt_of_lt_of_le h (Nat.pow_le_pow_right (by omega) hk)
  rw [Lib.bitLen_half x (by omega) h64]
  by_cases h0 : x / 2 = 0
  ·have hx : x = 1 := by omega
   subst hx
   rw [show (1 : Nat) / 2 = 0 from rfl, show Lib.bitLen 0 = 0 from rfl]
   exact ⟨by omega, by omega, by omega, by omega⟩
  ·obtain ⟨g1, g2, g3, g4⟩ := bitLen_in k (x / 2) (by rw [Nat.pow_succ] at h; omega) (by omega) (by omega)
   refine ⟨by omega, ?_, ?_, by omega⟩
   ·rw [show 1 + Lib.bitLen (x / 2) - 1 = (Lib.bitLen (x / 2) - 1) + 1 by omega, Nat.pow_succ]; omega
   ·rw [Nat.add_comm 1, Nat.pow_succ]; omega
theorem halfF_pow : ∀ (f c n : Nat), 2 ^ c < n → n ≤ 2 ^ (c + f + 1) → ∃ a, halfF f (2 ^ c) n = 2 ^ a ∧ 2 ^ a < n ∧ n ≤ 2 ^ (a + 1)
 | 0, c, n, h1, h2 => ⟨c, rfl, h1, h2⟩
 | f + 1, c, n, h1, h2 => by
  unfold halfF
  split
  ·rw [show 2 * 2 ^ c = 2 ^ (c + 1) by rw [Nat.pow_succ, Nat.mul_comm]]
   have e : 2 ^ (c + 1) = 2 ^ c * 2 := Nat.pow_succ 2 c
   exact halfF_pow f (c + 1) n (by omega) (by rw [show c + 1 + f + 1 = c + (f + 1) + 1 by omega]; exact h2)
  ·have e : 2 ^ (c + 1) = 2 ^ c * 2 := Nat.pow_succ 2 c
   exact ⟨c, rfl, h1, by omega⟩
theorem half_bits (x : Nat) (h1 : 1 ≤ x) (hx : x < 2 ^ 63) : 1 ≤ Lib.bitLen x ∧ Lib.bitLen x ≤ 63 ∧ 2 ^ (Lib.bitLen x - 1) = halfN (x + 1) := by
 obtain ⟨g1, g2, g3, g4⟩ := bitLen_in 63 x hx (by omega) h1
 obtain ⟨a, ha, ha1, ha2⟩ := halfF_pow 64 0 (x + 1) (by omega) (by have := Nat.pow_le_pow_right (n := 2) (by omega) (show 63 ≤ 0 + 64 + 1 by omega); omega)
 refine ⟨g1, g4, ?_⟩
 have e : halfN (x + 1) = 2 ^ a := ha
 rw [e]
 have p1 : 2 ^ (Lib.bitLen x - 1) < 2 ^ (a + 1) := by omega
 have p2 : 2 ^ a < 2 ^ Lib.bitLen x := by omega
 have q1 := (Nat.pow_lt_pow_iff_right (by omega : 1 < 2)).1 p1
 have q2 := (Nat.pow_lt_pow_iff_right (by omega : 1 < 2)).1 p2
 congr 1
 omega
set_option maxRecDepth 100000 in
set_option maxHeartbeats 400000 in
theorem first_all (n : Nat) (w : World) (hn2 : 2 ≤ n) (hn : n ≤ 9223372036854775807) :
  Calls Try.prog 66 #[.int .i64 (n : Int)] w fun e w' => e = .returned (.int .i64 (halfN n : Int)) ∧ w' = w := by
 obtain ⟨x, rfl⟩ : ∃ x, n = x + 1 := ⟨n - 1, by omega⟩
 have hT := half_bits x (by omega) (by omega)
 have HC : Hid (Calls _ _ _ _ _) := len_all x w (by omega)
 have hxI : ((x + 1 : Nat) : Int) - 1 = (x : Int) := by omega
 have hx2 : (x : Int) ≤ 9223372036854775807 := by omega
 have HX : Hid (((x + 1 : Nat) : Int) = (x : Int) + 1) := by unfold Hid; omega
 generalize halfN (x + 1) = h at *
 generalize Lib.bitLen x = b at *
 obtain ⟨hb1, hb2, hb3⟩ := hT
 obtain ⟨c, rfl⟩ : ∃ c, b = c + 1 := ⟨b - 1, by omega⟩
 simp only [Nat.add_sub_cancel] at hb3
 have hcI : ((c + 1 : Nat) : Int) - 1 = (c : Int) := by omega
 have hc7 : (c : Int) ≤ 62 := by omega
 have hc8 : c ≤ 62 := by omega
 have HW : Hid (wrap64 ((2 : Int) ^ c) = (h : Int)) := by
  unfold Hid
  rw [← hb3]
  have hq : ∀ q : Fin 63, wrap64 ((2 : Int) ^ q.val) = ((2 ^ q.val : Nat) : Int) := by decide +kernel
  exact hq ⟨c, by omega⟩
 clear hb1 hb2 hn2 hn hb3
 go_enter Try.func66, Try.ntmps66
 go_wp2_with (go_at_call 86; refine HC.out.mono ?_; rintro e w1 ⟨rfl, hw1⟩; obtain rfl : w = w1 := hw1.symm)
 go_ret
 exact ⟨by rw [← HW.out]; rfl, rfl⟩
end Go.Proofs.Ytekegfbjbainhaa


namespace Go.Proofs.Ytekegfbjbainhaa
open Go.RowKit
attribute [local go_sem ↓] Go.wp_at_zero Go.wp_at_succ
def nulD : List UInt8 := [0, 0, 0, 0, 0, 0, 0, 0]
def thrF : Nat → Nat → List UInt8 → List (List UInt8) → List UInt8 × Bool
 | _, n, root, [] => if n = 1 then (digB (0 :: root), true) else (nulD, false)
 | e, n, root, x :: r => if n = 1 then (digB (0 :: root), false) else
  if e < halfN n then (digB (1 :: ((thrF e (halfN n) root r).1 ++ x)), (thrF e (halfN n) root r).2)
  else (digB (1 :: (x ++ (thrF (e - halfN n) (n - halfN n) root r).1)), (thrF (e - halfN n) (n - halfN n) root r).2)
theorem thrF_length : ∀ (r : List (List UInt8)) (e n : Nat) (root : List UInt8), (thrF e n root r).1.length = 8
 | [], e, n, root => by
  unfold thrF
  split
  ·exact digB_length _
  ·rfl
 | x :: r, e, n, root => by
  unfold thrF
  split
  ·exact digB_length _
  ·split
   ·exact digB_length _
   ·exact digB_length _
theorem ret_dig2 {fn : Func} {R : Ending → World → Prop} {a : Act} {w : World} {k j b : Nat} {d : List UInt8} {v : Value} (hf : fn.results = #[ResultVar.cell k 45, ResultVar.tmp j]) (ha : a.tmps.getD k undef = .pointer (some ⟨b, 0, none⟩))
  (hR : RowV w b 45 (d.map u8c)) (hd : d.length = 8) (hj : a.tmps.getD j undef = v) (hdf : a.defers = []) (h : R (.returned (.tuple #[dV d, v])) w) : bodyPost Try.prog fn R .ret a w := by
 refine bodyPost_ret (v := .tuple #[dV d, v]) ?_ hdf h
 have hl := run_loadVar_mid (P := Try.prog) w b 0 45 (d.map u8c) _ hR.range Try.underlying45 rfl (by simpa [hd] using Try.infoDig)
 have ha' : a.tmps[k]?.getD undef = .pointer (some ⟨b, 0, none⟩) := by rw [← ha]; simp [Array.getD_eq_getD_getElem?]
 have hj' : a.tmps[j]?.getD undef = v := by rw [← hj]; simp [Array.getD_eq_getD_getElem?]
 unfold results
 rw [hf]
 simp [ha', hl, hj', dV, asAddr]
theorem SlD.last {w : World} {b o : Nat} {r : List (List UInt8)} {x : List UInt8} (h : SlD w (some ⟨b, o, none⟩) (x :: r).reverse) : w.rangeAt b (o + r.length * 8) (x.map u8c) ∧ SlD w (some ⟨b, o, none⟩) r.reverse ∧ x.length = 8 := by
 rw [List.reverse_cons] at h
 have hx : x.length = 8 := h.2 x (by simp)
 have hd := h.drop r.length (by simp)
 rw [show (r.reverse ++ [x]).drop r.length = [x] by rw [List.drop_append_of_le_length (by simp), List.drop_of_length_le (by simp)]; rfl] at hd
 have ht := h.take r.length (by simp)
 rw [show (r.reverse ++ [x]).take r.length = r.reverse by rw [List.take_append_of_le_length (by simp), List.take_of_length_le (by simp)]] at ht
 refine ⟨fun j v hv => ?_, ht, hx⟩
 obtain ⟨hj, hv⟩ := List.getElem?_eq_some_iff.1 hv
 obtain ⟨b', o', ha, hb', hc'⟩ := hd.1 j (by simpa [digsC] using hj)
 cases ha
 rw [hc']
 simp only [digsC, List.flatMap_cons, List.flatMap_nil, List.append_nil]
 rw [hv]
theorem SlD.addr {w : World} {a : Option Addr} {x : List UInt8} {l : List (List UInt8)} (h : SlD w a (x :: l)) : ∃ b o, a = some ⟨b, o, none⟩ ∧ b < w.heap.size := by
 have hx : x.length = 8 := h.2 x (by simp)
 obtain ⟨b, o, ha, hb, _⟩ := h.1 0 (by rw [digsC_length _ h.2]; simp)
 exact ⟨b, o, ha, hb⟩
end Go.Proofs.Ytekegfbjbainhaa
