import Derived.Test.YtekegfbjbainhaaGreatKJoin5
import Derived.Test.YtekegfbjbainhaaGreatKJoin4
set_option linter.unusedVariables false
set_option linter.unusedSimpArgs false

namespace Go.Proofs.YtekegfbjbainhaaGreat
open Go.RowKit
attribute [local go_sem ↓] Go.wp_at_zero Go.wp_at_succ
set_option maxRecDepth 100000 in
set_option maxHeartbeats 400000 in
theorem len64_56 (x : Nat) (w : World) (hx : x < 18446744073709551616) (h0 : 72057594037927936 ≤ x) :
  Calls Tryz.prog 158 #[.int .u64 (x : Int)] w fun e w' => e = .returned (.int .i64 (Lib.bitLen x : Int)) ∧ w' = w := by
 have h1 : (4294967296 : Int) ≤ (x : Int) := by omega
 have h2 : (65536 : Int) ≤ (x : Int) / 4294967296 := by omega
 have h3 : (256 : Int) ≤ (x : Int) / 4294967296 / 65536 := by omega
 have h4 : (x : Int) / 4294967296 / 65536 / 256 < 256 := by omega
 have h5 : ((x : Int) / 4294967296 / 65536 / 256) % 256 = (x : Int) / 4294967296 / 65536 / 256 := by omega
 have h6 : (0 : Int) ≤ (x : Int) / 4294967296 / 65536 / 256 := by omega
 have hxI : (x : Int) < 18446744073709551616 := by omega
 have hd : x / 72057594037927936 < 256 := by omega
 have HT : Hid (lenT[x / 72057594037927936]?.map (·.toNat) = some (Lib.bitLen (x / 72057594037927936))) := lenT_eq ⟨x / 72057594037927936, hd⟩
 have hle : Lib.bitLen (x / 72057594037927936) ≤ 8 := Lib.bitLen_le8 ⟨x / 72057594037927936, hd⟩
 have HE : Hid (Lib.bitLen x = 56 + Lib.bitLen (x / 72057594037927936)) := Lib.bitLen_shift56 x h0 (by omega)
 rw [HE.out]
 clear HE
 generalize Lib.bitLen (x / 72057594037927936) = b at *
 have hbI : (b : Int) ≤ 8 := by omega
 go_enter Tryz.func158, Tryz.ntmps158
 go_wp2_with (refine wp_indexT (by rfl) 9 (.tmp 21) lenT (by rfl) (x / 72057594037927936) b (by exact congrArg (Value.int .u8) (by omega)) Tryz.underlying9 HT.out ?_)
 go_ret
 exact ⟨by congr 2, rfl⟩
set_option maxRecDepth 100000 in
set_option maxHeartbeats 400000 in
theorem len64_48 (x : Nat) (w : World) (hx : x < 72057594037927936) (h0 : 281474976710656 ≤ x) :
  Calls Tryz.prog 158 #[.int .u64 (x : Int)] w fun e w' => e = .returned (.int .i64 (Lib.bitLen x : Int)) ∧ w' = w := by
 have h1 : (4294967296 : Int) ≤ (x : Int) := by omega
 have h2 : (65536 : Int) ≤ (x : Int) / 4294967296 := by omega
 have h3 : ¬ (256 : Int) ≤ (x : Int) / 4294967296 / 65536 := by omega
 have h4 : (x : Int) / 4294967296 / 65536 < 256 := by omega
 have h5 : ((x : Int) / 4294967296 / 65536) % 256 = (x : Int) / 4294967296 / 65536 := by omega
 have h6 : (0 : Int) ≤ (x : Int) / 4294967296 / 65536 := by omega
 have hxI : (x : Int) < 72057594037927936 := by omega
 have hd : x / 281474976710656 < 256 := by omega
 have HT : Hid (lenT[x / 281474976710656]?.map (·.toNat) = some (Lib.bitLen (x / 281474976710656))) := lenT_eq ⟨x / 281474976710656, hd⟩
 have hle : Lib.bitLen (x / 281474976710656) ≤ 8 := Lib.bitLen_le8 ⟨x / 281474976710656, hd⟩
 have HE : Hid (Lib.bitLen x = 48 + Lib.bitLen (x / 281474976710656)) := Lib.bitLen_shift48 x h0 (by omega)
 rw [HE.out]
 clear HE
 generalize Lib.bitLen (x / 281474976710656) = b at *
 have hbI : (b : Int) ≤ 8 := by omega
 go_enter Tryz.func158, Tryz.ntmps158
 go_wp2_with (refine wp_indexT (by rfl) 9 (.tmp 21) lenT (by rfl) (x / 281474976710656) b (by exact congrArg (Value.int .u8) (by omega)) Tryz.underlying9 HT.out ?_)
 go_ret
 exact ⟨by congr 2, rfl⟩
set_option maxRecDepth 100000 in
set_option maxHeartbeats 400000 in
theorem len64_40 (x : Nat) (w : World) (hx : x < 281474976710656) (h0 : 1099511627776 ≤ x) :
  Calls Tryz.prog 158 #[.int .u64 (x : Int)] w fun e w' => e = .returned (.int .i64 (Lib.bitLen x : Int)) ∧ w' = w := by
 have h1 : (4294967296 : Int) ≤ (x : Int) := by omega
 have h2 : ¬ (65536 : Int) ≤ (x : Int) / 4294967296 := by omega
 have h3 : (256 : Int) ≤ (x : Int) / 4294967296 := by omega
 have h4 : (x : Int) / 4294967296 / 256 < 256 := by omega
 have h5 : ((x : Int) / 4294967296 / 256) % 256 = (x : Int) / 4294967296 / 256 := by omega
 have h6 : (0 : Int) ≤ (x : Int) / 4294967296 / 256 := by omega
 have hxI : (x : Int) < 281474976710656 := by omega
 have hd : x / 1099511627776 < 256 := by omega
 have HT : Hid (lenT[x / 1099511627776]?.map (·.toNat) = some (Lib.bitLen (x / 1099511627776))) := lenT_eq ⟨x / 1099511627776, hd⟩
 have hle : Lib.bitLen (x / 1099511627776) ≤ 8 := Lib.bitLen_le8 ⟨x / 1099511627776, hd⟩
 have HE : Hid (Lib.bitLen x = 40 + Lib.bitLen (x / 1099511627776)) := Lib.bitLen_shift40 x h0 (by omega)
 rw [HE.out]
 clear HE
 generalize Lib.bitLen (x / 1099511627776) = b at *
 have hbI : (b : Int) ≤ 8 := by omega
 go_enter Tryz.func158, Tryz.ntmps158
 go_wp2_with (refine wp_indexT (by rfl) 9 (.tmp 21) lenT (by rfl) (x / 1099511627776) b (by exact congrArg (Value.int .u8) (by omega)) Tryz.underlying9 HT.out ?_)
 go_ret
 exact ⟨by congr 2, rfl⟩
set_option maxRecDepth 100000 in
set_option maxHeartbeats 400000 in
theorem len64_32 (x : Nat) (w : World) (hx : x < 1099511627776) (h0 : 4294967296 ≤ x) :
  Calls Tryz.prog 158 #[.int .u64 (x : Int)] w fun e w' => e = .returned (.int .i64 (Lib.bitLen x : Int)) ∧ w' = w := by
 have h1 : (4294967296 : Int) ≤ (x : Int) := by omega
 have h2 : ¬ (65536 : Int) ≤ (x : Int) / 4294967296 := by omega
 have h3 : ¬ (256 : Int) ≤ (x : Int) / 4294967296 := by omega
 have h4 : (x : Int) / 4294967296 < 256 := by omega
 have h5 : ((x : Int) / 4294967296) % 256 = (x : Int) / 4294967296 := by omega
 have h6 : (0 : Int) ≤ (x : Int) / 4294967296 := by omega
 have hxI : (x : Int) < 1099511627776 := by omega
 have hd : x / 4294967296 < 256 := by omega
 have HT : Hid (lenT[x / 4294967296]?.map (·.toNat) = some (Lib.bitLen (x / 4294967296))) := lenT_eq ⟨x / 4294967296, hd⟩
 have hle : Lib.bitLen (x / 4294967296) ≤ 8 := Lib.bitLen_le8 ⟨x / 4294967296, hd⟩
 have HE : Hid (Lib.bitLen x = 32 + Lib.bitLen (x / 4294967296)) := Lib.bitLen_shift32 x h0 (by omega)
 rw [HE.out]
 clear HE
 generalize Lib.bitLen (x / 4294967296) = b at *
 have hbI : (b : Int) ≤ 8 := by omega
 go_enter Tryz.func158, Tryz.ntmps158
 go_wp2_with (refine wp_indexT (by rfl) 9 (.tmp 21) lenT (by rfl) (x / 4294967296) b (by exact congrArg (Value.int .u8) (by omega)) Tryz.underlying9 HT.out ?_)
 go_ret
 exact ⟨by congr 2, rfl⟩
set_option maxRecDepth 100000 in
set_option maxHeartbeats 400000 in
theorem len64_24 (x : Nat) (w : World) (hx : x < 4294967296) (h0 : 16777216 ≤ x) :
  Calls Tryz.prog 158 #[.int .u64 (x : Int)] w fun e w' => e = .returned (.int .i64 (Lib.bitLen x : Int)) ∧ w' = w := by
 have h1 : ¬ (4294967296 : Int) ≤ (x : Int) := by omega
 have h2 : (65536 : Int) ≤ (x : Int) := by omega
 have h3 : (256 : Int) ≤ (x : Int) / 65536 := by omega
 have h4 : (x : Int) / 65536 / 256 < 256 := by omega
 have h5 : ((x : Int) / 65536 / 256) % 256 = (x : Int) / 65536 / 256 := by omega
 have h6 : (0 : Int) ≤ (x : Int) / 65536 / 256 := by omega
 have hxI : (x : Int) < 4294967296 := by omega
 have hd : x / 16777216 < 256 := by omega
 have HT : Hid (lenT[x / 16777216]?.map (·.toNat) = some (Lib.bitLen (x / 16777216))) := lenT_eq ⟨x / 16777216, hd⟩
 have hle : Lib.bitLen (x / 16777216) ≤ 8 := Lib.bitLen_le8 ⟨x / 16777216, hd⟩
 have HE : Hid (Lib.bitLen x = 24 + Lib.bitLen (x / 16777216)) := Lib.bitLen_shift24 x h0 (by omega)
 rw [HE.out]
 clear HE
 generalize Lib.bitLen (x / 16777216) = b at *
 have hbI : (b : Int) ≤ 8 := by omega
 go_enter Tryz.func158, Tryz.ntmps158
 go_wp2_with (refine wp_indexT (by rfl) 9 (.tmp 21) lenT (by rfl) (x / 16777216) b (by exact congrArg (Value.int .u8) (by omega)) Tryz.underlying9 HT.out ?_)
 go_ret
 exact ⟨by congr 2, rfl⟩
set_option maxRecDepth 100000 in
set_option maxHeartbeats 400000 in
theorem len64_16 (x : Nat) (w : World) (hx : x < 16777216) (h0 : 65536 ≤ x) :
  Calls Tryz.prog 158 #[.int .u64 (x : Int)] w fun e w' => e = .returned (.int .i64 (Lib.bitLen x : Int)) ∧ w' = w := by
 have h1 : ¬ (4294967296 : Int) ≤ (x : Int) := by omega
 have h2 : (65536 : Int) ≤ (x : Int) := by omega
 have h3 : ¬ (256 : Int) ≤ (x : Int) / 65536 := by omega
 have h4 : (x : Int) / 65536 < 256 := by omega
 have h5 : ((x : Int) / 65536) % 256 = (x : Int) / 65536 := by omega
 have h6 : (0 : Int) ≤ (x : Int) / 65536 := by omega
 have hxI : (x : Int) < 16777216 := by omega
 have hd : x / 65536 < 256 := by omega
 have HT : Hid (lenT[x / 65536]?.map (·.toNat) = some (Lib.bitLen (x / 65536))) := lenT_eq ⟨x / 65536, hd⟩
 have hle : Lib.bitLen (x / 65536) ≤ 8 := Lib.bitLen_le8 ⟨x / 65536, hd⟩
 have HE : Hid (Lib.bitLen x = 16 + Lib.bitLen (x / 65536)) := Lib.bitLen_shift16 x h0 (by omega)
 rw [HE.out]
 clear HE
 generalize Lib.bitLen (x / 65536) = b at *
 have hbI : (b : Int) ≤ 8 := by omega
 go_enter Tryz.func158, Tryz.ntmps158
 go_wp2_with (refine wp_indexT (by rfl) 9 (.tmp 21) lenT (by rfl) (x / 65536) b (by exact congrArg (Value.int .u8) (by omega)) Tryz.underlying9 HT.out ?_)
 go_ret
 exact ⟨by congr 2, rfl⟩
set_option maxRecDepth 100000 in
set_option maxHeartbeats 400000 in
theorem len64_8 (x : Nat) (w : World) (hx : x < 65536) (h0 : 256 ≤ x) :
  Calls Tryz.prog 158 #[.int .u64 (x : Int)] w fun e w' => e = .returned (.int .i64 (Lib.bitLen x : Int)) ∧ w' = w := by
 have h1 : ¬ (4294967296 : Int) ≤ (x : Int) := by omega
 have h2 : ¬ (65536 : Int) ≤ (x : Int) := by omega
 have h3 : (256 : Int) ≤ (x : Int) := by omega
 have h4 : (x : Int) / 256 < 256 := by omega
 have h5 : ((x : Int) / 256) % 256 = (x : Int) / 256 := by omega
 have h6 : (0 : Int) ≤ (x : Int) / 256 := by omega
 have hxI : (x : Int) < 65536 := by omega
 have hd : x / 256 < 256 := by omega
 have HT : Hid (lenT[x / 256]?.map (·.toNat) = some (Lib.bitLen (x / 256))) := lenT_eq ⟨x / 256, hd⟩
 have hle : Lib.bitLen (x / 256) ≤ 8 := Lib.bitLen_le8 ⟨x / 256, hd⟩
 have HE : Hid (Lib.bitLen x = 8 + Lib.bitLen (x / 256)) := Lib.bitLen_shift8 x h0 (by omega)
 rw [HE.out]
 clear HE
 generalize Lib.bitLen (x / 256) = b at *
 have hbI : (b : Int) ≤ 8 := by omega
 go_enter Tryz.func158, Tryz.ntmps158
 go_wp2_with (refine wp_indexT (by rfl) 9 (.tmp 21) lenT (by rfl) (x / 256) b (by exact congrArg (Value.int .u8) (by omega)) Tryz.underlying9 HT.out ?_)
 go_ret
 exact ⟨by congr 2, rfl⟩
theorem len64_all (x : Nat) (w : World) (hx : x < 18446744073709551616) :
  Calls Tryz.prog 158 #[.int .u64 (x : Int)] w fun e w' => e = .returned (.int .i64 (Lib.bitLen x : Int)) ∧ w' = w := by
 by_cases h8 : x < 256
 ·exact len64_any x w h8
 by_cases h16 : x < 65536
 ·exact len64_8 x w h16 (by omega)
 by_cases h24 : x < 16777216
 ·exact len64_16 x w h24 (by omega)
 by_cases h32 : x < 4294967296
 ·exact len64_24 x w h32 (by omega)
 by_cases h40 : x < 1099511627776
 ·exact len64_32 x w h40 (by omega)
 by_cases h48 : x < 281474976710656
 ·exact len64_40 x w h48 (by omega)
 by_cases h56 : x < 72057594037927936
 ·exact len64_48 x w h56 (by omega)
 ·exact len64_56 x w hx (by omega)
set_option maxRecDepth 100000 in
theorem len_all (x : Nat) (w : World) (hx : x ≤ 9223372036854775807) :
  Calls Tryz.prog 147 #[.int .u64 (x : Int)] w fun e w' => e = .returned (.int .i64 (Lib.bitLen x : Int)) ∧ w' = w := by
 have HC : Hid (Calls _ _ _ _ _) := len64_all x w (by omega)
 generalize Lib.bitLen x = b at *
 have h4 : (x : Int) ≤ 9223372036854775807 := by omega
 clear hx
 go_enter Tryz.func147, Tryz.ntmps147
 go_wp2_with (go_at_call 158; refine HC.out.mono ?_; rintro e w1 ⟨rfl, hw1⟩; obtain rfl : w = w1 := hw1.symm)
 go_ret
 exact ⟨rfl, rfl⟩
theorem bitLen_in : ∀ (k x : Nat), x < 2 ^ k → k ≤ 64 → 1 ≤ x → 1 ≤ Lib.bitLen x ∧ 2 ^ (Lib.bitLen x - 1) ≤ x ∧ x < 2 ^ Lib.bitLen x ∧ Lib.bitLen x ≤ k
 | 0, x, h, _, h1 => by simp at h; omega
 | k + 1, x, h, hk, h1 => by
  have h64 : x < 2 ^ 64 := Nat.lt_of_lt_of_le h (Nat.pow_le_pow_right (by omega) hk)
  rw [Lib.bitLen_half x (by omega) h64]
  by_cases h0 : x / 2 = 0
  ·have hx : x = 1 := by omega
   subst hx
   rw [show (1 : Nat) / 2 = 0 from rfl, show Lib.bitLen 0 = 0 from rfl]
   exact ⟨by omega, by omega, by omega, by omega⟩
  ·obtain ⟨g1, g2, g3, g4⟩ := bitLen_in k (x / 2) (by rw [Nat.pow_succ] at h; omega) (by omega) (by omega)
   refine ⟨by omega, ?_, ?_, by omega⟩
   ·rw [show 1 + Lib.bitLen (x / 2) - 1 = (Lib.bitLen (x / 2) - 1) + 1 by omega, Nat.pow_succ]; omega
   ·rw [Nat.add_comm 1, Nat.pow_succ]; omega
theorem halfF_pow : ∀ (f c n : Nat), 2 ^ c < n → n ≤ 2 ^ (c + f + 1) → ∃ a, halfF f (2 ^ c) n = 2 ^ a ∧ 2 ^ a < n ∧ n ≤ 2 ^ (a + 1)
 | 0, c, n, h1, h2 => ⟨c, rfl, h1, h2⟩
 | f + 1, c, n, h1, h2 => by
  unfold halfF
  split
  ·rw [show 2 * 2 ^ c = 2 ^ (c + 1) by rw [Nat.pow_succ, Nat.mul_comm]]
   have e : 2 ^ (c + 1) = 2 ^ c * 2 := Nat.pow_succ 2 c
   exact halfF_pow f (c + 1) n (by omega) (by rw [show c + 1 + f + 1 = c + (f + 1) + 1 by omega]; exact h2)
  ·have e : 2 ^ (c + 1) = 2 ^ c * 2 := Nat.pow_succ 2 c
   exact ⟨c, rfl, h1, by omega⟩
theorem half_bits (x : Nat) (h1 : 1 ≤ x) (hx : x < 2 ^ 63) : 1 ≤ Lib.bitLen x ∧ Lib.bitLen x ≤ 63 ∧ 2 ^ (Lib.bitLen x - 1) = halfN (x + 1) := by
 obtain ⟨g1, g2, g3, g4⟩ := bitLen_in 63 x hx (by omega) h1
 obtain ⟨a, ha, ha1, ha2⟩ := halfF_pow 64 0 (x + 1) (by omega) (by have := Nat.pow_le_pow_right (n := 2) (by omega) (show 63 ≤ 0 + 64 + 1 by omega); omega)
 refine ⟨g1, g4, ?_⟩
 have e : halfN (x + 1) = 2 ^ a := ha
 rw [e]
 have p1 : 2 ^ (Lib.bitLen x - 1) < 2 ^ (a + 1) := by omega
 have p2 : 2 ^ a < 2 ^ Lib.bitLen x := by omega
 have q1 := (Nat.pow_lt_pow_iff_right (by omega : 1 < 2)).1 p1
 have q2 := (Nat.pow_lt_pow_iff_right (by omega : 1 < 2)).1 p2
 congr 1
 omega
set_option maxRecDepth 100000 in
set_option maxHeartbeats 400000 in
theorem first_all (n : Nat) (w : World) (hn2 : 2 ≤ n) (hn : n ≤ 9223372036854775807) :
  Calls Tryz.prog 128 #[.int .i64 (n : Int)] w fun e w' => e = .returned (.int .i64 (halfN n : Int)) ∧ w' = w := by
 obtain ⟨x, rfl⟩ : ∃ x, n = x + 1 := ⟨n - 1, by omega⟩
 have hT := half_bits x (by omega) (by omega)
 have HC : Hid (Calls _ _ _ _ _) := len_all x w (by omega)
 have hxI : ((x + 1 : Nat) : Int) - 1 = (x : Int) := by omega
 have hx2 : (x : Int) ≤ 9223372036854775807 := by omega
 have HX : Hid (((x + 1 : Nat) : Int) = (x : Int) + 1) := by unfold Hid; omega
 generalize halfN (x + 1) = h at *
 generalize Lib.bitLen x = b at *
 obtain ⟨hb1, hb2, hb3⟩ := hT
 obtain ⟨c, rfl⟩ : ∃ c, b = c + 1 := ⟨b - 1, by omega⟩
 simp only [Nat.add_sub_cancel] at hb3
 have hcI : ((c + 1 : Nat) : Int) - 1 = (c : Int) := by omega
 have hc7 : (c : Int) ≤ 62 := by omega
 have hc8 : c ≤ 62 := by omega
 have HW : Hid (wrap64 ((2 : Int) ^ c) = (h : Int)) := by
  unfold Hid
  rw [← hb3]
  have hq : ∀ q : Fin 63, wrap64 ((2 : Int) ^ q.val) = ((2 ^ q.val : Nat) : Int) := by decide +kernel
  exact hq ⟨c, by omega⟩
 clear hb1 hb2 hn2 hn hb3
 go_enter Tryz.func128, Tryz.ntmps128
 go_wp2_with (go_at_call 147; refine HC.out.mono ?_; rintro e w1 ⟨rfl, hw1⟩; obtain rfl : w = w1 := hw1.symm)
 go_ret
 exact ⟨by rw [← HW.out]; rfl, rfl⟩
end Go.Proofs.YtekegfbjbainhaaGreat


namespace Go.Proofs.YtekegfbjbainhaaGreat
open Go.RowKit
attribute [local go_sem ↓] Go.wp_at_zero Go.wp_at_succ
def nulD : List UInt8 := [0, 0, 0, 0, 0, 0, 0, 0]
def thrF : Nat → Nat → List UInt8 → List (List UInt8) → List UInt8 × Bool
 | _, n, root, [] => if n = 1 then (digB (0 :: root), true) else (nulD, false)
 | e, n, root, x :: r => if n = 1 then (digB (0 :: root), false) else
  if e < halfN n then (digB (1 :: ((thrF e (halfN n) root r).1 ++ x)), (thrF e (halfN n) root r).2)
  else (digB (1 :: (x ++ (thrF (e - halfN n) (n - halfN n) root r).1)), (thrF (e - halfN n) (n - halfN n) root r).2)
theorem thrF_length : ∀ (r : List (List UInt8)) (e n : Nat) (root : List UInt8), (thrF e n root r).1.length = 8
 | [], e, n, root => by
  unfold thrF
  split
  ·exact digB_length _
  ·rfl
 | x :: r, e, n, root => by
  unfold thrF
  split
  ·exact digB_length _
  ·split
   ·exact digB_length _
   ·exact digB_length _
theorem ret_dig2 {fn : Func} {R : Ending → World → Prop} {a : Act} {w : World} {k j b : Nat} {d : List UInt8} {v : Value} (hf : fn.results = #[ResultVar.cell k 36, ResultVar.tmp j]) (ha : a.tmps.getD k undef = .pointer (some ⟨b, 0, none⟩))
  (hR : RowV w b 36 (d.map u8c)) (hd : d.length = 8) (hj : a.tmps.getD j undef = v) (hdf : a.defers = []) (h : R (.returned (.tuple #[dV d, v])) w) : bodyPost Tryz.prog fn R .ret a w := by
 refine bodyPost_ret (v := .tuple #[dV d, v]) ?_ hdf h
 have hl := run_loadVar_mid (P := Tryz.prog) w b 0 36 (d.map u8c) _ hR.range Tryz.underlying36 rfl (by simpa [hd] using Tryz.infoDig)
 have ha' : a.tmps[k]?.getD undef = .pointer (some ⟨b, 0, none⟩) := by rw [← ha]; simp [Array.getD_eq_getD_getElem?]
 have hj' : a.tmps[j]?.getD undef = v := by rw [← hj]; simp [Array.getD_eq_getD_getElem?]
 unfold results
 rw [hf]
 simp [ha', hl, hj', dV, asAddr]
theorem SlD.last {w : World} {b o : Nat} {r : List (List UInt8)} {x : List UInt8} (h : SlD w (some ⟨b, o, none⟩) (x :: r).reverse) : w.rangeAt b (o + r.length * 8) (x.map u8c) ∧ SlD w (some ⟨b, o, none⟩) r.reverse ∧ x.length = 8 := by
 rw [List.reverse_cons] at h
 have hx : x.length = 8 := h.2 x (by simp)
 have hd := h.drop r.length (by simp)
 rw [show (r.reverse ++ [x]).drop r.length = [x] by rw [List.drop_append_of_le_length (by simp), List.drop_of_length_le (by simp)]; rfl] at hd
 have ht := h.take r.length (by simp)
 rw [show (r.reverse ++ [x]).take r.length = r.reverse by rw [List.take_append_of_le_length (by simp), List.take_of_length_le (by simp)]] at ht
 refine ⟨fun j v hv => ?_, ht, hx⟩
 obtain ⟨hj, hv⟩ := List.getElem?_eq_some_iff.1 hv
 obtain ⟨b', o', ha, hb', hc'⟩ := hd.1 j (by simpa [digsC] using hj)
 cases ha
 rw [hc']
 simp only [digsC, List.flatMap_cons, List.flatMap_nil, List.append_nil]
 rw [hv]
theorem SlD.addr {w : World} {a : Option Addr} {x : List UInt8} {l : List (List UInt8)} (h : SlD w a (x :: l)) : ∃ b o, a = some ⟨b, o, none⟩ ∧ b < w.heap.size := by
 have hx : x.length = 8 := h.2 x (by simp)
 obtain ⟨b, o, ha, hb, _⟩ := h.1 0 (by rw [digsC_length _ h.2]; simp)
 exact ⟨b, o, ha, hb⟩
set_option maxRecDepth 100000 in
set_option maxHeartbeats 1600000 in
theorem through_one (m e : Nat) (root : List UInt8) (a : Option Addr) (cap : Nat) (w : World) (hr : root.length = 8) (hm : m ≤ 9223372036854775807) :
  Calls Tryz.prog 112 #[.int .i64 (e : Int), .int .i64 1, dV root, .slice a m cap] w fun r w' => r = .returned (.tuple #[dV (digB (0 :: root)), .bool (m == 0)]) ∧ Below w.heap.size w w' := by
 have hB0 : Below w.heap.size w ((w.alloc (.cells (root.map u8c).toArray 36)).alloc (.cells z8.toArray 36)) := ((Below.refl _ _).alloc (Nat.le_refl _) _).alloc (by simp) _
 have hA : RowV ((w.alloc (.cells (root.map u8c).toArray 36)).alloc (.cells z8.toArray 36)) w.heap.size 36 (root.map u8c) := (RowV.new w _ _).alloc _
 have hZ : RowV ((w.alloc (.cells (root.map u8c).toArray 36)).alloc (.cells z8.toArray 36)) (w.heap.size + 1) 36 z8 := RowV.new_at _ _ _ _ (by simp)
 have hz : ((w.alloc (.cells (root.map u8c).toArray 36)).alloc (.cells z8.toArray 36)).heap.size = w.heap.size + 2 := by simp
 have hmI : (m : Int) ≤ 9223372036854775807 := by omega
 obtain ⟨dd, hdd⟩ : ∃ dd, dd = digB (0 :: root) := ⟨_, rfl⟩
 have hdl : dd.length = 8 := by rw [hdd]; exact digB_length _
 have HDD : Hid (digB (0 :: root) = dd) := hdd.symm
 rw [HDD.out]
 clear hdd
 have HE : Hid (((m : Int) == 0) = (m == 0)) := by
  unfold Hid
  rw [Bool.eq_iff_iff]; simp
 rw [← HE.out]
 rw [show dV root = .agg (root.map u8c).toArray from rfl]
 go_enter Tryz.func112, Tryz.ntmps112
 go_wp2_with (refine wpList_load_mid (by rfl) 36 (.tmp 6) (by rfl) w.heap.size 0 (by rfl) (root.map u8c) _ (hA.range) Tryz.underlying36 (by rfl) (by simpa [hr] using Tryz.infoDig) ?_)
 refine (leaf_any root _ hr).mono ?_
 rintro e w5 ⟨rfl, hb5⟩
 rw [HDD.out]
 have hz5 := hb5.size
 have hZ5 : RowV w5 (w.heap.size + 1) 36 z8 := hZ.below hZ.lt hb5
 have HB5 : Hid (Below w.heap.size w w5) := hB0.trans (hb5.mono hB0.size)
 clear hA hZ hB0
 go_wp2_with (refine wp_storeD (by rfl) (.tmp 8) (.tmp 19) (by rfl) (w.heap.size + 1) (by rfl) dd hdl (by rfl) hZ5 (by rfl) ?_; intro w6 hR6 hf6 hz6)
 exact ret_dig2 (k := 8) (j := 9) rfl rfl hR6 hdl rfl rfl ⟨rfl, HB5.out.trans (hf6.below HB5.out.size (fun k hk => by omega))⟩
set_option maxRecDepth 100000 in
set_option maxHeartbeats 1600000 in
theorem through_nil (n e : Nat) (root : List UInt8) (a : Option Addr) (cap : Nat) (w : World) (hr : root.length = 8) (hn : n ≠ 1) (hn2 : n ≤ 9223372036854775807) :
  Calls Tryz.prog 112 #[.int .i64 (e : Int), .int .i64 (n : Int), dV root, .slice a 0 cap] w fun r w' => r = .returned (.tuple #[dV nulD, .bool false]) ∧ Below w.heap.size w w' := by
 have HB0 : Hid (Below w.heap.size w ((w.alloc (.cells (root.map u8c).toArray 36)).alloc (.cells z8.toArray 36))) := ((Below.refl _ _).alloc (Nat.le_refl _) _).alloc (by simp) _
 have hZ : RowV ((w.alloc (.cells (root.map u8c).toArray 36)).alloc (.cells z8.toArray 36)) (w.heap.size + 1) 36 z8 := RowV.new_at _ _ _ _ (by simp)
 have hn1 : ((n : Int) == 1) = false := by simp; omega
 rw [show dV root = .agg (root.map u8c).toArray from rfl]
 go_enter Tryz.func112, Tryz.ntmps112
 go_wp2_with (refine wp_storeD (by rfl) (.tmp 8) (.tmp 26) (by rfl) (w.heap.size + 1) (by rfl) nulD rfl (by rfl) hZ (by rfl) ?_; intro w6 hR6 hf6 hz6)
 exact ret_dig2 (k := 8) (j := 9) rfl rfl hR6 rfl rfl rfl ⟨rfl, HB0.out.trans (hf6.below HB0.out.size (fun k hk => by omega))⟩
set_option maxRecDepth 100000 in
set_option maxHeartbeats 1600000 in
theorem through_any : ∀ (r : List (List UInt8)) (n e : Nat) (root : List UInt8) (a : Option Addr) (cap : Nat) (w : World), SlD w a r.reverse → r.length ≤ cap → cap ≤ 9223372036854775807 → root.length = 8 → 1 ≤ n → n ≤ 9223372036854775807 → e < n →
  Calls Tryz.prog 112 #[.int .i64 (e : Int), .int .i64 (n : Int), dV root, .slice a r.length cap] w fun v w' => v = .returned (.tuple #[dV (thrF e n root r).1, .bool (thrF e n root r).2]) ∧ Below w.heap.size w w'
 | [], n, e, root, a, cap, w, hs, hl, hc, hr, h1, h2, he => by
  unfold thrF
  by_cases hn : n = 1
  ·subst hn
   exact through_one 0 e root a cap w hr (by omega)
  ·rw [if_neg hn]
   exact through_nil n e root a cap w hr hn h2
 | x :: r, n, e, root, a, cap, w, hs, hl, hc, hr, h1, h2, he => by
  unfold thrF
  by_cases hn : n = 1
  ·subst hn
   exact through_one (r.length + 1) e root a cap w hr (by simp at hl; omega)
  rw [if_neg hn]
  obtain ⟨b, o, rfl, hb⟩ : ∃ b o, a = some ⟨b, o, none⟩ ∧ b < w.heap.size := by
   have h := hs
   have hne : (x :: r).reverse ≠ [] := by simp
   revert h
   generalize (x :: r).reverse = l at *
   cases l with
   | nil => exact absurd rfl hne
   | cons y l => exact fun h => h.addr
  obtain ⟨hlast, hrest, hx⟩ := hs.last
  have hhb := halfN_bd n (by omega)
  have HHF : Hid (∀ w : World, Calls Tryz.prog 122 #[.int .i64 (n : Int)] w fun e w' => e = .returned (.int .i64 (halfN n : Int)) ∧ w' = w) := fun w => half_any n w h2
  have IH : Hid (∀ (W : World) (n' e' : Nat), Below w.heap.size w W → 1 ≤ n' → n' ≤ 9223372036854775807 → e' < n' → Calls Tryz.prog 112 #[.int .i64 (e' : Int), .int .i64 (n' : Int), dV root, .slice (some ⟨b, o, none⟩) r.length cap] W fun v w' => v = .returned (.tuple #[dV (thrF e' n' root r).1, .bool (thrF e' n' root r).2]) ∧ Below W.heap.size W w') := fun W n' e' hW h1 h2 he =>
   through_any r n' e' root (some ⟨b, o, none⟩) cap W (hrest.below hW) (by simp at hl; omega) hc hr h1 h2 he
  have hB0 : Below w.heap.size w ((w.alloc (.cells (root.map u8c).toArray 36)).alloc (.cells z8.toArray 36)) := ((Below.refl _ _).alloc (Nat.le_refl _) _).alloc (by simp) _
  have hA : RowV ((w.alloc (.cells (root.map u8c).toArray 36)).alloc (.cells z8.toArray 36)) w.heap.size 36 (root.map u8c) := (RowV.new w _ _).alloc _
  have hZ : RowV ((w.alloc (.cells (root.map u8c).toArray 36)).alloc (.cells z8.toArray 36)) (w.heap.size + 1) 36 z8 := RowV.new_at _ _ _ _ (by simp)
  have hlast' : ((w.alloc (.cells (root.map u8c).toArray 36)).alloc (.cells z8.toArray 36)).rangeAt b (o + r.length * 8) (x.map u8c) := fun j v hv => by
   rw [hB0.cell (p := ⟨b, o + r.length * 8 + j, none⟩) hb]; exact hlast j v hv
  have hz0 : ((w.alloc (.cells (root.map u8c).toArray 36)).alloc (.cells z8.toArray 36)).heap.size = w.heap.size + 1 + 1 := by simp
  generalize halfN n = k at *
  obtain ⟨hk1, hk2⟩ := hhb
  have hm : (x :: r).length = r.length + 1 := rfl
  rw [hm] at hl ⊢
  generalize r.length = m at *
  have hmI : ((m + 1 : Nat) : Int) - 1 = (m : Int) := by omega
  have hm0 : (((m + 1 : Nat) : Int) == 0) = false := by simp; omega
  have hmc : (m : Int) < cap := by omega
  have hcI : (cap : Int) ≤ 9223372036854775807 := by omega
  have hmp : ((m + 1 : Nat) : Int) = (m : Int) + 1 := by omega
  have hn1 : ((n : Int) == 1) = false := by simp; omega
  have hkI1 : (1 : Int) ≤ k := by omega
  have hkI2 : (k : Int) < n := by omega
  have hnI : (n : Int) ≤ 9223372036854775807 := by omega
  clear hlast hrest hs hm
  have HL : Hid (x.length = 8) := hx
  by_cases hlt : e < k
  ·rw [if_pos hlt]
   obtain ⟨dd, hdd⟩ : ∃ dd, dd = digB (1 :: ((thrF e k root r).1 ++ x)) := ⟨_, rfl⟩
   have hdl : dd.length = 8 := by rw [hdd]; exact digB_length _
   have HDD : Hid (digB (1 :: ((thrF e k root r).1 ++ x)) = dd) := hdd.symm
   have HTL : Hid ((thrF e k root r).1.length = 8) := thrF_length r e k root
   rw [HDD.out]
   clear hdd
   have hltI : (e : Int) < k := by omega
   rw [show dV root = .agg (root.map u8c).toArray from rfl] at IH ⊢
   have HI : Hid (∀ (W : World), Below w.heap.size w W → Calls _ _ _ W _) := fun W hW => IH.out W k e hW hk1 (by omega) hlt
   generalize thrF e k root r = q at *
   clear IH
   go_enter Tryz.func112, Tryz.ntmps112
   go_wp2_with fail
   refine (HHF.out _).mono ?_
   rintro v w1 ⟨rfl, rfl⟩
   go_wp2_with (first
    | (refine wpList_load_mid (by rfl) 36 (.tmp 33) (by rfl) b (o + m * 8) (by rfl) (x.map u8c) _ (by exact hlast') Tryz.underlying36 (by rfl) (by simpa [HL.out] using Tryz.infoDig) ?_)
    | (refine wp_storeD (by rfl) (.tmp 11) (.tmp 34) (by rfl) (w.heap.size + 1 + 1) (by rfl) x HL.out (by rfl) (RowV.new_at _ 36 _ z8 (by simp)) (by rfl) ?_; intro w2 hR2 hf2 hz2; have hB2 : Below w.heap.size w w2 := Below.trans (hB0.alloc hB0.size (.cells z8.toArray 36)) (hf2.below (by simp; omega) (fun k hk => by omega)); have hA2 : RowV w2 w.heap.size 36 (root.map u8c) := (hA.alloc (.cells z8.toArray 36)).of_block (hf2.block _ (by simp; omega) (fun e => by omega)); have hZ2 : RowV w2 (w.heap.size + 1) 36 z8 := (hZ.alloc (.cells z8.toArray 36)).of_block (hf2.block _ (by simp) (fun e => by omega)))
    | (refine wpList_load_mid (by rfl) 36 (.tmp 6) (by rfl) w.heap.size 0 (by rfl) (root.map u8c) _ (by exact hA2.range) Tryz.underlying36 (by rfl) (by simpa [hr] using Tryz.infoDig) ?_))
   have hz2' : w2.heap.size = w.heap.size + 1 + 1 + 1 := by rw [hz2]; simp
   refine (HI.out w2 hB2).mono ?_
   rintro v w3 ⟨rfl, hb3⟩
   have hB3 : Below w.heap.size w w3 := hB2.trans (hb3.mono hB2.size)
   have hZ3 : RowV w3 (w.heap.size + 1) 36 z8 := hZ2.below hZ2.lt hb3
   have hX3 : RowV w3 (w.heap.size + 1 + 1) 36 (x.map u8c) := hR2.below hR2.lt hb3
   have hz3 := hb3.size
   clear hf2 hz2 hR2 hA2 hZ2 hB2 hb3 hA hZ hB0 hlast'
   go_wp2_with (first
    | (refine wp_storeD (by rfl) (.tmp 12) (.tmp 49) (by rfl) w3.heap.size (by rfl) q.1 HTL.out (by rfl) (RowV.new w3 36 z8) (by rfl) ?_; intro w4 hR4 hf4 hz4; have hB4 : Below w.heap.size w w4 := Below.trans (hB3.alloc hB3.size (.cells z8.toArray 36)) (hf4.below (by simp; omega) (fun k hk => by omega)); have hX4 : RowV w4 (w.heap.size + 1 + 1) 36 (x.map u8c) := (hX3.alloc (.cells z8.toArray 36)).of_block (hf4.block _ (by simp; omega) (fun e => by omega)); have hZ4 : RowV w4 (w.heap.size + 1) 36 z8 := (hZ3.alloc (.cells z8.toArray 36)).of_block (hf4.block _ (by simp; omega) (fun e => by omega)))
    | (refine wpList_load_mid (by rfl) 36 (.tmp 12) (by rfl) w3.heap.size 0 (by rfl) (q.1.map u8c) _ (by exact hR4.range) Tryz.underlying36 (by rfl) (by simpa [HTL.out] using Tryz.infoDig) ?_)
    | (refine wpList_load_mid (by rfl) 36 (.tmp 11) (by rfl) (w.heap.size + 1 + 1) 0 (by rfl) (x.map u8c) _ (by exact hX4.range) Tryz.underlying36 (by rfl) (by simpa [HL.out] using Tryz.infoDig) ?_))
   refine (refPair_any q.1 x _ HTL.out HL.out).mono ?_
   rintro v w5 ⟨rfl, hb5⟩
   rw [HDD.out]
   have hB5 : Below w.heap.size w w5 := hB4.trans (hb5.mono hB4.size)
   have hZ5 : RowV w5 (w.heap.size + 1) 36 z8 := hZ4.below hZ4.lt hb5
   clear hf4 hz4 hR4 hX4 hZ4 hB4 hb5 hX3 hZ3 hB3
   go_wp2_with (refine wp_storeD (by rfl) (.tmp 8) (.tmp 53) (by rfl) (w.heap.size + 1) (by rfl) dd hdl (by rfl) hZ5 (by rfl) ?_; intro w6 hR6 hf6 hz6)
   exact ret_dig2 (k := 8) (j := 9) rfl rfl hR6 hdl rfl rfl ⟨rfl, hB5.trans (hf6.below hB5.size (fun k hk => by omega))⟩
  ·rw [if_neg hlt]
   obtain ⟨dd, hdd⟩ : ∃ dd, dd = digB (1 :: (x ++ (thrF (e - k) (n - k) root r).1)) := ⟨_, rfl⟩
   have hdl : dd.length = 8 := by rw [hdd]; exact digB_length _
   have HDD : Hid (digB (1 :: (x ++ (thrF (e - k) (n - k) root r).1)) = dd) := hdd.symm
   have HTL : Hid ((thrF (e - k) (n - k) root r).1.length = 8) := thrF_length r (e - k) (n - k) root
   rw [HDD.out]
   clear hdd
   have hltI : ¬ (e : Int) < k := by omega
   have hekI : (e : Int) - k = ((e - k : Nat) : Int) := by omega
   have hnkI : (n : Int) - k = ((n - k : Nat) : Int) := by omega
   have heI : (e : Int) < n := by omega
   rw [show dV root = .agg (root.map u8c).toArray from rfl] at IH ⊢
   have HI : Hid (∀ (W : World), Below w.heap.size w W → Calls _ _ _ W _) := fun W hW => IH.out W (n - k) (e - k) hW (by omega) (by omega) (by omega)
   generalize thrF (e - k) (n - k) root r = q at *
   generalize ((n - k : Nat)) = nk at *
   generalize ((e - k : Nat)) = ek at *
   clear IH
   go_enter Tryz.func112, Tryz.ntmps112
   go_wp2_with fail
   refine (HHF.out _).mono ?_
   rintro v w1 ⟨rfl, rfl⟩
   go_wp2_with (first
    | (refine wpList_load_mid (by rfl) 36 (.tmp 33) (by rfl) b (o + m * 8) (by rfl) (x.map u8c) _ (by exact hlast') Tryz.underlying36 (by rfl) (by simpa [HL.out] using Tryz.infoDig) ?_)
    | (refine wp_storeD (by rfl) (.tmp 11) (.tmp 34) (by rfl) (w.heap.size + 1 + 1) (by rfl) x HL.out (by rfl) (RowV.new_at _ 36 _ z8 (by simp)) (by rfl) ?_; intro w2 hR2 hf2 hz2; have hB2 : Below w.heap.size w w2 := Below.trans (hB0.alloc hB0.size (.cells z8.toArray 36)) (hf2.below (by simp; omega) (fun k hk => by omega)); have hA2 : RowV w2 w.heap.size 36 (root.map u8c) := (hA.alloc (.cells z8.toArray 36)).of_block (hf2.block _ (by simp; omega) (fun e => by omega)); have hZ2 : RowV w2 (w.heap.size + 1) 36 z8 := (hZ.alloc (.cells z8.toArray 36)).of_block (hf2.block _ (by simp) (fun e => by omega)))
    | (refine wpList_load_mid (by rfl) 36 (.tmp 6) (by rfl) w.heap.size 0 (by rfl) (root.map u8c) _ (by exact hA2.range) Tryz.underlying36 (by rfl) (by simpa [hr] using Tryz.infoDig) ?_))
   have hz2' : w2.heap.size = w.heap.size + 1 + 1 + 1 := by rw [hz2]; simp
   refine (HI.out w2 hB2).mono ?_
   rintro v w3 ⟨rfl, hb3⟩
   have hB3 : Below w.heap.size w w3 := hB2.trans (hb3.mono hB2.size)
   have hZ3 : RowV w3 (w.heap.size + 1) 36 z8 := hZ2.below hZ2.lt hb3
   have hX3 : RowV w3 (w.heap.size + 1 + 1) 36 (x.map u8c) := hR2.below hR2.lt hb3
   have hz3 := hb3.size
   clear hf2 hz2 hR2 hA2 hZ2 hB2 hb3 hA hZ hB0 hlast'
   go_wp2_with (first
    | (refine wp_storeD (by rfl) (.tmp 14) (.tmp 65) (by rfl) w3.heap.size (by rfl) q.1 HTL.out (by rfl) (RowV.new w3 36 z8) (by rfl) ?_; intro w4 hR4 hf4 hz4; have hB4 : Below w.heap.size w w4 := Below.trans (hB3.alloc hB3.size (.cells z8.toArray 36)) (hf4.below (by simp; omega) (fun k hk => by omega)); have hX4 : RowV w4 (w.heap.size + 1 + 1) 36 (x.map u8c) := (hX3.alloc (.cells z8.toArray 36)).of_block (hf4.block _ (by simp; omega) (fun e => by omega)); have hZ4 : RowV w4 (w.heap.size + 1) 36 z8 := (hZ3.alloc (.cells z8.toArray 36)).of_block (hf4.block _ (by simp; omega) (fun e => by omega)))
    | (refine wpList_load_mid (by rfl) 36 (.tmp 14) (by rfl) w3.heap.size 0 (by rfl) (q.1.map u8c) _ (by exact hR4.range) Tryz.underlying36 (by rfl) (by simpa [HTL.out] using Tryz.infoDig) ?_)
    | (refine wpList_load_mid (by rfl) 36 (.tmp 11) (by rfl) (w.heap.size + 1 + 1) 0 (by rfl) (x.map u8c) _ (by exact hX4.range) Tryz.underlying36 (by rfl) (by simpa [HL.out] using Tryz.infoDig) ?_))
   refine (refPair_any x q.1 _ HL.out HTL.out).mono ?_
   rintro v w5 ⟨rfl, hb5⟩
   rw [HDD.out]
   have hB5 : Below w.heap.size w w5 := hB4.trans (hb5.mono hB4.size)
   have hZ5 : RowV w5 (w.heap.size + 1) 36 z8 := hZ4.below hZ4.lt hb5
   clear hf4 hz4 hR4 hX4 hZ4 hB4 hb5 hX3 hZ3 hB3
   go_wp2_with (refine wp_storeD (by rfl) (.tmp 8) (.tmp 69) (by rfl) (w.heap.size + 1) (by rfl) dd hdl (by rfl) hZ5 (by rfl) ?_; intro w6 hR6 hf6 hz6)
   exact ret_dig2 (k := 8) (j := 9) rfl rfl hR6 hdl rfl rfl ⟨rfl, hB5.trans (hf6.below hB5.size (fun k hk => by omega))⟩
end Go.Proofs.YtekegfbjbainhaaGreat
