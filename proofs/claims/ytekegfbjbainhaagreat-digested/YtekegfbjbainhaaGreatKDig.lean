/- The digest's functions, walked: each gives the digest of the bytes that it is handed, and turns nothing that was there. -/
import Derived.Test.YtekegfbjbainhaaGreatRows
import Derived.Test.YtekegfbjbainhaaGreatKPlain
namespace Go.Proofs.YtekegfbjbainhaaGreat
set_option linter.unusedVariables false
set_option linter.unusedSimpArgs false
open Go.RowKit

set_option maxRecDepth 100000 in
set_option maxHeartbeats 400000 in
theorem refDigest_any (a : Option Addr) (n cap : Nat) (l : List UInt8) (w : World) (hn : n = l.length) (hl : l.length ≤ maxLen) (hc : SlB w a l) :
    Calls Tryz.prog 10 #[.slice a n cap] w fun e w' => e = .returned (digV l) ∧ Below w.heap.size w w' := by
  subst hn
  unfold maxLen at hl
  go_enter Tryz.func10, Tryz.ntmps10
  go_wp2
  go_loop [3, 4] (fun n i => ∃ k : Nat, k ≤ l.length ∧ i = .int .i64 k ∧ n = .int .u64 (rawD (l.take k))) (fun _ i => l.length - (intOf i).toNat)
  case atStart => exact ⟨0, Nat.zero_le _, rfl, rfl⟩
  case round =>
    obtain ⟨k, hk, rfl, rfl⟩ := hrel
    by_cases hlt : k < l.length
    · obtain ⟨b, o, rfl, hb, hcell⟩ := hc k hlt
      have hrb := rawD_bd (l.take k)
      have h256 : (l[k].toNat : Int) < 256 := by have := l[k].toNat_lt; omega
      have HS : Hid (rawD (l.take (k + 1)) = mixB (rawD (l.take k)) l[k]) := by rw [take_snocL _ _ hlt]; exact rawD_snoc _ _
      go_wp2
      go_round
      case rel => exact ⟨k + 1, by omega, by go_num, by rw [HS.out]; unfold mixB; with_reducible rfl⟩
      case measure => simp [intOf]; omega
    · have hrb := rawD_bd (l.take k)
      have HE : Hid (l.take k = l) := List.take_of_length_le (by omega)
      go_wp2
      rw [HE.out]
      have HA := stirA_bd (rawD l)
      have HB := stirB_bd (stirA (rawD l)) HA.1 HA.2
      have hN : Hid (digV l = .agg ((bytesN (stirB (stirA (rawD l)))).map u8c).toArray) := rfl
      rw [show (IntKind.u64.wrap (bits BinOp.xor IntKind.u64 (rawD l) (rawD l / 4294967296) * 11400714819323198485)) = stirA (rawD l) from rfl]
      rw [show bits BinOp.xor IntKind.u64 (stirA (rawD l)) (stirA (rawD l) / 536870912) = stirB (stirA (rawD l)) from rfl]
      generalize stirB (stirA (rawD l)) = N at *
      have hcs : Hid (digV l = _) := hN.out.trans (congrArg Value.agg (cells_bytesN N HB.1 HB.2))
      clear hN
      go_rounds 9
      go_returns
      exact ⟨by rw [hcs.out], by go_grown⟩

set_option maxRecDepth 100000 in
set_option maxHeartbeats 400000 in
theorem stir_any (n : Int) (w : World) (h0 : 0 ≤ n) :
    Calls Tryz.prog 108 #[.int .u64 n] w fun e w' => e = .returned (.int .u64 (stirB (stirA n))) ∧ w' = w := by
  go_enter Tryz.func108, Tryz.ntmps108
  go_wp2
  go_ret
  exact ⟨rfl, rfl⟩

set_option maxRecDepth 100000 in
set_option maxHeartbeats 400000 in
theorem fromNumber_any (N : Int) (w : World) (h0 : 0 ≤ N) (h1 : N < 18446744073709551616) :
    Calls Tryz.prog 107 #[.int .u64 N] w fun e w' => e = .returned (.agg ((bytesN N).map u8c).toArray) ∧ ∃ c1 c2 : Array Value, w' = (w.alloc (.cells c1 36)).alloc (.cells c2 36) := by
  have hcs : Hid (((bytesN N).map u8c).toArray = _) := cells_bytesN N h0 h1
  go_enter Tryz.func107, Tryz.ntmps107
  go_wp2
  go_rounds 9
  go_returns
  exact ⟨by rw [hcs.out], _, _, rfl⟩

set_option maxRecDepth 100000 in
set_option maxHeartbeats 400000 in
theorem of_any (a : Option Addr) (cap : Nat) (l : List UInt8) (w : World) (hl : l.length ≤ maxLen) (hc : SlB w a l) :
    Calls Tryz.prog 67 #[.slice a l.length cap] w fun e w' => e = .returned (digV l) ∧ ∃ c1 c2 c3 : Array Value, w' = ((w.alloc (.cells c1 36)).alloc (.cells c2 36)).alloc (.cells c3 36) := by
  unfold maxLen at hl
  go_enter Tryz.func67, Tryz.ntmps67
  go_wp2
  go_loop [3, 8] (fun n i => ∃ k : Nat, k ≤ l.length ∧ i = .int .i64 k ∧ n = .int .u64 (rawD (l.take k))) (fun _ i => l.length - (intOf i).toNat)
  case atStart => exact ⟨0, Nat.zero_le _, rfl, rfl⟩
  case round =>
    obtain ⟨k, hk, rfl, rfl⟩ := hrel
    by_cases hlt : k < l.length
    · obtain ⟨b, o, rfl, hb, hcell⟩ := hc k hlt
      have hrb := rawD_bd (l.take k)
      have h256 : (l[k].toNat : Int) < 256 := by have := l[k].toNat_lt; omega
      have HS : Hid (rawD (l.take (k + 1)) = mixB (rawD (l.take k)) l[k]) := by rw [take_snocL _ _ hlt]; exact rawD_snoc _ _
      go_wp2
      go_round
      case rel => exact ⟨k + 1, by omega, by go_num, by rw [HS.out]; unfold mixB; with_reducible rfl⟩
      case measure => simp [intOf]; omega
    · have hrb := rawD_bd (l.take k)
      have HE : Hid (l.take k = l) := List.take_of_length_le (by omega)
      go_wp2_with fail
      rw [HE.out] at hrb ⊢
      have HN := numD_bd l
      refine (stir_any _ _ hrb.1).mono ?_
      rintro e w1 ⟨rfl, rfl⟩
      rw [show stirB (stirA (rawD l)) = numD l from rfl]
      go_wp2_with fail
      refine (fromNumber_any (numD l) _ HN.1 HN.2).mono ?_
      rintro e w1 ⟨rfl, c1, c2, rfl⟩
      have hcs : Hid (digV l = _) := congrArg Value.agg (cells_bytesN (numD l) HN.1 HN.2)
      rw [cells_bytesN (numD l) HN.1 HN.2]
      go_wp2
      go_returns
      exact ⟨by rw [hcs.out], _, _, _, rfl⟩

set_option maxRecDepth 100000 in
set_option maxHeartbeats 400000 in
theorem digest_any (a : Option Addr) (n cap : Nat) (l : List UInt8) (w : World) (hn : n = l.length) (hl : l.length ≤ maxLen) (hc : SlB w a l) :
    Calls Tryz.prog 35 #[.slice a n cap] w fun e w' => e = .returned (digV l) ∧ Below w.heap.size w w' := by
  subst hn
  have HN := numD_bd l
  have hcs : Hid (digV l = _) := congrArg Value.agg (cells_bytesN (numD l) HN.1 HN.2)
  go_enter Tryz.func35, Tryz.ntmps35
  go_wp2_with fail
  refine (of_any a cap l _ hl (hc.below ((Below.refl _ _).alloc (Nat.le_refl _) _) (Nat.le_refl _))).mono ?_
  rintro e w1 ⟨rfl, c1, c2, c3, rfl⟩
  rw [hcs.out]
  go_wp2
  go_returns
  exact ⟨by rw [hcs.out], by go_grown⟩
end Go.Proofs.YtekegfbjbainhaaGreat
