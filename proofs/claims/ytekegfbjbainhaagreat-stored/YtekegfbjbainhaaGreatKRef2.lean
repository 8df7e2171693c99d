/- The reference's Sum, walked. -/
import Derived.Test.YtekegfbjbainhaaGreatKJoin5
import Derived.Deep.DrawnRows
namespace Go.Proofs.YtekegfbjbainhaaGreat
set_option linter.unusedVariables false
set_option linter.unusedSimpArgs false
open Go.RowKit
attribute [local go_sem ↓] Go.wp_at_zero Go.wp_at_succ

/-- What a function that hands back a digest keeps: all that was there, and the place of its result (block b). -/
def KeepD (w : World) (b : Nat) (W : World) : Prop := Below w.heap.size w W ∧ RowV W b 36 z8
theorem KeepD.start (w : World) : KeepD w w.heap.size (resD w) := ⟨(Below.refl _ _).alloc (Nat.le_refl _) _, resD_row w⟩
theorem KeepD.drew {w W : World} {b : Nat} (h : KeepD w b W) : KeepD w b W.drew := ⟨h.1.drew, h.2⟩
theorem KeepD.next {w W W' : World} {b : Nat} (h : KeepD w b W) (hb : Below W.heap.size W W') : KeepD w b W' := ⟨h.1.trans (hb.mono h.1.size), h.2.below h.2.lt hb⟩

theorem SlV.sub {w : World} {b o k n : Nat} {cs ds : List Value} (h : SlV w (some ⟨b, o, none⟩) cs) (hd : ∀ i (hi : i < ds.length), cs[k + i]? = some ds[i]) : SlV w (some ⟨b, o + k, none⟩) ds := fun i hi => by
  obtain ⟨h1, h2⟩ := List.getElem?_eq_some_iff.1 (hd i hi)
  obtain ⟨b', o', ha, hb, hc⟩ := h (k + i) h1
  cases ha
  exact ⟨b, o + k, rfl, hb, by rw [Nat.add_assoc, hc, h2]⟩

/-- Digests in memory, as a slice. -/
def SlD (w : World) (a : Option Addr) (l : List (List UInt8)) : Prop := SlV w a (digsC l) ∧ ∀ d ∈ l, d.length = 8
theorem SlD.take {w : World} {a : Option Addr} {l : List (List UInt8)} (h : SlD w a l) (k : Nat) (hk : k ≤ l.length) : SlD w a (l.take k) := by
  refine ⟨fun i hi => ?_, fun d hd => h.2 d (List.mem_of_mem_take hd)⟩
  have e := digsC_take l h.2 k hk
  have hi' : i < ((digsC l).take (k * 8)).length := by rw [e]; exact hi
  obtain ⟨b, o, ha, hb, hc⟩ := h.1 i (by rw [List.length_take] at hi'; omega)
  refine ⟨b, o, ha, hb, ?_⟩
  rw [hc]
  congr 1
  have : (digsC (l.take k))[i]? = ((digsC l).take (k * 8))[i]? := by rw [e]
  rw [List.getElem?_eq_getElem hi, List.getElem?_eq_getElem hi', List.getElem_take] at this
  exact (Option.some.inj this).symm
theorem SlD.drop {w : World} {b o : Nat} {l : List (List UInt8)} (h : SlD w (some ⟨b, o, none⟩) l) (k : Nat) (hk : k ≤ l.length) : SlD w (some ⟨b, o + k * 8, none⟩) (l.drop k) := by
  refine ⟨SlV.sub (n := 0) h.1 (fun i hi => ?_), fun d hd => h.2 d (List.mem_of_mem_drop hd)⟩
  have e := digsC_drop l h.2 k hk
  rw [← List.getElem?_drop, e]
  exact List.getElem?_eq_getElem hi
theorem SlD.below {w w' : World} {a : Option Addr} {l : List (List UInt8)} (h : SlD w a l) (hb : Below w.heap.size w w') : SlD w' a l := ⟨h.1.below_all hb, h.2⟩

set_option maxRecDepth 100000 in
set_option maxHeartbeats 1600000 in
theorem sum_any : ∀ (f : Nat) (l : List (List UInt8)) (a : Option Addr) (cap : Nat) (w : World), l.length < f → l.length ≤ cap → cap ≤ 9223372036854775807 → SlD w a l →
    Calls Tryz.prog 87 #[.slice a l.length cap] w fun e w' => e = .returned (dV (sumF f l)) ∧ Below w.heap.size w w'
  | 0, l, a, cap, w, hf, _, _, _ => absurd hf (Nat.not_lt_zero _)
  | f + 1, [], a, cap, w, hf, hc, hcap, hs => by
    have hK := KeepD.start w
    obtain ⟨dd, hdd⟩ : ∃ dd, dd = sumF (f + 1) [] := ⟨_, rfl⟩
    have hdl : dd.length = 8 := by rw [hdd]; rfl
    rw [← hdd]
    have HDD : Hid (dd = digB []) := hdd
    clear hdd
    go_enter Tryz.func87, Tryz.ntmps87
    go_wp2_with fail
    refine (refDigest_any none 0 0 [] _ rfl (by simp) (SlB.nil _ _)).mono ?_
    rintro e w5 ⟨rfl, hb5⟩
    rw [digV_eq, ← HDD.out]
    have hK5 := hK.next hb5
    go_wp2_with (refine wp_storeD (by rfl) (.tmp 2) (.tmp 8) (by rfl) w.heap.size (by rfl) dd hdl (by rfl) hK5.2 (by rfl) ?_; intro w6 hR6 hf6 hz6)
    exact ret_dig (k := 2) rfl rfl hR6 hdl rfl ⟨rfl, hK5.1.trans (hf6.below (by have := hK5.2.lt; omega) (fun k hk => by omega))⟩
  | f + 1, [d], a, cap, w, hf, hc, hcap, hs => by
    have hK := KeepD.start w
    have hd : d.length = 8 := hs.2 d (by simp)
    obtain ⟨b, o, rfl, hb, _⟩ := hs.1 0 (by simp [digsC, hd])
    have hr : (resD w).rangeAt b o (d.map u8c) := fun j v hv => by
      obtain ⟨hj, hv⟩ := List.getElem?_eq_some_iff.1 hv
      obtain ⟨b', o', ha, hb', hc'⟩ := hs.1 j (by simpa [digsC] using hj)
      cases ha
      rw [World.cell?_alloc_lt _ _ _ (by exact hb'), hc']
      simp only [digsC, List.flatMap_cons, List.flatMap_nil, List.append_nil]
      rw [hv]
    have hcap1 : (1 : Int) ≤ cap := by simp at hc; omega
    obtain ⟨dd, hdd⟩ : ∃ dd, dd = sumF (f + 1) [d] := ⟨_, rfl⟩
    have hdl : dd.length = 8 := by rw [hdd]; rfl
    rw [← hdd]
    have HDD : Hid (dd = digB (0 :: d)) := hdd
    clear hdd
    go_enter Tryz.func87, Tryz.ntmps87
    go_wp2_with (refine wpList_load_mid (by rfl) 36 (.tmp 12) (by rfl) b o (by rfl) (d.map u8c) _ hr Tryz.underlying36 (by rfl) (by simpa [hd] using Tryz.infoDig) ?_)
    refine (leaf_any d _ hd).mono ?_
    rintro e w5 ⟨rfl, hb5⟩
    rw [← HDD.out]
    have hK5 := hK.next hb5
    go_wp2_with (refine wp_storeD (by rfl) (.tmp 2) (.tmp 14) (by rfl) w.heap.size (by rfl) dd hdl (by rfl) hK5.2 (by rfl) ?_; intro w6 hR6 hf6 hz6)
    exact ret_dig (k := 2) rfl rfl hR6 hdl rfl ⟨rfl, hK5.1.trans (hf6.below (by have := hK5.2.lt; omega) (fun k hk => by omega))⟩
  | f + 1, x :: y :: r, a, cap, w, hf, hc, hcap, hs => by
    have hK := KeepD.start w
    have hn2 : 2 ≤ (x :: y :: r).length := by simp
    have hhb := halfN_bd _ hn2
    obtain ⟨dd, hdd⟩ : ∃ dd, dd = sumF (f + 1) (x :: y :: r) := ⟨_, rfl⟩
    have hdl : dd.length = 8 := by rw [hdd]; rfl
    rw [← hdd]
    have HDD : Hid (dd = digB (1 :: (sumF f ((x :: y :: r).take (halfN (x :: y :: r).length)) ++ sumF f ((x :: y :: r).drop (halfN (x :: y :: r).length))))) := hdd
    clear hdd
    generalize (x :: y :: r) = l at *
    obtain ⟨b, o, rfl, hb, hcx⟩ := hs.1 0 (by rw [digsC_length _ hs.2]; omega)
    clear hcx
    have hhalf := half_any l.length
    have HH : Hid (∀ w : World, l.length ≤ 9223372036854775807 → _) := hhalf
    clear hhalf
    generalize halfN l.length = k at *
    obtain ⟨hk1, hk2⟩ := hhb
    have e1 : (l.take k).length = k := by rw [List.length_take]; omega
    have e2 : (l.drop k).length = l.length - k := by rw [List.length_drop]
    have H1 : Hid (∀ W, KeepD w w.heap.size W → Calls Tryz.prog 87 #[.slice (some ⟨b, o, none⟩) k cap] W fun e w' => e = .returned (dV (sumF f (l.take k))) ∧ KeepD w w.heap.size w') := fun W hW => by
      have h := sum_any f (l.take k) (some ⟨b, o, none⟩) cap W (by omega) (by omega) hcap ((hs.below hW.1).take k (by omega))
      rw [e1] at h
      exact h.mono fun e w' ⟨he, hb'⟩ => ⟨he, hW.next hb'⟩
    have H2 : Hid (∀ W, KeepD w w.heap.size W → Calls Tryz.prog 87 #[.slice (some ⟨b, o + k * 8, none⟩) (l.length - k) (cap - k)] W fun e w' => e = .returned (dV (sumF f (l.drop k))) ∧ KeepD w w.heap.size w') := fun W hW => by
      have h := sum_any f (l.drop k) (some ⟨b, o + k * 8, none⟩) (cap - k) W (by omega) (by omega) (by omega) ((hs.below hW.1).drop k (by omega))
      rw [e2] at h
      exact h.mono fun e w' ⟨he, hb'⟩ => ⟨he, hW.next hb'⟩
    obtain ⟨f', rfl⟩ : ∃ f', f = f' + 1 := ⟨f - 1, by omega⟩
    have g1 : (sumF (f' + 1) (l.take k)).length = 8 := sumF_length _ _
    have g2 : (sumF (f' + 1) (l.drop k)).length = 8 := sumF_length _ _
    generalize sumF (f' + 1) (l.take k) = s1 at *
    generalize sumF (f' + 1) (l.drop k) = s2 at *
    obtain ⟨x0, x1, x2, x3, x4, x5, x6, x7, rfl⟩ := list8 dd hdl
    have hcapI : (l.length : Int) ≤ cap := by omega
    have hcapJ : (cap : Int) ≤ 9223372036854775807 := by omega
    have hkI1 : (1 : Int) ≤ k := by omega
    have hkI2 : (k : Int) < l.length := by omega
    have hln : ¬ (l.length : Int) = 0 := by omega
    have hne0 : ((l.length : Int) == 0) = false := by simpa using hln
    have hne1 : ((l.length : Int) == 1) = false := by simp; omega
    have hkc : ¬ cap = k := by omega
    clear hs e1 e2 hdl
    go_enter Tryz.func87, Tryz.ntmps87
    go_wp2_with fail
    refine (HH.out _ (by omega)).mono ?_
    rintro e w1 ⟨rfl, rfl⟩
    have HV : Hid (dV [x0, x1, x2, x3, x4, x5, x6, x7] = .agg #[Value.int .u8 (x0.toNat : Int), Value.int .u8 (x1.toNat : Int), Value.int .u8 (x2.toNat : Int), Value.int .u8 (x3.toNat : Int), Value.int .u8 (x4.toNat : Int), Value.int .u8 (x5.toNat : Int), Value.int .u8 (x6.toNat : Int), Value.int .u8 (x7.toNat : Int)]) := rfl
    go_wp2
    go_region_with (first
      | (go_at_call_of 87 (Value.slice (some ⟨b, o, none⟩) k cap); refine (H1.out _ (by exact hK.drew)).mono ?_; rintro e w2 ⟨rfl, hK2⟩)
      | (go_at_call_of 87 (Value.slice (some ⟨b, o + k * 8, none⟩) (l.length - k) (cap - k)); refine (H2.out _ (by assumption)).mono ?_; rintro e w3 ⟨rfl, hK3⟩)
      | (go_at_call 123; refine (refPair_any s1 s2 _ g1 g2).mono ?_; rintro e w4 ⟨rfl, hb4⟩; rw [← HDD.out, HV.out]; have hK4 := KeepD.next hK3 hb4; have c0 : w4.cell? ⟨w.heap.size, 0, none⟩ = some (.int .u8 0) := hK4.2.cell 0 (by decide); have f0 : w4.frozen? ⟨w.heap.size, 0, none⟩ = false := hK4.2.frozen 0; have c1 : w4.cell? ⟨w.heap.size, 1, none⟩ = some (.int .u8 0) := hK4.2.cell 1 (by decide); have f1 : w4.frozen? ⟨w.heap.size, 1, none⟩ = false := hK4.2.frozen 1; have c2 : w4.cell? ⟨w.heap.size, 2, none⟩ = some (.int .u8 0) := hK4.2.cell 2 (by decide); have f2 : w4.frozen? ⟨w.heap.size, 2, none⟩ = false := hK4.2.frozen 2; have c3 : w4.cell? ⟨w.heap.size, 3, none⟩ = some (.int .u8 0) := hK4.2.cell 3 (by decide); have f3 : w4.frozen? ⟨w.heap.size, 3, none⟩ = false := hK4.2.frozen 3; have c4 : w4.cell? ⟨w.heap.size, 4, none⟩ = some (.int .u8 0) := hK4.2.cell 4 (by decide); have f4 : w4.frozen? ⟨w.heap.size, 4, none⟩ = false := hK4.2.frozen 4; have c5 : w4.cell? ⟨w.heap.size, 5, none⟩ = some (.int .u8 0) := hK4.2.cell 5 (by decide); have f5 : w4.frozen? ⟨w.heap.size, 5, none⟩ = false := hK4.2.frozen 5; have c6 : w4.cell? ⟨w.heap.size, 6, none⟩ = some (.int .u8 0) := hK4.2.cell 6 (by decide); have f6 : w4.frozen? ⟨w.heap.size, 6, none⟩ = false := hK4.2.frozen 6; have c7 : w4.cell? ⟨w.heap.size, 7, none⟩ = some (.int .u8 0) := hK4.2.cell 7 (by decide); have f7 : w4.frozen? ⟨w.heap.size, 7, none⟩ = false := hK4.2.frozen 7))
    all_goals
      go_wp2
      exact ret_dig (k := 2) (d := [x0, x1, x2, x3, x4, x5, x6, x7]) rfl rfl (by exact ((((((((hK4.2.set 0 _).set 1 _).set 2 _).set 3 _).set 4 _).set 5 _).set 6 _).set 7 _)) rfl rfl ⟨rfl, ((((((((hK4.1.setCell (by exact Nat.le_refl _) _).setCell (by exact Nat.le_refl _) _).setCell (by exact Nat.le_refl _) _).setCell (by exact Nat.le_refl _) _).setCell (by exact Nat.le_refl _) _).setCell (by exact Nat.le_refl _) _).setCell (by exact Nat.le_refl _) _).setCell (by exact Nat.le_refl _) _)⟩
end Go.Proofs.YtekegfbjbainhaaGreat
