
import Derived.Test.YtekegfbjbainhaaKJoin8
set_option linter.unusedVariables false
set_option linter.unusedSimpArgs false
namespace Go.Proofs.Ytekegfbjbainhaa
open Go.RowKit
def cutAt (level : Nat) (l : List ItR) : Nat → List (Nat × Nat) × Nat
 | 0 => ([], 0)
 | k + 1 => if k + 1 = l.length ∨ endB level ((l[k]?.map (·.key)).getD []) = true then ((cutAt level l k).1 ++ [((cutAt level l k).2, k + 1 - (cutAt level l k).2)], k + 1) else cutAt level l k
def cutsN (level : Nat) (l : List ItR) : List (Nat × Nat) := (cutAt level l l.length).1
theorem cutAt_le (level : Nat) (l : List ItR) : ∀ k, (cutAt level l k).2 ≤ k ∧ (cutAt level l k).1.length ≤ k
 | 0 => by simp [cutAt]
 | k + 1 => by
  have := cutAt_le level l k
  unfold cutAt
  split
  ·simp; omega
  ·omega
def cutV (a : Option Addr) (cap size : Nat) (c : Nat × Nat) : Value := .slice (cutS a cap c.1 size) c.2 (cap - c.1)
theorem cutV_one (a : Option Addr) (cap size : Nat) (l : List (Nat × Nat)) : ∀ u ∈ l.map (cutV a cap size), u.oneCell' = true := fun u hu => by
 obtain ⟨c, _, rfl⟩ := List.mem_map.1 hu
 rfl
theorem Try.infoEnts : (Try.prog.info? 83).map (fun i => (i.zero, i.size, i.bytes)) = some (some (.slice none 0 0), 1, 24) := by kernel_rfl
theorem Try.infoNds : (Try.prog.info? 87).map (fun i => (i.zero, i.size, i.bytes)) = some (some (.slice none 0 0), 1, 24) := by kernel_rfl
theorem Try.sizeNdP : (Try.prog.info? 96).map (·.size) = some 1 := by kernel_rfl
set_option maxRecDepth 100000 in
set_option maxHeartbeats 4000000 in
theorem partedE_any (level : Nat) (a : Option Addr) (n cap : Nat) (xs : List EnP) (its : List ItR) (w : World) (hn : n = its.length) (hl : its.length = xs.length) (h200 : its.length ≤ 200) (hlv : level ≤ 200) (hcap : n ≤ cap) (hcm : cap ≤ maxLen) (hok : ∀ x ∈ its, ItOk x) (hs : SlE w a xs) (hen : ∀ i (h1 : i < xs.length) (h2 : i < its.length), EnOk w xs[i] its[i]) :
  Calls Try.prog 90 #[.int .i64 (level : Int), .slice a n cap, .func (.func 91) #[] #[]] w fun e w' => ∃ o : SlR, e = .returned o.val ∧ w'.ownsRow w.heap.size 83 1 o.val (cutsN level its).length ((cutsN level its).map (cutV a cap 10)) ∧ Below w.heap.size w w' := by
 have HQ : Hid (∀ (wr : World), Below w.heap.size w wr → ∀ k (hk : k < n) (hk2 : k < its.length), ∃ b o, ∃ kq sv : SlR, a = some ⟨b, o, none⟩ ∧ wr.rangeAt b (o + k * 10) [.slice kq.a kq.n kq.cap, .slice sv.a sv.n sv.cap, .int .u8 0, .int .u8 0, .int .u8 0, .int .u8 0, .int .u8 0, .int .u8 0, .int .u8 0, .int .u8 0] ∧
   ∃ sk : SlR, (∀ W, Below wr.heap.size wr W → Calls Try.prog 91 #[.agg #[.slice kq.a kq.n kq.cap, .slice sv.a sv.n sv.cap, .int .u8 0, .int .u8 0, .int .u8 0, .int .u8 0, .int .u8 0, .int .u8 0, .int .u8 0, .int .u8 0]] W fun e w' => e = .returned sk.val ∧ Below W.heap.size W w') ∧ (∀ W, Below wr.heap.size wr W → BS W sk its[k].key)) := fun wr hB k hk hk2 => by
  obtain ⟨b, o, ha, hb, hc⟩ := SlE.range hs (fun x hx => by
   obtain ⟨i, hi, rfl⟩ := List.getElem_of_mem hx
   rw [(hen i hi (by omega)).dig]; rfl) k (by omega)
  have hex := hen k (by omega) hk2
  refine ⟨b, o, (xs[k]'(by omega)).k, (xs[k]'(by omega)).v, ha, fun j v hv => ?_, (xs[k]'(by omega)).k, fun W hW => ?_, fun W hW => hex.key.below (hB.trans (hW.mono hB.size))⟩
  ·rw [hB.cell (p := ⟨b, o + k * 10 + j, none⟩) hb]
   refine hc j v ?_
   unfold enC
   rw [hex.dig]
   exact hv
  ·exact entryKey_any _ _ W
 have HOK : Hid (∀ x ∈ its, ItOk x) := hok
 have HN : Hid (n = its.length) := hn
 have HC : Hid (∀ k (hk : k < its.length), cutAt level its (k + 1) = if k + 1 = its.length ∨ endB level its[k].key = true then ((cutAt level its k).1 ++ [((cutAt level its k).2, k + 1 - (cutAt level its k).2)], k + 1) else cutAt level its k) := fun k hk => by
  rw [cutAt, List.getElem?_eq_getElem hk]; rfl
 have HCE : Hid (cutsN level its = (cutAt level its n).1) := by unfold Hid; rw [hn]; rfl
 have hn2 : n ≤ 200 := by omega
 have hnI : (n : Int) ≤ 200 := by omega
 have hlvI : (level : Int) ≤ 200 := by omega
 unfold maxLen at hcm
 have hcI : (n : Int) ≤ cap := by omega
 have hcmI : (cap : Int) ≤ 9223372036854775807 := by omega
 have HLV : Hid (level ≤ 200) := hlv
 have HCAP : Hid (n ≤ cap) := hcap
 clear hs hen hok hn hl h200 hlv hcap hcm
 go_enter Try.func90, Try.ntmps90
 go_wp2
 go_loopw [7, 8, 9, 10, 13] (fun ov st _ _ ix wr => ∃ (k s : Nat) (o : SlR), k ≤ n ∧ ix = .int .i64 k ∧ st = .int .i64 s ∧ s ≤ k ∧ Hid (s = (cutAt level its k).2) ∧ ov = o.val ∧ Hid (wr.ownsRow w.heap.size 83 1 o.val (cutAt level its k).1.length ((cutAt level its k).1.map (cutV a cap 10))) ∧ Below w.heap.size w wr) (fun _ _ _ _ ix _ => n - (intOf ix).toNat)
 case atStart => exact ⟨0, 0, ⟨none, 0, 0⟩, by omega, by simp, by simp, by omega, rfl, rfl, World.ownsRow_nil _ _ _ _, Below.refl _ _⟩
 case round =>
  obtain ⟨k, s, o9, hk, rfl, rfl, hsk, HS, rfl, HO, hB⟩ := hrel
  by_cases hlt : k < n
  ·have hltI : (k : Int) < n := by omega
   have hkl : k < its.length := by have := HN.out; omega
   obtain ⟨b, o, kq, sv, rfl, hc, sk, hkey, hbs⟩ := HQ.out wr hB k hlt hkl
   have HKEY : Hid (∀ W, Below wr.heap.size wr W → _) := hkey
   have HBS : Hid (∀ W, Below wr.heap.size wr W → BS W sk its[k].key) := hbs
   clear hkey hbs
   have c0 := hc 0 _ rfl
   have c1 := hc 1 _ rfl
   have c2 := hc 2 _ rfl
   have c3 := hc 3 _ rfl
   have c4 := hc 4 _ rfl
   have c5 := hc 5 _ rfl
   have c6 := hc 6 _ rfl
   have c7 := hc 7 _ rfl
   have c8 := hc 8 _ rfl
   have c9 := hc 9 _ rfl
   clear hc
   simp only [Nat.add_zero] at c0
   have HKL : Hid (its[k].key.length ≤ 200) := by have := (HOK.out its[k] (List.getElem_mem hkl)).1; unfold Hid; omega
   have HCK : Hid (cutAt level its (k + 1) = if k + 1 = its.length ∨ endB level its[k].key = true then ((cutAt level its k).1 ++ [((cutAt level its k).2, k + 1 - (cutAt level its k).2)], k + 1) else cutAt level its k) := HC.out k hkl
   have HCL : Hid ((cutAt level its k).1.length ≤ 200) := by have := (cutAt_le level its k).2; unfold Hid; omega
   have HSL : Hid (s ≤ k + 1) := by unfold Hid; omega
   have HJC : Hid (k + 1 ≤ cap) := by have := HCAP.out; unfold Hid; omega
   unfold SlR.val
   have hk1I : (k : Int) + 1 = ((k + 1 : Nat) : Int) := by omega
   have HK1 : Hid ((k : Int) + 1 = ((k + 1 : Nat) : Int)) := hk1I
   clear hk1I
   by_cases hlast : k + 1 = n
   ·have heq : ((k : Int) == (n : Int) - 1) = true := by simp; omega
    have HCK2 : Hid (cutAt level its (k + 1) = ((cutAt level its k).1 ++ [(s, k + 1 - s)], k + 1)) := by
     unfold Hid; rw [HCK.out, if_pos (Or.inl (by have := HN.out; omega)), ← HS.out]
    clear hlast
    have HBX : Hid (Below w.heap.size w ((wr.alloc (.cells #[.slice kq.a kq.n kq.cap, .slice sv.a sv.n sv.cap, .int .u8 0, .int .u8 0, .int .u8 0, .int .u8 0, .int .u8 0, .int .u8 0, .int .u8 0, .int .u8 0] 103)).alloc (.cells #[cutV (some ⟨b, o, none⟩) cap 10 (s, k + 1 - s)] 83))) := (hB.alloc hB.size _).alloc (by have := hB.size; simp; omega) _
    have HOX : Hid (((wr.alloc (.cells #[.slice kq.a kq.n kq.cap, .slice sv.a sv.n sv.cap, .int .u8 0, .int .u8 0, .int .u8 0, .int .u8 0, .int .u8 0, .int .u8 0, .int .u8 0, .int .u8 0] 103)).alloc (.cells #[cutV (some ⟨b, o, none⟩) cap 10 (s, k + 1 - s)] 83)).ownsRow w.heap.size 83 1 (.slice o9.a o9.n o9.cap) (cutAt level its k).1.length ((cutAt level its k).1.map (cutV (some ⟨b, o, none⟩) cap 10))) := (HO.out.alloc _).alloc _
    have HSX : Hid (SlV ((wr.alloc (.cells #[.slice kq.a kq.n kq.cap, .slice sv.a sv.n sv.cap, .int .u8 0, .int .u8 0, .int .u8 0, .int .u8 0, .int .u8 0, .int .u8 0, .int .u8 0, .int .u8 0] 103)).alloc (.cells #[cutV (some ⟨b, o, none⟩) cap 10 (s, k + 1 - s)] 83)) (some ⟨wr.heap.size + 1, 0, none⟩) [cutV (some ⟨b, o, none⟩) cap 10 (s, k + 1 - s)]) := by
     have := SlV.alloc_new (wr.alloc (.cells #[.slice kq.a kq.n kq.cap, .slice sv.a sv.n sv.cap, .int .u8 0, .int .u8 0, .int .u8 0, .int .u8 0, .int .u8 0, .int .u8 0, .int .u8 0, .int .u8 0] 103)) [cutV (some ⟨b, o, none⟩) cap 10 (s, k + 1 - s)] 83
     unfold Hid; simpa using this
    go_wp2_with (first
     | (refine wp_sliceLH (by rfl) 83 103 (.tmp 31) (.tmp 32) (.tmp 34) (by rfl) (some ⟨b, o, none⟩) n cap s (k + 1) 10 (by rfl) (by rfl) (by rfl) Try.underlying83 Try.sizeEntryB HSL.out HJC.out ?_)
     | (at_builtin; refine wp_appendV (by rfl) (.tmp 30) (.tmp 36) 144 (by rfl) w.heap.size 83 _ 1 24 Try.underlying144 Try.infoEnts rfl (by decide) (.slice o9.a o9.n o9.cap) (cutAt level its k).1.length ((cutAt level its k).1.map (cutV (some ⟨b, o, none⟩) cap 10)) (by rfl) HOX.out (some ⟨wr.heap.size + 1, 0, none⟩) 1 1 [cutV (some ⟨b, o, none⟩) cap 10 (s, k + 1 - s)] (by rfl) rfl HSX.out (fun h => by cases h) (cutV_one _ _ _ [(s, k + 1 - s)]) (by have := HCL.out; unfold maxLen; omega) (by have := HCL.out; omega) HBX.out.size ?_; intro v3 w3 ho3 hf3 hat3; obtain ⟨a3, c3, hv3, _⟩ := owns_form ho3; subst hv3))
    refine ⟨⟨k + 1, k + 1, ⟨a3, _, c3⟩, by omega, by go_num, by go_num, by omega, by unfold Hid; rw [HCK2.out], rfl, ?_, ?_⟩, by simp [intOf]; omega⟩
    ·unfold Hid; rw [HCK2.out, List.length_append, List.map_append]; exact ho3
    ·exact HBX.out.trans (hf3.below HBX.out.size (fun q hq => (HOX.out.lt q hq).1))
   ·have heq : ((k : Int) == (n : Int) - 1) = false := by simp; omega
    have HNL : Hid (¬ k + 1 = its.length) := by have := HN.out; unfold Hid; omega
    have hBA : Below wr.heap.size wr (wr.alloc (.cells #[.slice kq.a kq.n kq.cap, .slice sv.a sv.n sv.cap, .int .u8 0, .int .u8 0, .int .u8 0, .int .u8 0, .int .u8 0, .int .u8 0, .int .u8 0, .int .u8 0] 103)) := (Below.refl _ _).alloc (Nat.le_refl _) _
    have HC1 : Hid (Calls _ _ _ _ _) := HKEY.out (wr.alloc (.cells #[.slice kq.a kq.n kq.cap, .slice sv.a sv.n sv.cap, .int .u8 0, .int .u8 0, .int .u8 0, .int .u8 0, .int .u8 0, .int .u8 0, .int .u8 0, .int .u8 0] 103)) hBA
    have HC2 : Hid (∀ (w4 : World), Below (wr.alloc (.cells #[.slice kq.a kq.n kq.cap, .slice sv.a sv.n sv.cap, .int .u8 0, .int .u8 0, .int .u8 0, .int .u8 0, .int .u8 0, .int .u8 0, .int .u8 0, .int .u8 0] 103)).heap.size (wr.alloc (.cells #[.slice kq.a kq.n kq.cap, .slice sv.a sv.n sv.cap, .int .u8 0, .int .u8 0, .int .u8 0, .int .u8 0, .int .u8 0, .int .u8 0, .int .u8 0, .int .u8 0] 103)) w4 → Calls Try.prog 104 #[.int .i64 (level : Int), .slice sk.a sk.n sk.cap] w4 fun e w' => e = .returned (.bool (endB level its[k].key)) ∧ Below w4.heap.size w4 w') := fun w4 h4 => tEnd_any level sk its[k].key w4 HLV.out (HBS.out w4 (hBA.trans (h4.mono hBA.size))) HKL.out
    have HB5 : Hid (∀ (w4 w5 : World), Below (wr.alloc (.cells #[.slice kq.a kq.n kq.cap, .slice sv.a sv.n sv.cap, .int .u8 0, .int .u8 0, .int .u8 0, .int .u8 0, .int .u8 0, .int .u8 0, .int .u8 0, .int .u8 0] 103)).heap.size (wr.alloc (.cells #[.slice kq.a kq.n kq.cap, .slice sv.a sv.n sv.cap, .int .u8 0, .int .u8 0, .int .u8 0, .int .u8 0, .int .u8 0, .int .u8 0, .int .u8 0, .int .u8 0] 103)) w4 → Below w4.heap.size w4 w5 → Below wr.heap.size wr w5) := fun w4 w5 h4 h5 => (hBA.trans (h4.mono hBA.size)).trans (h5.mono (hBA.trans (h4.mono hBA.size)).size)
    unfold SlR.val at HC1
    clear hlast hBA
    cases hend : endB level its[k].key with
    | true =>
     have HCK2 : Hid (cutAt level its (k + 1) = ((cutAt level its k).1 ++ [(s, k + 1 - s)], k + 1)) := by
      unfold Hid; rw [HCK.out, if_pos (Or.inr hend), ← HS.out]
     rw [hend] at HC2
     clear hend
     have HX : Hid (∀ w5 : World, Below wr.heap.size wr w5 → (w5.alloc (.cells #[cutV (some ⟨b, o, none⟩) cap 10 (s, k + 1 - s)] 83)).ownsRow w.heap.size 83 1 (.slice o9.a o9.n o9.cap) (cutAt level its k).1.length ((cutAt level its k).1.map (cutV (some ⟨b, o, none⟩) cap 10)) ∧ SlV (w5.alloc (.cells #[cutV (some ⟨b, o, none⟩) cap 10 (s, k + 1 - s)] 83)) (some ⟨w5.heap.size, 0, none⟩) [cutV (some ⟨b, o, none⟩) cap 10 (s, k + 1 - s)] ∧ Below w.heap.size w (w5.alloc (.cells #[cutV (some ⟨b, o, none⟩) cap 10 (s, k + 1 - s)] 83))) := fun w5 h5 => by
      have h6 := hB.trans (h5.mono hB.size)
      exact ⟨(owns_below HO.out h5).alloc _, SlV.alloc_new w5 _ _, h6.alloc h6.size _⟩
     go_wp2_with (first
      | (go_at_call 91; refine HC1.out.mono ?_; rintro e w4 ⟨rfl, hb4⟩)
      | (go_at_call 104; refine (HC2.out w4 hb4).mono ?_; rintro e w5 ⟨rfl, hb5⟩; obtain ⟨hox, hsx, hbx⟩ := HX.out w5 (HB5.out w4 w5 hb4 hb5))
      | (refine wp_sliceLH (by rfl) 83 103 (.tmp 31) (.tmp 32) (.tmp 34) (by rfl) (some ⟨b, o, none⟩) n cap s (k + 1) 10 (by rfl) (by rfl) (by rfl) Try.underlying83 Try.sizeEntryB HSL.out HJC.out ?_)
      | (at_builtin; refine wp_appendV (by rfl) (.tmp 30) (.tmp 36) 144 (by rfl) w.heap.size 83 _ 1 24 Try.underlying144 Try.infoEnts rfl (by decide) (.slice o9.a o9.n o9.cap) (cutAt level its k).1.length ((cutAt level its k).1.map (cutV (some ⟨b, o, none⟩) cap 10)) (by rfl) hox (some ⟨w5.heap.size, 0, none⟩) 1 1 [cutV (some ⟨b, o, none⟩) cap 10 (s, k + 1 - s)] (by rfl) rfl hsx (fun h => by cases h) (cutV_one _ _ _ [(s, k + 1 - s)]) (by have := HCL.out; unfold maxLen; omega) (by have := HCL.out; omega) hbx.size ?_; intro v3 w3 ho3 hf3 hat3; obtain ⟨a3, c3, hv3, _⟩ := owns_form ho3; subst hv3))
     refine ⟨⟨k + 1, k + 1, ⟨a3, _, c3⟩, by omega, by go_num, by go_num, by omega, by unfold Hid; rw [HCK2.out], rfl, ?_, ?_⟩, by simp [intOf]; omega⟩
     ·unfold Hid; rw [HCK2.out, List.length_append, List.map_append]; exact ho3
     ·exact hbx.trans (hf3.below hbx.size (fun q hq => (hox.lt q hq).1))
    | false =>
     have HCK2 : Hid (cutAt level its (k + 1) = cutAt level its k) := by
      unfold Hid; rw [HCK.out, if_neg (fun h => by rcases h with h | h; exact HNL.out h; rw [hend] at h; cases h)]
     rw [hend] at HC2
     clear hend
     go_wp2_with (first
      | (go_at_call 91; refine HC1.out.mono ?_; rintro e w4 ⟨rfl, hb4⟩)
      | (go_at_call 104; refine (HC2.out w4 hb4).mono ?_; rintro e w5 ⟨rfl, hb5⟩))
     have hb6 := HB5.out w4 w5 hb4 hb5
     refine ⟨⟨k + 1, s, o9, by omega, by go_num, by simp, by omega, by unfold Hid; rw [HCK2.out]; exact HS.out, rfl, ?_, hB.trans (hb6.mono hB.size)⟩, by simp [intOf]; omega⟩
     unfold Hid; rw [HCK2.out]; exact owns_below HO.out hb6
  ·obtain rfl : k = n := by omega
   unfold SlR.val
   go_wp2
   go_ret
   exact ⟨o9, rfl, by rw [HCE.out]; exact HO.out, hB⟩
set_option maxRecDepth 100000 in
set_option maxHeartbeats 4000000 in
theorem partedN_any (level : Nat) (a : Option Addr) (n cap : Nat) (bl : List Nat) (its : List ItR) (w : World) (hn : n = its.length) (hl : its.length = bl.length) (h200 : its.length ≤ 200) (hlv : level ≤ 200) (hcap : n ≤ cap) (hcm : cap ≤ maxLen) (hok : ∀ x ∈ its, ItOk x) (hs : SlV w a (bl.map ptrV)) (hen : ∀ i (h1 : i < bl.length) (h2 : i < its.length), ∃ la : SlR, w.cell? ⟨bl[i], 0, none⟩ = some la.val ∧ bl[i] < w.heap.size ∧ BS w la its[i].key) :
  Calls Try.prog 92 #[.int .i64 (level : Int), .slice a n cap, .func (.func 93) #[] #[]] w fun e w' => ∃ o : SlR, e = .returned o.val ∧ w'.ownsRow w.heap.size 87 1 o.val (cutsN level its).length ((cutsN level its).map (cutV a cap 1)) ∧ Below w.heap.size w w' := by
 have HQ : Hid (∀ (wr : World), Below w.heap.size w wr → ∀ k (hk : k < n) (hk2 : k < its.length), ∃ b o p, a = some ⟨b, o, none⟩ ∧ wr.cell? ⟨b, o + k, none⟩ = some (.pointer (some ⟨p, 0, none⟩)) ∧
   ∃ sk : SlR, (∀ W, Below wr.heap.size wr W → Calls Try.prog 93 #[.pointer (some ⟨p, 0, none⟩)] W fun e w' => e = .returned sk.val ∧ Below W.heap.size W w') ∧ (∀ W, Below wr.heap.size wr W → BS W sk its[k].key)) := fun wr hB k hk hk2 => by
  obtain ⟨b, o, ha, hb, hc⟩ := SlV.ptr hs k (by omega)
  obtain ⟨la, hla, hlt, hbs⟩ := hen k (by omega) hk2
  refine ⟨b, o, bl[k]'(by omega), ha, ?_, la, fun W hW => ?_, fun W hW => hbs.below (hB.trans (hW.mono hB.size))⟩
  ·rw [hB.cell (p := ⟨b, o + k, none⟩) hb]; exact hc
  ·refine nodeKey_any _ la W ?_
   rw [(hB.trans (hW.mono hB.size)).cell (p := ⟨bl[k]'(by omega), 0, none⟩) hlt]; exact hla
 have HOK : Hid (∀ x ∈ its, ItOk x) := hok
 have HN : Hid (n = its.length) := hn
 have HC : Hid (∀ k (hk : k < its.length), cutAt level its (k + 1) = if k + 1 = its.length ∨ endB level its[k].key = true then ((cutAt level its k).1 ++ [((cutAt level its k).2, k + 1 - (cutAt level its k).2)], k + 1) else cutAt level its k) := fun k hk => by
  rw [cutAt, List.getElem?_eq_getElem hk]; rfl
 have HCE : Hid (cutsN level its = (cutAt level its n).1) := by unfold Hid; rw [hn]; rfl
 have hn2 : n ≤ 200 := by omega
 have hnI : (n : Int) ≤ 200 := by omega
 have hlvI : (level : Int) ≤ 200 := by omega
 unfold maxLen at hcm
 have hcI : (n : Int) ≤ cap := by omega
 have hcmI : (cap : Int) ≤ 9223372036854775807 := by omega
 have HLV : Hid (level ≤ 200) := hlv
 have HCAP : Hid (n ≤ cap) := hcap
 clear hs hen hok hn hl h200 hlv hcap hcm
 go_enter Try.func92, Try.ntmps92
 go_wp2
 go_loopw [7, 8, 9, 10, 13] (fun ov st _ _ ix wr => ∃ (k s : Nat) (o : SlR), k ≤ n ∧ ix = .int .i64 k ∧ st = .int .i64 s ∧ s ≤ k ∧ Hid (s = (cutAt level its k).2) ∧ ov = o.val ∧ Hid (wr.ownsRow w.heap.size 87 1 o.val (cutAt level its k).1.length ((cutAt level its k).1.map (cutV a cap 1))) ∧ Below w.heap.size w wr) (fun _ _ _ _ ix _ => n - (intOf ix).toNat)
 case atStart => exact ⟨0, 0, ⟨none, 0, 0⟩, by omega, by simp, by simp, by omega, rfl, rfl, World.ownsRow_nil _ _ _ _, Below.refl _ _⟩
 case round =>
  obtain ⟨k, s, o9, hk, rfl, rfl, hsk, HS, rfl, HO, hB⟩ := hrel
  by_cases hlt : k < n
  ·have hltI : (k : Int) < n := by omega
   have hkl : k < its.length := by have := HN.out; omega
   obtain ⟨b, o, p, rfl, hc, sk, hkey, hbs⟩ := HQ.out wr hB k hlt hkl
   have HKEY : Hid (∀ W, Below wr.heap.size wr W → _) := hkey
   have HBS : Hid (∀ W, Below wr.heap.size wr W → BS W sk its[k].key) := hbs
   clear hkey hbs
   have c0 := hc
   have HKL : Hid (its[k].key.length ≤ 200) := by have := (HOK.out its[k] (List.getElem_mem hkl)).1; unfold Hid; omega
   have HCK : Hid (cutAt level its (k + 1) = if k + 1 = its.length ∨ endB level its[k].key = true then ((cutAt level its k).1 ++ [((cutAt level its k).2, k + 1 - (cutAt level its k).2)], k + 1) else cutAt level its k) := HC.out k hkl
   have HCL : Hid ((cutAt level its k).1.length ≤ 200) := by have := (cutAt_le level its k).2; unfold Hid; omega
   have HSL : Hid (s ≤ k + 1) := by unfold Hid; omega
   have HJC : Hid (k + 1 ≤ cap) := by have := HCAP.out; unfold Hid; omega
   unfold SlR.val
   have hk1I : (k : Int) + 1 = ((k + 1 : Nat) : Int) := by omega
   have HK1 : Hid ((k : Int) + 1 = ((k + 1 : Nat) : Int)) := hk1I
   clear hk1I
   by_cases hlast : k + 1 = n
   ·have heq : ((k : Int) == (n : Int) - 1) = true := by simp; omega
    have HCK2 : Hid (cutAt level its (k + 1) = ((cutAt level its k).1 ++ [(s, k + 1 - s)], k + 1)) := by
     unfold Hid; rw [HCK.out, if_pos (Or.inl (by have := HN.out; omega)), ← HS.out]
    clear hlast
    have HBX : Hid (Below w.heap.size w (wr.alloc (.cells #[cutV (some ⟨b, o, none⟩) cap 1 (s, k + 1 - s)] 87))) := hB.alloc hB.size _
    have HOX : Hid ((wr.alloc (.cells #[cutV (some ⟨b, o, none⟩) cap 1 (s, k + 1 - s)] 87)).ownsRow w.heap.size 87 1 (.slice o9.a o9.n o9.cap) (cutAt level its k).1.length ((cutAt level its k).1.map (cutV (some ⟨b, o, none⟩) cap 1))) := HO.out.alloc _
    have HSX : Hid (SlV (wr.alloc (.cells #[cutV (some ⟨b, o, none⟩) cap 1 (s, k + 1 - s)] 87)) (some ⟨wr.heap.size, 0, none⟩) [cutV (some ⟨b, o, none⟩) cap 1 (s, k + 1 - s)]) := by
     have := SlV.alloc_new wr [cutV (some ⟨b, o, none⟩) cap 1 (s, k + 1 - s)] 87
     unfold Hid; simpa using this
    go_wp2_with (first
     | (refine wp_sliceLH (by rfl) 87 96 (.tmp 31) (.tmp 32) (.tmp 34) (by rfl) (some ⟨b, o, none⟩) n cap s (k + 1) 1 (by rfl) (by rfl) (by rfl) Try.underlying87 Try.sizeNdP HSL.out HJC.out ?_)
     | (at_builtin; refine wp_appendV (by rfl) (.tmp 30) (.tmp 36) 149 (by rfl) w.heap.size 87 _ 1 24 Try.underlying149 Try.infoNds rfl (by decide) (.slice o9.a o9.n o9.cap) (cutAt level its k).1.length ((cutAt level its k).1.map (cutV (some ⟨b, o, none⟩) cap 1)) (by rfl) HOX.out (some ⟨wr.heap.size, 0, none⟩) 1 1 [cutV (some ⟨b, o, none⟩) cap 1 (s, k + 1 - s)] (by rfl) rfl HSX.out (fun h => by cases h) (cutV_one _ _ _ [(s, k + 1 - s)]) (by have := HCL.out; unfold maxLen; omega) (by have := HCL.out; omega) HBX.out.size ?_; intro v3 w3 ho3 hf3 hat3; obtain ⟨a3, c3, hv3, _⟩ := owns_form ho3; subst hv3))
    refine ⟨⟨k + 1, k + 1, ⟨a3, _, c3⟩, by omega, by go_num, by go_num, by omega, by unfold Hid; rw [HCK2.out], rfl, ?_, ?_⟩, by simp [intOf]; omega⟩
    ·unfold Hid; rw [HCK2.out, List.length_append, List.map_append]; exact ho3
    ·exact HBX.out.trans (hf3.below HBX.out.size (fun q hq => (HOX.out.lt q hq).1))
   ·have heq : ((k : Int) == (n : Int) - 1) = false := by simp; omega
    have HNL : Hid (¬ k + 1 = its.length) := by have := HN.out; unfold Hid; omega
    have hBA : Below wr.heap.size wr (wr) := Below.refl _ _
    have HC1 : Hid (Calls _ _ _ _ _) := HKEY.out (wr) hBA
    have HC2 : Hid (∀ (w4 : World), Below (wr).heap.size (wr) w4 → Calls Try.prog 104 #[.int .i64 (level : Int), .slice sk.a sk.n sk.cap] w4 fun e w' => e = .returned (.bool (endB level its[k].key)) ∧ Below w4.heap.size w4 w') := fun w4 h4 => tEnd_any level sk its[k].key w4 HLV.out (HBS.out w4 (hBA.trans (h4.mono hBA.size))) HKL.out
    have HB5 : Hid (∀ (w4 w5 : World), Below (wr).heap.size (wr) w4 → Below w4.heap.size w4 w5 → Below wr.heap.size wr w5) := fun w4 w5 h4 h5 => (hBA.trans (h4.mono hBA.size)).trans (h5.mono (hBA.trans (h4.mono hBA.size)).size)
    unfold SlR.val at HC1
    clear hlast hBA
    cases hend : endB level its[k].key with
    | true =>
     have HCK2 : Hid (cutAt level its (k + 1) = ((cutAt level its k).1 ++ [(s, k + 1 - s)], k + 1)) := by
      unfold Hid; rw [HCK.out, if_pos (Or.inr hend), ← HS.out]
     rw [hend] at HC2
     clear hend
     have HX : Hid (∀ w5 : World, Below wr.heap.size wr w5 → (w5.alloc (.cells #[cutV (some ⟨b, o, none⟩) cap 1 (s, k + 1 - s)] 87)).ownsRow w.heap.size 87 1 (.slice o9.a o9.n o9.cap) (cutAt level its k).1.length ((cutAt level its k).1.map (cutV (some ⟨b, o, none⟩) cap 1)) ∧ SlV (w5.alloc (.cells #[cutV (some ⟨b, o, none⟩) cap 1 (s, k + 1 - s)] 87)) (some ⟨w5.heap.size, 0, none⟩) [cutV (some ⟨b, o, none⟩) cap 1 (s, k + 1 - s)] ∧ Below w.heap.size w (w5.alloc (.cells #[cutV (some ⟨b, o, none⟩) cap 1 (s, k + 1 - s)] 87))) := fun w5 h5 => by
      have h6 := hB.trans (h5.mono hB.size)
      exact ⟨(owns_below HO.out h5).alloc _, SlV.alloc_new w5 _ _, h6.alloc h6.size _⟩
     go_wp2_with (first
      | (go_at_call 93; refine HC1.out.mono ?_; rintro e w4 ⟨rfl, hb4⟩)
      | (go_at_call 104; refine (HC2.out w4 hb4).mono ?_; rintro e w5 ⟨rfl, hb5⟩; obtain ⟨hox, hsx, hbx⟩ := HX.out w5 (HB5.out w4 w5 hb4 hb5))
      | (refine wp_sliceLH (by rfl) 87 96 (.tmp 31) (.tmp 32) (.tmp 34) (by rfl) (some ⟨b, o, none⟩) n cap s (k + 1) 1 (by rfl) (by rfl) (by rfl) Try.underlying87 Try.sizeNdP HSL.out HJC.out ?_)
      | (at_builtin; refine wp_appendV (by rfl) (.tmp 30) (.tmp 36) 149 (by rfl) w.heap.size 87 _ 1 24 Try.underlying149 Try.infoNds rfl (by decide) (.slice o9.a o9.n o9.cap) (cutAt level its k).1.length ((cutAt level its k).1.map (cutV (some ⟨b, o, none⟩) cap 1)) (by rfl) hox (some ⟨w5.heap.size, 0, none⟩) 1 1 [cutV (some ⟨b, o, none⟩) cap 1 (s, k + 1 - s)] (by rfl) rfl hsx (fun h => by cases h) (cutV_one _ _ _ [(s, k + 1 - s)]) (by have := HCL.out; unfold maxLen; omega) (by have := HCL.out; omega) hbx.size ?_; intro v3 w3 ho3 hf3 hat3; obtain ⟨a3, c3, hv3, _⟩ := owns_form ho3; subst hv3))
     refine ⟨⟨k + 1, k + 1, ⟨a3, _, c3⟩, by omega, by go_num, by go_num, by omega, by unfold Hid; rw [HCK2.out], rfl, ?_, ?_⟩, by simp [intOf]; omega⟩
     ·unfold Hid; rw [HCK2.out, List.length_append, List.map_append]; exact ho3
     ·exact hbx.trans (hf3.below hbx.size (fun q hq => (hox.lt q hq).1))
    | false =>
     have HCK2 : Hid (cutAt level its (k + 1) = cutAt level its k) := by
      unfold Hid; rw [HCK.out, if_neg (fun h => by rcases h with h | h; exact HNL.out h; rw [hend] at h; cases h)]
     rw [hend] at HC2
     clear hend
     go_wp2_with (first
      | (go_at_call 93; refine HC1.out.mono ?_; rintro e w4 ⟨rfl, hb4⟩)
      | (go_at_call 104; refine (HC2.out w4 hb4).mono ?_; rintro e w5 ⟨rfl, hb5⟩))
     have hb6 := HB5.out w4 w5 hb4 hb5
     refine ⟨⟨k + 1, s, o9, by omega, by go_num, by simp, by omega, by unfold Hid; rw [HCK2.out]; exact HS.out, rfl, ?_, hB.trans (hb6.mono hB.size)⟩, by simp [intOf]; omega⟩
     unfold Hid; rw [HCK2.out]; exact owns_below HO.out hb6
  ·obtain rfl : k = n := by omega
   unfold SlR.val
   go_wp2
   go_ret
   exact ⟨o9, rfl, by rw [HCE.out]; exact HO.out, hB⟩
end Go.Proofs.Ytekegfbjbainhaa
