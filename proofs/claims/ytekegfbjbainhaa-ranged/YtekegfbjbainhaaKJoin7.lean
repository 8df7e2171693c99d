import Derived.Test.YtekegfbjbainhaaKJoin4
import Derived.Deep.RegionWith
import Derived.Test.YtekegfbjbainhaaKJoin6
set_option linter.unusedVariables false
set_option linter.unusedSimpArgs false

namespace Go.Proofs.Ytekegfbjbainhaa
open Go.RowKit
abbrev StoRow (w : World) (sb : Nat) (en : SlR) (mp : Option Nat) (tr : SlR) : Prop := RowV w sb 89 [en.val, .map mp, tr.val]
theorem Try.sizeEntry : (Try.prog.info? 103).map (·.size) = some 10 := by kernel_rfl
theorem concat_put (W : World) (en bs k' v' : SlR) (xs : List EnP) (i j : Nat) (hi : i ≤ xs.length) (hj : j ≤ xs.length) (h60 : xs.length ≤ 60) (h8 : ∀ x ∈ xs, x.d.length = 8) (hs : SlV W en.a (ensC xs)) (hn1 : en.a = none → i = 0 ∧ en.cap = 0)
  (hb : SlV W bs.a (ensC (xs.drop j))) (hbn : bs.n = xs.length - j) (hn2 : bs.a = none → bs.n = 0 ∧ bs.cap = 0) :
  Calls Try.prog 54 #[.slice (some ⟨W.heap.size + 1, 0, none⟩) 3 3] (((W.alloc (.cells #[.slice k'.a k'.n k'.cap, .slice v'.a v'.n v'.cap, .int .u8 0, .int .u8 0, .int .u8 0, .int .u8 0, .int .u8 0, .int .u8 0, .int .u8 0, .int .u8 0] 103)).alloc (.cells #[.slice en.a i en.cap, .slice (some ⟨W.heap.size, 0, none⟩) 1 1, .slice bs.a bs.n bs.cap] 83)).drew)
   fun e w' => ∃ s : SlR, e = .returned (.slice s.a s.n s.cap) ∧ w'.ownsRow W.heap.size 103 10 s.val (putX xs i [⟨k', v', zero8⟩] j).length (ensC (putX xs i [⟨k', v', zero8⟩] j)) ∧ Below W.heap.size W w' := by
 have hB : Below W.heap.size W (((W.alloc (.cells #[.slice k'.a k'.n k'.cap, .slice v'.a v'.n v'.cap, .int .u8 0, .int .u8 0, .int .u8 0, .int .u8 0, .int .u8 0, .int .u8 0, .int .u8 0, .int .u8 0] 103)).alloc (.cells #[.slice en.a i en.cap, .slice (some ⟨W.heap.size, 0, none⟩) 1 1, .slice bs.a bs.n bs.cap] 83)).drew) := by
  have h1 := ((Frame.refl (fun _ => False) W).alloc (.cells #[.slice k'.a k'.n k'.cap, .slice v'.a v'.n v'.cap, .int .u8 0, .int .u8 0, .int .u8 0, .int .u8 0, .int .u8 0, .int .u8 0, .int .u8 0, .int .u8 0] 103)).alloc (.cells #[.slice en.a i en.cap, .slice (some ⟨W.heap.size, 0, none⟩) 1 1, .slice bs.a bs.n bs.cap] 83)
  exact h1.drew.below (Nat.le_refl _) (fun k hk => by cases hk)
 have hp2 : RowV (((W.alloc (.cells #[.slice k'.a k'.n k'.cap, .slice v'.a v'.n v'.cap, .int .u8 0, .int .u8 0, .int .u8 0, .int .u8 0, .int .u8 0, .int .u8 0, .int .u8 0, .int .u8 0] 103)).alloc (.cells #[.slice en.a i en.cap, .slice (some ⟨W.heap.size, 0, none⟩) 1 1, .slice bs.a bs.n bs.cap] 83)).drew) W.heap.size 103 (enC ⟨k', v', zero8⟩) := (RowV.new W 103 (enC ⟨k', v', zero8⟩)).alloc (.cells #[.slice en.a i en.cap, .slice (some ⟨W.heap.size, 0, none⟩) 1 1, .slice bs.a bs.n bs.cap] 83)
 have hp3 : RowV (((W.alloc (.cells #[.slice k'.a k'.n k'.cap, .slice v'.a v'.n v'.cap, .int .u8 0, .int .u8 0, .int .u8 0, .int .u8 0, .int .u8 0, .int .u8 0, .int .u8 0, .int .u8 0] 103)).alloc (.cells #[.slice en.a i en.cap, .slice (some ⟨W.heap.size, 0, none⟩) 1 1, .slice bs.a bs.n bs.cap] 83)).drew) (W.heap.size + 1) 83 [.slice en.a i en.cap, .slice (some ⟨W.heap.size, 0, none⟩) 1 1, .slice bs.a bs.n bs.cap] := RowV.new_at (W.alloc (.cells #[.slice k'.a k'.n k'.cap, .slice v'.a v'.n v'.cap, .int .u8 0, .int .u8 0, .int .u8 0, .int .u8 0, .int .u8 0, .int .u8 0, .int .u8 0, .int .u8 0] 103)) 83 (W.heap.size + 1) _ (by simp)
 have hs1 := hs.below_all hB
 have hb1 := hb.below_all hB
 generalize (((W.alloc (.cells #[.slice k'.a k'.n k'.cap, .slice v'.a v'.n v'.cap, .int .u8 0, .int .u8 0, .int .u8 0, .int .u8 0, .int .u8 0, .int .u8 0, .int .u8 0, .int .u8 0] 103)).alloc (.cells #[.slice en.a i en.cap, .slice (some ⟨W.heap.size, 0, none⟩) 1 1, .slice bs.a bs.n bs.cap] 83)).drew) = X at *
 have ht8 : ∀ x ∈ xs.take i, x.d.length = 8 := fun x hx => h8 x (List.mem_of_mem_take hx)
 have hd8 : ∀ x ∈ xs.drop j, x.d.length = 8 := fun x hx => h8 x (List.mem_of_mem_drop hx)
 have hpn : pN [(⟨en.a, i, en.cap⟩, ensC (xs.take i)), (⟨some ⟨W.heap.size, 0, none⟩, 1, 1⟩, enC ⟨k', v', zero8⟩), (bs, ensC (xs.drop j))] = (putX xs i [⟨k', v', zero8⟩] j).length := by
  simp [pN, putX, hbn]; omega
 have hpc : pC [(⟨en.a, i, en.cap⟩, ensC (xs.take i)), (⟨some ⟨W.heap.size, 0, none⟩, 1, 1⟩, enC ⟨k', v', zero8⟩), (bs, ensC (xs.drop j))] = ensC (putX xs i [⟨k', v', zero8⟩] j) := by
  simp [pC, putX, ensC]
 have hcall := concatE_any (W.heap.size + 1) 3 [(⟨en.a, i, en.cap⟩, ensC (xs.take i)), (⟨some ⟨W.heap.size, 0, none⟩, 1, 1⟩, enC ⟨k', v', zero8⟩), (bs, ensC (xs.drop j))] X rfl (by simp) (by rw [hpn]; simp [putX]; omega) ?_ hp3.lt ?_
 ·refine hcall.mono ?_
  rintro e w' ⟨s, rfl, ho, hb2⟩
  refine ⟨s, rfl, ?_, hB.trans (hb2.mono hB.size)⟩
  rw [hpn, hpc] at ho
  exact owns_base ho (fun k hk => Nat.le_trans hB.size (ho.lt k hk).1)
 ·intro q hq
  match q, hq with
  | 0, _ => exact hp3.cell 0 (by simp)
  | 1, _ => exact hp3.cell 1 (by simp)
  | 2, _ => exact hp3.cell 2 (by simp)
 ·intro p hp
  simp only [List.mem_cons, List.not_mem_nil, or_false] at hp
  rcases hp with rfl | rfl | rfl
  ·refine ⟨?_, ?_, hn1, ensC_one _⟩
   ·show SlV X en.a (ensC (xs.take i))
    rw [ensC_take xs h8 i hi]; exact hs1.take _
   ·show (ensC (xs.take i)).length = i * 10
    rw [ensC_length _ ht8, List.length_take, Nat.min_eq_left hi]
  ·refine ⟨?_, rfl, (fun h => by cases h), ?_⟩
   ·intro q hq
    exact ⟨W.heap.size, 0, rfl, hp2.lt, by rw [Nat.zero_add]; exact hp2.cell q hq⟩
   ·intro u hu
    exact ensC_one [⟨k', v', zero8⟩] u (by simpa [ensC] using hu)
  ·refine ⟨hb1, ?_, hn2, ensC_one _⟩
   show (ensC (xs.drop j)).length = bs.n * 10
   rw [ensC_length _ hd8, List.length_drop, hbn]
theorem idx_put {α : Type} (l : List α) (i j : Nat) (e : α) (hi : i ≤ l.length) (q : Nat) : (l.take i ++ [e] ++ l.drop j)[q]? = if q < i then l[q]? else if q = i then some e else l[j + (q - i - 1)]? := by
 have hti : (l.take i).length = i := by rw [List.length_take]; omega
 by_cases hq : q < i
 ·rw [if_pos hq, List.append_assoc, List.getElem?_append_left (by omega), List.getElem?_take_of_lt hq]
 ·rw [if_neg hq, List.append_assoc, List.getElem?_append_right (by omega), hti]
  by_cases hq2 : q = i
  ·rw [if_pos hq2]; subst hq2; simp
  ·rw [if_neg hq2]
   obtain ⟨d, hd⟩ : ∃ d, q - i = d + 1 := ⟨q - i - 1, by omega⟩
   rw [hd, List.singleton_append, List.getElem?_cons_succ, List.getElem?_drop]
   rfl
theorem put_ent {W W' : World} {en s : SlR} {xs : List EnP} {its : List ItR} {k' v' : SlR} {key value : List UInt8} {i j : Nat} (hE : EntAt W en xs its) (hB : Below W.heap.size W W') (hk : BS W k' key) (hv : BS W v' value) (hi : i ≤ xs.length)
  (ho : W'.ownsRow W.heap.size 103 10 s.val (putX xs i [⟨k', v', zero8⟩] j).length (ensC (putX xs i [⟨k', v', zero8⟩] j))) : EntAt W' s (putX xs i [⟨k', v', zero8⟩] j) (its.take i ++ [⟨key, value, 0⟩] ++ its.drop j) := by
 refine ⟨owns_base ho (fun k hk => Nat.zero_le _), ?_, ?_⟩
 ·have := hE.len
  simp [putX]; omega
 ·intro q h1 h2
  have hl := hE.len
  have g1 : (putX xs i [⟨k', v', zero8⟩] j)[q]? = _ := idx_put xs i j ⟨k', v', zero8⟩ hi q
  have g2 := idx_put its i j ⟨key, value, 0⟩ (by omega) q
  have e1 : (putX xs i [⟨k', v', zero8⟩] j)[q]? = some (putX xs i [⟨k', v', zero8⟩] j)[q] := List.getElem?_eq_getElem h1
  have e2 := List.getElem?_eq_getElem h2
  rw [g1] at e1
  rw [g2] at e2
  by_cases hq : q < i
  ·rw [if_pos hq] at e1 e2
   obtain ⟨p1, p2⟩ := List.getElem?_eq_some_iff.1 e1
   obtain ⟨p3, p4⟩ := List.getElem?_eq_some_iff.1 e2
   rw [← p4]
   have := (hE.ok q p1 p3).below hB
   rw [p2] at this; exact this
  ·rw [if_neg hq] at e1 e2
   by_cases hq2 : q = i
   ·rw [if_pos hq2] at e1 e2
    have p2 := Option.some.inj e1
    have p4 := Option.some.inj e2
    rw [← p4]
    have : EnOk W' ⟨k', v', zero8⟩ ⟨key, value, 0⟩ := ⟨hk.below hB, hv.below hB, rfl⟩
    rw [p2] at this; exact this
   ·rw [if_neg hq2] at e1 e2
    obtain ⟨p1, p2⟩ := List.getElem?_eq_some_iff.1 e1
    obtain ⟨p3, p4⟩ := List.getElem?_eq_some_iff.1 e2
    rw [← p4]
    have := (hE.ok _ p1 p3).below hB
    rw [p2] at this; exact this
theorem put_foot {en s : SlR} {xs : List EnP} {k' v' : SlR} {i j n : Nat} (hs : ∀ k, s.val.ownBlock = some k → n ≤ k) (hk : ∀ x, k'.a = some x → n ≤ x.block) (hv : ∀ x, v'.a = some x → n ≤ x.block) :
  ∀ k, entF s (putX xs i [⟨k', v', zero8⟩] j) k → k < n → entF en xs k := fun k h hlt => by
 rcases h with h | ⟨x, hx, h⟩
 ·have := hs k h; omega
 ·have hm : x ∈ xs ∨ x = ⟨k', v', zero8⟩ := by
   unfold putX at hx
   simp only [List.mem_append, List.mem_singleton] at hx
   rcases hx with (hx | hx) | hx
   ·exact Or.inl (List.mem_of_mem_take hx)
   ·exact Or.inr hx
   ·exact Or.inl (List.mem_of_mem_drop hx)
  rcases hm with hm | rfl
  ·exact Or.inr ⟨x, hm, h⟩
  ·rcases h with ⟨y, hy, rfl⟩ | ⟨y, hy, rfl⟩
   ·have := hk y hy; omega
   ·have := hv y hy; omega
theorem put_fin {w W w4 : World} {sb : Nat} {en tr s4 : SlR} {mp : Option Nat} {xs : List EnP} {its : List ItR} {k' v' : SlR} {key value : List UInt8} {i j : Nat} (hR : StoRow w sb en mp tr) (hd : ∀ k, entF en xs k → k ≠ sb) (hE : EntAt w en xs its) (hWB : Below w.heap.size w W)
  (hk : BS W k' key) (hv : BS W v' value) (hkf : ∀ x, k'.a = some x → w.heap.size ≤ x.block) (hvf : ∀ x, v'.a = some x → w.heap.size ≤ x.block) (hi : i ≤ xs.length)
  (ho : w4.ownsRow W.heap.size 103 10 s4.val (putX xs i [⟨k', v', zero8⟩] j).length (ensC (putX xs i [⟨k', v', zero8⟩] j))) (hb4 : Below W.heap.size W w4) :
  StoRow (w4.setCell ⟨sb, 0, none⟩ s4.val) sb s4 mp tr ∧ EntAt (w4.setCell ⟨sb, 0, none⟩ s4.val) s4 (putX xs i [⟨k', v', zero8⟩] j) (its.take i ++ [⟨key, value, 0⟩] ++ its.drop j) ∧ Frame (fun k => k = sb) w (w4.setCell ⟨sb, 0, none⟩ s4.val) ∧
   (∀ k, entF s4 (putX xs i [⟨k', v', zero8⟩] j) k → k < w.heap.size → entF en xs k) := by
 have hB4 : Below w.heap.size w w4 := hWB.trans (hb4.mono hWB.size)
 have hfoot := put_foot (en := en) (xs := xs) (i := i) (j := j) (n := w.heap.size) (fun k hk => Nat.le_trans hWB.size (ho.lt k hk).1) hkf hvf
 refine ⟨by simpa using (RowV.below hR (RowV.lt hR) hB4).set 0 s4.val, ?_, (Frame.of_below_all (S := fun k => k = sb) hB4).setCell (p := ⟨sb, 0, none⟩) rfl _, hfoot⟩
 refine (put_ent (hE.below hWB) hb4 hk hv hi ho).frame ((Frame.refl (fun k => k = sb) w4).setCell (p := ⟨sb, 0, none⟩) rfl _) (fun k hk e => ?_)
 exact hd k (hfoot k hk (by rw [e]; exact RowV.lt hR)) e
set_option maxRecDepth 100000 in
set_option maxHeartbeats 4000000 in
theorem put_ok (sb : Nat) (en tr : SlR) (mp : Option Nat) (xs : List EnP) (its : List ItR) (sk sv : SlR) (key value : List UInt8) (w : World) (hR : StoRow w sb en mp tr) (hd : ∀ k, entF en xs k → k ≠ sb) (hE : EntAt w en xs its) (hr : Rising its) (h60 : xs.length ≤ 60) (hK : BS w sk key) (hV : BS w sv value)
  (hk1 : 1 ≤ key.length) (hk2 : key.length ≤ 12) (hv2 : value.length ≤ 12) (hfull : thereB its key = false → xs.length < 60) :
  Calls Try.prog 32 #[.pointer (some ⟨sb, 0, none⟩), sk.val, sv.val] w fun e w' => e = .returned (.int .i64 0) ∧
   ∃ en' xs', StoRow w' sb en' mp tr ∧ EntAt w' en' xs' (putN its key value) ∧ Frame (fun k => k = sb) w w' ∧ (∀ k, entF en' xs' k → k < w.heap.size → entF en xs k) := by
 have hsb := hR.lt
 have h0 : w.cell? ⟨sb, 0, none⟩ = some (.slice en.a en.n en.cap) := hR.cell 0 (by simp)
 obtain ⟨hen, hnc, hcm, had⟩ := owns_cap (a := en.a) (n' := en.n) (cap := en.cap) hE.own
 have hsl := (SlV.ofOwn (s := en) hE.own).1
 have HIK : Hid (Calls _ _ _ _ _) := isKey_any sk.a sk.n sk.cap w (by rw [hK.n]; unfold maxLen; omega)
 have HIV : Hid (Calls _ _ _ _ _) := isValue_any sv.a sv.n sv.cap w (by rw [hV.n]; unfold maxLen; omega)
 have hkb : (decide (1 ≤ sk.n) && decide (sk.n ≤ 12)) = true := by rw [hK.n]; simp [hk1, hk2]
 have hvb : decide (sv.n ≤ 12) = true := by rw [hV.n]; simp [hv2]
 rw [hkb] at HIK
 rw [hvb] at HIV
 have HF : Hid (Calls _ _ _ _ _) := find_any en xs its sk key w hen hE.len h60 hsl hE.ok hr hK
 have hi := placeN_le its key
 have HT := @thereB_lt its key
 have HPUT : Hid (putN its key value = its.take (placeN its key) ++ [⟨key, value, 0⟩] ++ its.drop (if thereB its key then placeN its key + 1 else placeN its key)) := rfl
 rw [hE.len] at hi
 have HLEN : Hid (its.length = xs.length) := hE.len
 generalize placeN its key = i at *
 generalize thereB its key = t at *
 have HEN : Hid (en.n = xs.length) := hen
 have HNC : Hid (en.n ≤ en.cap) := by unfold Hid; omega
 have HI : Hid (i ≤ en.n) := by unfold Hid; omega
 have HTI : Hid (t = true → i < en.n) := fun e => by have := HT e; have := HLEN.out; omega
 have HFU : Hid (t = false → en.n < 60) := fun e => by have := hfull e; omega
 have hkn : sk.n ≤ 12 := by rw [hK.n]; exact hk2
 have hvn : sv.n ≤ 12 := by rw [hV.n]; exact hv2
 have hcm' : (en.cap : Int) ≤ 9223372036854775807 := by unfold maxLen at hcm; omega
 have HNIL2 : Hid (en.a = none → en.n = 0 ∧ en.cap = 0) := fun e => by
  rcases had with ⟨_, h1, h2⟩ | ⟨g, h1, _⟩
  ·exact ⟨by omega, h2⟩
  ·rw [e] at h1; cases h1
 have HNIL : Hid (en.a = none → i = 0 ∧ en.cap = 0) := fun e => by have := HNIL2.out e; have := HI.out; omega
 clear hkb hvb HT hfull hen hnc hcm hi hk1 hk2 hv2 had
 unfold SlR.val at HF ⊢
 go_enter Try.func32, Try.ntmps32
 go_wp2_with fail
 refine HIK.out.mono ?_
 rintro e w1 ⟨rfl, hw1⟩
 obtain rfl : w = w1 := hw1.symm
 clear hw1
 go_wp2_with fail
 refine HIV.out.mono ?_
 rintro e w1 ⟨rfl, hw1⟩
 obtain rfl : w = w1 := hw1.symm
 clear hw1
 go_wp2_with fail
 refine HF.out.mono ?_
 rintro e w1 ⟨rfl, hB1⟩
 have d0 : w1.cell? ⟨sb, 0, none⟩ = some (.slice en.a en.n en.cap) := by rw [hB1.cell (p := ⟨sb, 0, none⟩) hsb]; exact h0
 cases t
 ·have hfl : ¬ (60 : Int) ≤ (en.n : Int) := by have := HFU.out rfl; omega
  have hiI : (i : Int) ≤ en.n := by have := HI.out; omega
  have hic : (i : Int) ≤ en.cap := by have := HI.out; have := HNC.out; omega
  go_wp2_with (refine wp_sliceLo (by rfl) 83 103 (.tmp 43) (.tmp 44) (by rfl) en.a en.n en.cap i 10 (by rfl) (by rfl) Try.underlying83 Try.sizeEntry HI.out HNC.out ?_)
  refine (clone_any sk key w1 (hK.below hB1) (by rw [← hK.n]; omega)).mono ?_
  rintro e w2 ⟨k', rfl, hk2, hkf, hB2⟩
  unfold SlR.val
  go_wp2_with fail
  refine (clone_any sv value w2 ((hV.below hB1).below hB2) (by rw [← hV.n]; omega)).mono ?_
  rintro e w3 ⟨v', rfl, hv3, hvf, hB3⟩
  unfold SlR.val
  have HB3 : Below w.heap.size w w3 := (hB1.trans (hB2.mono hB1.size)).trans (hB3.mono (hB1.trans (hB2.mono hB1.size)).size)
  have hW0 : (w3.alloc (.cells #[.slice k'.a k'.n k'.cap, .slice v'.a v'.n v'.cap, .int .u8 0, .int .u8 0, .int .u8 0, .int .u8 0, .int .u8 0, .int .u8 0, .int .u8 0, .int .u8 0] 103)).cell? ⟨sb, 0, none⟩ = some (.slice en.a en.n en.cap) := by
   rw [(HB3.alloc HB3.size _).cell (p := ⟨sb, 0, none⟩) hsb]; exact h0
  have hWE : RowV (w3.alloc (.cells #[.slice k'.a k'.n k'.cap, .slice v'.a v'.n v'.cap, .int .u8 0, .int .u8 0, .int .u8 0, .int .u8 0, .int .u8 0, .int .u8 0, .int .u8 0, .int .u8 0] 103)) w3.heap.size 103 [.slice k'.a k'.n k'.cap, .slice v'.a v'.n v'.cap, .int .u8 0, .int .u8 0, .int .u8 0, .int .u8 0, .int .u8 0, .int .u8 0, .int .u8 0, .int .u8 0] := RowV.new w3 _ _
  have hBW : Below w3.heap.size w3 (w3.alloc (.cells #[.slice k'.a k'.n k'.cap, .slice v'.a v'.n v'.cap, .int .u8 0, .int .u8 0, .int .u8 0, .int .u8 0, .int .u8 0, .int .u8 0, .int .u8 0, .int .u8 0] 103)) := (Below.refl _ _).alloc (Nat.le_refl _) _
  go_wp2
  generalize w3.alloc (.cells #[.slice k'.a k'.n k'.cap, .slice v'.a v'.n v'.cap, .int .u8 0, .int .u8 0, .int .u8 0, .int .u8 0, .int .u8 0, .int .u8 0, .int .u8 0, .int .u8 0] 103) = W at *
  have q0 := hWE.cell 0 (by simp)
  have q1 := hWE.cell 1 (by simp)
  have q2 := hWE.cell 2 (by simp)
  have q3 := hWE.cell 3 (by simp)
  have q4 := hWE.cell 4 (by simp)
  have q5 := hWE.cell 5 (by simp)
  have q6 := hWE.cell 6 (by simp)
  have q7 := hWE.cell 7 (by simp)
  have q8 := hWE.cell 8 (by simp)
  have q9 := hWE.cell 9 (by simp)
  simp only [List.getElem_cons_zero, List.getElem_cons_succ] at q0 q1 q2 q3 q4 q5 q6 q7 q8 q9
  have HW1 : Below w.heap.size w W := HB3.trans (hBW.mono HB3.size)
  have HCC : Hid (Calls _ _ _ _ _) := concat_put W en ⟨cutS en.a en.cap i 10, en.n - i, en.cap - i⟩ k' v' xs i i (by have := HI.out; have := HEN.out; omega) (by have := HI.out; have := HEN.out; omega) h60 hE.d8 (hsl.below_all HW1) HNIL.out
   (by
    have h1 := SlV.cut (n := en.n) (cap := en.cap) (i := i) (size := 10) (hsl.below_all HW1) (by rw [ensC_length _ hE.d8, HEN.out]) HI.out HNC.out
    rw [ensC_drop _ hE.d8 _ (by have := HI.out; have := HEN.out; omega)]; exact h1) (by show en.n - i = _; rw [HEN.out]) (fun h => by have := HNIL2.out (cutS_none h); simp only; omega)
  have hW1 : (W.alloc (.cells #[.slice k'.a k'.n k'.cap, .slice v'.a v'.n v'.cap, .int .u8 0, .int .u8 0, .int .u8 0, .int .u8 0, .int .u8 0, .int .u8 0, .int .u8 0, .int .u8 0] 103)).cell? ⟨sb, 0, none⟩ = some (.slice en.a en.n en.cap) := by
   rw [((Below.refl W.heap.size W).alloc (Nat.le_refl _) _).cell (p := ⟨sb, 0, none⟩) (Nat.lt_of_lt_of_le hsb HW1.size)]; exact hW0
  have HWs : Hid (W.frozen? ⟨sb, 0, none⟩ = false) := (hR.below hsb HW1).frozen 0
  have hiX : i ≤ xs.length := by have := HI.out; have := HEN.out; omega
  have HIX : Hid (i ≤ xs.length) := hiX
  clear h60 hiX
  go_region_with (go_at_call 54; refine HCC.out.mono ?_; rintro e w4 ⟨s4, rfl, ho4, hb4⟩; have r0 : w4.cell? ⟨sb, 0, none⟩ = some (.slice en.a en.n en.cap) := (by rw [hb4.cell (p := ⟨sb, 0, none⟩) (Nat.lt_of_lt_of_le hsb HW1.size)]; exact hW0); have r1 : w4.frozen? ⟨sb, 0, none⟩ = false := (by rw [hb4.frozen (p := ⟨sb, 0, none⟩) (Nat.lt_of_lt_of_le hsb HW1.size)]; exact HWs.out))
  all_goals
   go_wp2
   go_ret
   have hz1 := hB1.size
   have hz2 := hB2.size
   have hz3 := hB3.size
   have hfin := put_fin hR hd hE HW1 ((hk2.below hB3).below hBW) (hv3.below hBW) (fun x hx => Nat.le_trans hz1 (hkf x hx)) (fun x hx => Nat.le_trans (Nat.le_trans hz1 hz2) (hvf x hx)) HIX.out ho4 hb4
   refine ⟨rfl, s4, _, hfin.1, ?_, hfin.2.2.1, hfin.2.2.2⟩
   rw [HPUT.out]; exact hfin.2.1
 ·have H1 : Hid (1 ≤ en.n - i) := by have := HTI.out (by trivial); unfold Hid; omega
  have H2 : Hid (en.n - i ≤ en.cap - i) := by have := HNC.out; unfold Hid; omega
  have hiI : (i : Int) ≤ en.n := by have := HI.out; omega
  have hic : (i : Int) ≤ en.cap := by have := HI.out; have := HNC.out; omega
  go_wp2_with (first
   | (refine wp_sliceLo (by rfl) 83 103 (.tmp 43) (.tmp 44) (by rfl) en.a en.n en.cap i 10 (by rfl) (by rfl) Try.underlying83 Try.sizeEntry HI.out HNC.out ?_)
   | (refine wp_sliceLo (by rfl) 83 103 (.tmp 47) (.const (.int .i64 1)) (by rfl) (cutS en.a en.cap i 10) (en.n - i) (en.cap - i) 1 10 (by rfl) (by rfl) Try.underlying83 Try.sizeEntry H1.out H2.out ?_))
  refine (clone_any sk key w1 (hK.below hB1) (by rw [← hK.n]; omega)).mono ?_
  rintro e w2 ⟨k', rfl, hk2, hkf, hB2⟩
  unfold SlR.val
  go_wp2_with fail
  refine (clone_any sv value w2 ((hV.below hB1).below hB2) (by rw [← hV.n]; omega)).mono ?_
  rintro e w3 ⟨v', rfl, hv3, hvf, hB3⟩
  unfold SlR.val
  have HB3 : Below w.heap.size w w3 := (hB1.trans (hB2.mono hB1.size)).trans (hB3.mono (hB1.trans (hB2.mono hB1.size)).size)
  have hW0 : (w3.alloc (.cells #[.slice k'.a k'.n k'.cap, .slice v'.a v'.n v'.cap, .int .u8 0, .int .u8 0, .int .u8 0, .int .u8 0, .int .u8 0, .int .u8 0, .int .u8 0, .int .u8 0] 103)).cell? ⟨sb, 0, none⟩ = some (.slice en.a en.n en.cap) := by
   rw [(HB3.alloc HB3.size _).cell (p := ⟨sb, 0, none⟩) hsb]; exact h0
  have hWE : RowV (w3.alloc (.cells #[.slice k'.a k'.n k'.cap, .slice v'.a v'.n v'.cap, .int .u8 0, .int .u8 0, .int .u8 0, .int .u8 0, .int .u8 0, .int .u8 0, .int .u8 0, .int .u8 0] 103)) w3.heap.size 103 [.slice k'.a k'.n k'.cap, .slice v'.a v'.n v'.cap, .int .u8 0, .int .u8 0, .int .u8 0, .int .u8 0, .int .u8 0, .int .u8 0, .int .u8 0, .int .u8 0] := RowV.new w3 _ _
  have hBW : Below w3.heap.size w3 (w3.alloc (.cells #[.slice k'.a k'.n k'.cap, .slice v'.a v'.n v'.cap, .int .u8 0, .int .u8 0, .int .u8 0, .int .u8 0, .int .u8 0, .int .u8 0, .int .u8 0, .int .u8 0] 103)) := (Below.refl _ _).alloc (Nat.le_refl _) _
  go_wp2
  generalize w3.alloc (.cells #[.slice k'.a k'.n k'.cap, .slice v'.a v'.n v'.cap, .int .u8 0, .int .u8 0, .int .u8 0, .int .u8 0, .int .u8 0, .int .u8 0, .int .u8 0, .int .u8 0] 103) = W at *
  have q0 := hWE.cell 0 (by simp)
  have q1 := hWE.cell 1 (by simp)
  have q2 := hWE.cell 2 (by simp)
  have q3 := hWE.cell 3 (by simp)
  have q4 := hWE.cell 4 (by simp)
  have q5 := hWE.cell 5 (by simp)
  have q6 := hWE.cell 6 (by simp)
  have q7 := hWE.cell 7 (by simp)
  have q8 := hWE.cell 8 (by simp)
  have q9 := hWE.cell 9 (by simp)
  simp only [List.getElem_cons_zero, List.getElem_cons_succ] at q0 q1 q2 q3 q4 q5 q6 q7 q8 q9
  have HW1 : Below w.heap.size w W := HB3.trans (hBW.mono HB3.size)
  have HCC : Hid (Calls _ _ _ _ _) := concat_put W en ⟨cutS (cutS en.a en.cap i 10) (en.cap - i) 1 10, en.n - i - 1, en.cap - i - 1⟩ k' v' xs i (i + 1) (by have := HI.out; have := HEN.out; omega) (by have := HTI.out (by trivial); have := HEN.out; omega) h60 hE.d8 (hsl.below_all HW1) HNIL.out
   (by
    have h1 := SlV.cut (n := en.n) (cap := en.cap) (i := i) (size := 10) (hsl.below_all HW1) (by rw [ensC_length _ hE.d8, HEN.out]) HI.out HNC.out
    have h2 := SlV.cut (n := en.n - i) (cap := en.cap - i) (i := 1) (size := 10) h1 (by rw [List.length_drop, ensC_length _ hE.d8, HEN.out, Nat.sub_mul]) H1.out H2.out
    rw [List.drop_drop] at h2
    rw [ensC_drop _ hE.d8 _ (by have := HTI.out (by trivial); have := HEN.out; omega), show (i + 1) * 10 = i * 10 + 1 * 10 by omega]; exact h2) (by show en.n - i - 1 = _; rw [HEN.out]; omega) (fun h => by have := HNIL2.out (cutS_none (cutS_none h)); simp only; omega)
  have hW1 : (W.alloc (.cells #[.slice k'.a k'.n k'.cap, .slice v'.a v'.n v'.cap, .int .u8 0, .int .u8 0, .int .u8 0, .int .u8 0, .int .u8 0, .int .u8 0, .int .u8 0, .int .u8 0] 103)).cell? ⟨sb, 0, none⟩ = some (.slice en.a en.n en.cap) := by
   rw [((Below.refl W.heap.size W).alloc (Nat.le_refl _) _).cell (p := ⟨sb, 0, none⟩) (Nat.lt_of_lt_of_le hsb HW1.size)]; exact hW0
  have HWs : Hid (W.frozen? ⟨sb, 0, none⟩ = false) := (hR.below hsb HW1).frozen 0
  have hiX : i ≤ xs.length := by have := HI.out; have := HEN.out; omega
  have HIX : Hid (i ≤ xs.length) := hiX
  clear h60 hiX
  go_region_with (go_at_call 54; refine HCC.out.mono ?_; rintro e w4 ⟨s4, rfl, ho4, hb4⟩; have r0 : w4.cell? ⟨sb, 0, none⟩ = some (.slice en.a en.n en.cap) := (by rw [hb4.cell (p := ⟨sb, 0, none⟩) (Nat.lt_of_lt_of_le hsb HW1.size)]; exact hW0); have r1 : w4.frozen? ⟨sb, 0, none⟩ = false := (by rw [hb4.frozen (p := ⟨sb, 0, none⟩) (Nat.lt_of_lt_of_le hsb HW1.size)]; exact HWs.out))
  all_goals
   go_wp2
   go_ret
   have hz1 := hB1.size
   have hz2 := hB2.size
   have hz3 := hB3.size
   have hfin := put_fin hR hd hE HW1 ((hk2.below hB3).below hBW) (hv3.below hBW) (fun x hx => Nat.le_trans hz1 (hkf x hx)) (fun x hx => Nat.le_trans (Nat.le_trans hz1 hz2) (hvf x hx)) HIX.out ho4 hb4
   refine ⟨rfl, s4, _, hfin.1, ?_, hfin.2.2.1, hfin.2.2.2⟩
   rw [HPUT.out]; exact hfin.2.1
end Go.Proofs.Ytekegfbjbainhaa


namespace Go.Proofs.Ytekegfbjbainhaa
open Go.RowKit
theorem KnownAt.frame {w W : World} {sb m N : Nat} {es : List MEn} (K : KnownAt w sb (some m) es N) (hf : Frame (fun k => k = m) w W) (hm : MapAt W (some m) es) : KnownAt W sb (some m) es N :=
 ⟨hm, K.d8, fun e he => owns_frame (K.own e he) hf (fun k hk e' => (K.msb e he k hk).2 (by rw [e'])), fun e he x hx => (K.nodes e he x hx).frame hf (fun k hk e' => K.foot e he x hx k hk (Or.inr (Or.inl (by rw [e'])))), K.apart, K.foot, K.msb, K.cnt, K.kd⟩
theorem KMut_snoc {sb k : Nat} {mp : Option Nat} {es : List MEn} {d : List UInt8} : KMut sb mp (es ++ [⟨d, ⟨none, 0, 0⟩, []⟩]) k ↔ KMut sb mp es k := by
 constructor
 ·rintro (h | h | ⟨e, he, h⟩)
  ·exact Or.inl h
  ·exact Or.inr (Or.inl h)
  ·rcases List.mem_append.1 he with he | he
   ·exact Or.inr (Or.inr ⟨e, he, h⟩)
   ·simp only [List.mem_singleton] at he
    subst he
    simp [SlR.val, Value.ownBlock] at h
 ·rintro (h | h | ⟨e, he, h⟩)
  ·exact Or.inl h
  ·exact Or.inr (Or.inl h)
  ·exact Or.inr (Or.inr ⟨e, List.mem_append_left _ he, h⟩)
theorem KnownAt.snoc {w W : World} {sb N m : Nat} {es : List MEn} {d : List UInt8} (K0 : KnownAt w sb (some m) es N) (hfm : Frame (fun k => k = m) w W) (hd : d.length = 8) (hn : d ∉ es.map (·.d)) (hm : MapAt W (some m) (es ++ [⟨d, ⟨none, 0, 0⟩, []⟩])) : KnownAt W sb (some m) (es ++ [⟨d, ⟨none, 0, 0⟩, []⟩]) N := by
 have kown : ∀ e ∈ es, W.ownsRow 0 96 1 e.s.val e.ns.length (e.ns.map (fun x => ptrV x.b)) := fun e he => owns_frame (K0.own e he) hfm (fun k hk e' => (K0.msb e he k hk).2 (by rw [e']))
 have knod : ∀ e ∈ es, ∀ x ∈ e.ns, NdOk W x := fun e he x hx => (K0.nodes e he x hx).frame hfm (fun k hk e' => K0.foot e he x hx k hk (Or.inr (Or.inl (by rw [e']))))
 have hb : (⟨none, 0, 0⟩ : SlR).val.ownBlock = none := rfl
 refine ⟨hm, ?_, ?_, ?_, ?_, ?_, ?_, ?_, ?_⟩
 ·intro e he
  rcases List.mem_append.1 he with he | he
  ·exact K0.d8 e he
  ·simp only [List.mem_singleton] at he; subst he; exact hd
 ·intro e he
  rcases List.mem_append.1 he with he | he
  ·exact kown e he
  ·simp only [List.mem_singleton] at he; subst he; exact World.ownsRow_nil _ _ _ _
 ·intro e he x hx
  rcases List.mem_append.1 he with he | he
  ·exact knod e he x hx
  ·simp only [List.mem_singleton] at he; subst he; cases hx
 ·intro i j e f hij hi hj k hk hf
  have hlast : ∀ (i : Nat) (e : MEn), (es ++ [⟨d, ⟨none, 0, 0⟩, []⟩])[i]? = some e → ∀ k, e.s.val.ownBlock = some k → es[i]? = some e := fun i e hi k hk => by
   by_cases hlt : i < es.length
   ·rw [List.getElem?_append_left hlt] at hi; exact hi
   ·rw [List.getElem?_append_right (by omega)] at hi
    obtain ⟨h1, h2⟩ := List.getElem?_eq_some_iff.1 hi
    simp at h1
    have : i - es.length = 0 := by omega
    simp only [this, List.getElem_cons_zero] at h2
    subst h2
    rw [hb] at hk; cases hk
  exact K0.apart i j e f hij (hlast i e hi k hk) (hlast j f hj k hf) k hk hf
 ·intro e he x hx k hk hmut
  rcases List.mem_append.1 he with he | he
  ·exact K0.foot e he x hx k hk (KMut_snoc.1 hmut)
  ·simp only [List.mem_singleton] at he; subst he; cases hx
 ·intro e he k hk
  rcases List.mem_append.1 he with he | he
  ·exact K0.msb e he k hk
  ·simp only [List.mem_singleton] at he; subst he; rw [hb] at hk; cases hk
 ·intro e he
  rcases List.mem_append.1 he with he | he
  ·exact K0.cnt e he
  ·simp only [List.mem_singleton] at he; subst he; exact Nat.zero_le _
 ·rw [List.map_append, List.nodup_append]
  refine ⟨K0.kd, by simp, ?_⟩
  intro x hx y hy e
  simp only [List.map_cons, List.map_nil, List.mem_singleton] at hy
  subst hy; subst e; exact hn hx
theorem KnownAt.push {Wp w3 W4 : World} {sb m N j : Nat} {es : List MEn} {f : MEn} {nd : Nd} {s' : SlR} (K : KnownAt Wp sb (some m) es N) (hf : es[j]? = some f) (hsb : sb < Wp.heap.size) (hm : m < Wp.heap.size) (hnd : NdOk Wp nd) (hnf : ∀ k, ndF nd k → ¬ KMut sb (some m) es k)
  (ho : w3.ownsRow 0 96 1 s'.val (f.ns.length + 1) (f.ns.map (fun x => ptrV x.b) ++ [ptrV nd.b])) (hf3 : Frame (fun k => f.s.val.ownBlock = some k) Wp w3) (hat : s'.val.ownBlock = f.s.val.ownBlock ∨ s'.val.ownBlock = some Wp.heap.size)
  (hf4 : Frame (fun k => k = m) w3 W4) (hM : MapAt W4 (some m) (es.set j ⟨f.d, s', f.ns ++ [nd]⟩)) :
  KnownAt W4 sb (some m) (es.set j ⟨f.d, s', f.ns ++ [nd]⟩) (N + 1) ∧ NdOk W4 nd ∧ (∀ k, ndF nd k → ¬ KMut sb (some m) (es.set j ⟨f.d, s', f.ns ++ [nd]⟩) k) ∧ (∀ k, KMut sb (some m) (es.set j ⟨f.d, s', f.ns ++ [nd]⟩) k → k < Wp.heap.size → KMut sb (some m) es k) ∧ Frame (KMut sb (some m) es) Wp W4 := by
 have hfm : f ∈ es := List.mem_of_getElem? hf
 have hjl := (List.getElem?_eq_some_iff.1 hf).1
 have hmem : ∀ e ∈ es.set j ⟨f.d, s', f.ns ++ [nd]⟩, (∃ i, i ≠ j ∧ es[i]? = some e) ∨ e = ⟨f.d, s', f.ns ++ [nd]⟩ := fun e he => by
  obtain ⟨i, hi⟩ := List.getElem?_of_mem he
  by_cases hij : j = i
  ·subst hij
   rw [List.getElem?_set_self hjl] at hi
   exact Or.inr (Option.some.inj hi).symm
  ·rw [List.getElem?_set_ne hij] at hi
   exact Or.inl ⟨i, fun e => hij e.symm, hi⟩
 have hfr : Frame (KMut sb (some m) es) Wp W4 := (hf3.mono (fun k _ hk => Or.inr (Or.inr ⟨f, hfm, hk⟩))).trans (hf4.mono (fun k _ hk => Or.inr (Or.inl (by rw [hk]))))
 have hnew : ∀ k, s'.val.ownBlock = some k → f.s.val.ownBlock = some k ∨ k = Wp.heap.size := fun k hk => by
  rcases hat with h | h
  ·exact Or.inl (h ▸ hk)
  ·rw [h] at hk; exact Or.inr (Option.some.inj hk).symm
 have hmut : ∀ k, KMut sb (some m) (es.set j ⟨f.d, s', f.ns ++ [nd]⟩) k → KMut sb (some m) es k ∨ k = Wp.heap.size := fun k hk => by
  rcases hk with h | h | ⟨e, he, h⟩
  ·exact Or.inl (Or.inl h)
  ·exact Or.inl (Or.inr (Or.inl h))
  ·rcases hmem e he with ⟨i, _, hi⟩ | rfl
   ·exact Or.inl (Or.inr (Or.inr ⟨e, List.mem_of_getElem? hi, h⟩))
   ·rcases hnew k h with h' | h'
    ·exact Or.inl (Or.inr (Or.inr ⟨f, hfm, h'⟩))
    ·exact Or.inr h'
 have hnd4 : NdOk W4 nd := hnd.frame hfr hnf
 refine ⟨⟨hM, ?_, ?_, ?_, ?_, ?_, ?_, ?_, ?_⟩, hnd4, ?_, ?_, hfr⟩
 ·intro e he
  rcases hmem e he with ⟨i, _, hi⟩ | rfl
  ·exact K.d8 e (List.mem_of_getElem? hi)
  ·exact K.d8 f hfm
 ·intro e he
  rcases hmem e he with ⟨i, hij, hi⟩ | rfl
  ·have h1 := owns_frame (K.own e (List.mem_of_getElem? hi)) hf3 (fun k hk hk2 => K.apart i j e f hij hi hf k hk hk2)
   exact owns_frame h1 hf4 (fun k hk e' => (K.msb e (List.mem_of_getElem? hi) k hk).2 (by rw [e']))
  ·have h1 := owns_frame ho hf4 (fun k hk e' => by
    rcases hnew k hk with h | h
    ·exact (K.msb f hfm k h).2 (by rw [e'])
    ·omega)
   simpa using h1
 ·intro e he x hx
  rcases hmem e he with ⟨i, hij, hi⟩ | rfl
  ·exact (K.nodes e (List.mem_of_getElem? hi) x hx).frame hfr (K.foot e (List.mem_of_getElem? hi) x hx)
  ·rcases List.mem_append.1 hx with hx | hx
   ·exact (K.nodes f hfm x hx).frame hfr (K.foot f hfm x hx)
   ·simp only [List.mem_singleton] at hx; subst hx; exact hnd4
 ·intro i i2 e e2 hne hi hi2 k hk hk2
  by_cases h1 : j = i
  ·subst h1
   rw [List.getElem?_set_self hjl] at hi
   rw [List.getElem?_set_ne hne] at hi2
   have := (Option.some.inj hi).symm
   subst this
   rcases hnew k hk with h | h
   ·exact K.apart j i2 f e2 hne hf hi2 k h hk2
   ·have := ((K.own e2 (List.mem_of_getElem? hi2)).lt k hk2).2
    omega
  ·rw [List.getElem?_set_ne h1] at hi
   by_cases h2 : j = i2
   ·subst h2
    rw [List.getElem?_set_self hjl] at hi2
    have := (Option.some.inj hi2).symm
    subst this
    rcases hnew k hk2 with h | h
    ·exact K.apart i j e f hne hi hf k hk h
    ·have := ((K.own e (List.mem_of_getElem? hi)).lt k hk).2
     omega
   ·rw [List.getElem?_set_ne h2] at hi2
    exact K.apart i i2 e e2 hne hi hi2 k hk hk2
 ·intro e he x hx k hk hm4
  rcases hmut k hm4 with h | h
  ·rcases hmem e he with ⟨i, hij, hi⟩ | rfl
   ·exact K.foot e (List.mem_of_getElem? hi) x hx k hk h
   ·rcases List.mem_append.1 hx with hx | hx
    ·exact K.foot f hfm x hx k hk h
    ·simp only [List.mem_singleton] at hx; subst hx; exact hnf k hk h
  ·have hlt : k < Wp.heap.size := by
    rcases hmem e he with ⟨i, hij, hi⟩ | rfl
    ·exact (K.nodes e (List.mem_of_getElem? hi) x hx).lt k hk
    ·rcases List.mem_append.1 hx with hx | hx
     ·exact (K.nodes f hfm x hx).lt k hk
     ·simp only [List.mem_singleton] at hx; subst hx; exact hnd.lt k hk
   omega
 ·intro e he k hk
  rcases hmem e he with ⟨i, hij, hi⟩ | rfl
  ·exact K.msb e (List.mem_of_getElem? hi) k hk
  ·rcases hnew k hk with h | h
   ·exact K.msb f hfm k h
   ·exact ⟨by omega, fun e' => by have := Option.some.inj e'; omega⟩
 ·intro e he
  rcases hmem e he with ⟨i, hij, hi⟩ | rfl
  ·have := K.cnt e (List.mem_of_getElem? hi); omega
  ·have := K.cnt f hfm; simp; omega
 ·have : (es.set j ⟨f.d, s', f.ns ++ [nd]⟩).map (·.d) = es.map (·.d) := by
   apply List.ext_getElem?
   intro i
   rw [List.getElem?_map, List.getElem?_map]
   by_cases hij : j = i
   ·subst hij; rw [List.getElem?_set_self hjl, hf]; rfl
   ·rw [List.getElem?_set_ne hij]
  rw [this]; exact K.kd
 ·intro k hk hm4
  rcases hmut k hm4 with h | h
  ·exact hnf k hk h
  ·have := hnd.lt k hk; omega
 ·intro k hm4 hlt
  rcases hmut k hm4 with h | h
  ·exact h
  ·omega
end Go.Proofs.Ytekegfbjbainhaa
