import Derived.Test.YtekegfbjbainhaaKJoin7
import Derived.Test.YtekegfbjbainhaaKPr28
set_option linter.unusedVariables false
set_option linter.unusedSimpArgs false

namespace Go.Proofs.Ytekegfbjbainhaa
open Go.RowKit
set_option maxRecDepth 100000 in
set_option maxHeartbeats 1000000 in
theorem put_arg (sv : Value) (ak av : Option Addr) (nk ck nv cv : Nat) (w : World) (hnk : nk ≤ maxLen) (hnv : nv ≤ maxLen) (hbad : ((decide (1 ≤ nk) && decide (nk ≤ 12)) && decide (nv ≤ 12)) = false) :
  Calls Try.prog 32 #[sv, .slice ak nk ck, .slice av nv cv] w fun e w' => e = .returned (.int .i64 1) ∧ w' = w := by
 have HIK : Hid (Calls _ _ _ _ _) := isKey_any ak nk ck w hnk
 have HIV : Hid (Calls _ _ _ _ _) := isValue_any av nv cv w hnv
 clear hnk hnv
 generalize (decide (1 ≤ nk) && decide (nk ≤ 12)) = bk at *
 generalize decide (nv ≤ 12) = bv at *
 cases bk
 ·go_enter Try.func32, Try.ntmps32
  go_wp2_with (go_at_call 36; refine HIK.out.mono ?_; rintro e w1 ⟨rfl, rfl⟩)
  go_ret
  exact ⟨rfl, rfl⟩
 ·obtain rfl : bv = false := by simpa using hbad
  go_enter Try.func32, Try.ntmps32
  go_wp2_with (first | (go_at_call 36; refine HIK.out.mono ?_; rintro e w1 ⟨rfl, hw1⟩; obtain rfl : w = w1 := hw1.symm) | (go_at_call 53; refine HIV.out.mono ?_; rintro e w2 ⟨rfl, hw2⟩; obtain rfl : w = w2 := hw2.symm))
  go_ret
  exact ⟨rfl, rfl⟩
set_option maxRecDepth 100000 in
set_option maxHeartbeats 1000000 in
theorem put_full (sb : Nat) (en tr : SlR) (mp : Option Nat) (xs : List EnP) (its : List ItR) (sk sv : SlR) (key : List UInt8) (w : World) (hR : StoRow w sb en mp tr) (hE : EntAt w en xs its) (hr : Rising its) (h60 : xs.length = 60) (hK : BS w sk key)
  (hk1 : 1 ≤ key.length) (hk2 : key.length ≤ 12) (hv2 : sv.n ≤ 12) (hfull : thereB its key = false) :
  Calls Try.prog 32 #[.pointer (some ⟨sb, 0, none⟩), sk.val, sv.val] w fun e w' => e = .returned (.int .i64 2) ∧ Below w.heap.size w w' := by
 have hsb := hR.lt
 have h0 : w.cell? ⟨sb, 0, none⟩ = some (.slice en.a en.n en.cap) := hR.cell 0 (by simp)
 obtain ⟨hen, hnc, hcm, had⟩ := owns_cap (a := en.a) (n' := en.n) (cap := en.cap) hE.own
 have hsl := (SlV.ofOwn (s := en) hE.own).1
 have HIK : Hid (Calls _ _ _ _ _) := isKey_any sk.a sk.n sk.cap w (by rw [hK.n]; unfold maxLen; omega)
 have HIV : Hid (Calls _ _ _ _ _) := isValue_any sv.a sv.n sv.cap w (by unfold maxLen; omega)
 have hkb : (decide (1 ≤ sk.n) && decide (sk.n ≤ 12)) = true := by rw [hK.n]; simp [hk1, hk2]
 have hvb : decide (sv.n ≤ 12) = true := by simp [hv2]
 rw [hkb] at HIK
 rw [hvb] at HIV
 have HF : Hid (Calls _ _ _ _ _) := find_any en xs its sk key w hen hE.len (by omega) hsl hE.ok hr hK
 rw [hfull] at HF
 generalize placeN its key = i at *
 rw [h60] at hen
 unfold SlR.val at HF ⊢
 rw [hen] at h0 HF
 clear hkb hvb hfull hcm hk1 hk2 hv2 had hE hR hr hK hnc hsl h60 hen
 go_enter Try.func32, Try.ntmps32
 go_wp2_with fail
 refine HIK.out.mono ?_
 rintro e w1 ⟨rfl, hw1⟩
 obtain rfl : w = w1 := hw1.symm
 clear hw1
 go_wp2_with fail
 refine HIV.out.mono ?_
 rintro e w1 ⟨rfl, hw1⟩
 obtain rfl : w = w1 := hw1.symm
 clear hw1
 go_wp2_with fail
 refine HF.out.mono ?_
 rintro e w1 ⟨rfl, hB1⟩
 have d0 : w1.cell? ⟨sb, 0, none⟩ = some (.slice en.a 60 en.cap) := by rw [hB1.cell (p := ⟨sb, 0, none⟩) hsb]; exact h0
 go_wp2
 go_ret
 exact ⟨rfl, hB1⟩
set_option maxRecDepth 100000 in
theorem del_arg (sv : Value) (ak : Option Addr) (nk ck : Nat) (w : World) (hnk : nk ≤ maxLen) (hbad : (decide (1 ≤ nk) && decide (nk ≤ 12)) = false) :
  Calls Try.prog 33 #[sv, .slice ak nk ck] w fun e w' => e = .returned (.int .i64 1) ∧ w' = w := by
 have HIK : Hid (Calls _ _ _ _ _) := isKey_any ak nk ck w hnk
 rw [hbad] at HIK
 clear hnk hbad
 go_enter Try.func33, Try.ntmps33
 go_wp2_with (go_at_call 36; refine HIK.out.mono ?_; rintro e w1 ⟨rfl, rfl⟩)
 go_ret
 exact ⟨rfl, rfl⟩
set_option maxRecDepth 100000 in
set_option maxHeartbeats 1000000 in
theorem del_none (sb : Nat) (en tr : SlR) (mp : Option Nat) (xs : List EnP) (its : List ItR) (sk : SlR) (key : List UInt8) (w : World) (hR : StoRow w sb en mp tr) (hE : EntAt w en xs its) (hr : Rising its) (h60 : xs.length ≤ 60) (hK : BS w sk key)
  (hk1 : 1 ≤ key.length) (hk2 : key.length ≤ 12) (hno : thereB its key = false) :
  Calls Try.prog 33 #[.pointer (some ⟨sb, 0, none⟩), sk.val] w fun e w' => e = .returned (.int .i64 3) ∧ Below w.heap.size w w' := by
 have hsb := hR.lt
 have h0 : w.cell? ⟨sb, 0, none⟩ = some (.slice en.a en.n en.cap) := hR.cell 0 (by simp)
 obtain ⟨hen, hnc, hcm, had⟩ := owns_cap (a := en.a) (n' := en.n) (cap := en.cap) hE.own
 have hsl := (SlV.ofOwn (s := en) hE.own).1
 have HIK : Hid (Calls _ _ _ _ _) := isKey_any sk.a sk.n sk.cap w (by rw [hK.n]; unfold maxLen; omega)
 have hkb : (decide (1 ≤ sk.n) && decide (sk.n ≤ 12)) = true := by rw [hK.n]; simp [hk1, hk2]
 rw [hkb] at HIK
 have HF : Hid (Calls _ _ _ _ _) := find_any en xs its sk key w hen hE.len (by omega) hsl hE.ok hr hK
 rw [hno] at HF
 generalize placeN its key = i at *
 unfold SlR.val at HF ⊢
 clear hkb hno hcm hk1 hk2 had hE hR hr hK hnc hsl h60 hen
 go_enter Try.func33, Try.ntmps33
 go_wp2_with (first | (go_at_call 36; refine HIK.out.mono ?_; rintro e w1 ⟨rfl, hw1⟩; obtain rfl : w = w1 := hw1.symm; clear hw1) | (go_at_call 39; refine HF.out.mono ?_; rintro e w2 ⟨rfl, hB1⟩))
 go_ret
 exact ⟨rfl, hB1⟩
theorem concat_del (W : World) (en bs : SlR) (xs : List EnP) (i j : Nat) (hi : i ≤ xs.length) (hj : j ≤ xs.length) (h60 : xs.length ≤ 60) (h8 : ∀ x ∈ xs, x.d.length = 8) (hs : SlV W en.a (ensC xs)) (hn1 : en.a = none → i = 0 ∧ en.cap = 0)
  (hb : SlV W bs.a (ensC (xs.drop j))) (hbn : bs.n = xs.length - j) (hn2 : bs.a = none → bs.n = 0 ∧ bs.cap = 0) :
  Calls Try.prog 54 #[.slice (some ⟨W.heap.size, 0, none⟩) 2 2] ((W.alloc (.cells #[.slice en.a i en.cap, .slice bs.a bs.n bs.cap] 83)).drew)
   fun e w' => ∃ s : SlR, e = .returned (.slice s.a s.n s.cap) ∧ w'.ownsRow W.heap.size 103 10 s.val (putX xs i [] j).length (ensC (putX xs i [] j)) ∧ Below W.heap.size W w' := by
 have hB : Below W.heap.size W ((W.alloc (.cells #[.slice en.a i en.cap, .slice bs.a bs.n bs.cap] 83)).drew) := by
  have h1 := (Frame.refl (fun _ => False) W).alloc (.cells #[.slice en.a i en.cap, .slice bs.a bs.n bs.cap] 83)
  exact h1.drew.below (Nat.le_refl _) (fun k hk => by cases hk)
 have hp3 : RowV ((W.alloc (.cells #[.slice en.a i en.cap, .slice bs.a bs.n bs.cap] 83)).drew) W.heap.size 83 [.slice en.a i en.cap, .slice bs.a bs.n bs.cap] := RowV.new W 83 _
 have hs1 := hs.below_all hB
 have hb1 := hb.below_all hB
 generalize ((W.alloc (.cells #[.slice en.a i en.cap, .slice bs.a bs.n bs.cap] 83)).drew) = X at *
 have ht8 : ∀ x ∈ xs.take i, x.d.length = 8 := fun x hx => h8 x (List.mem_of_mem_take hx)
 have hd8 : ∀ x ∈ xs.drop j, x.d.length = 8 := fun x hx => h8 x (List.mem_of_mem_drop hx)
 have hpn : pN [(⟨en.a, i, en.cap⟩, ensC (xs.take i)), (bs, ensC (xs.drop j))] = (putX xs i [] j).length := by
  simp [pN, putX, hbn]; omega
 have hpc : pC [(⟨en.a, i, en.cap⟩, ensC (xs.take i)), (bs, ensC (xs.drop j))] = ensC (putX xs i [] j) := by
  simp [pC, putX, ensC]
 have hcall := concatE_any W.heap.size 2 [(⟨en.a, i, en.cap⟩, ensC (xs.take i)), (bs, ensC (xs.drop j))] X rfl (by simp) (by rw [hpn]; simp [putX]; omega) ?_ hp3.lt ?_
 ·refine hcall.mono ?_
  rintro e w' ⟨s, rfl, ho, hb2⟩
  refine ⟨s, rfl, ?_, hB.trans (hb2.mono hB.size)⟩
  rw [hpn, hpc] at ho
  exact owns_base ho (fun k hk => Nat.le_trans hB.size (ho.lt k hk).1)
 ·intro q hq
  match q, hq with
  | 0, _ => exact hp3.cell 0 (by simp)
  | 1, _ => exact hp3.cell 1 (by simp)
 ·intro p hp
  simp only [List.mem_cons, List.not_mem_nil, or_false] at hp
  rcases hp with rfl | rfl
  ·refine ⟨?_, ?_, hn1, ensC_one _⟩
   ·show SlV X en.a (ensC (xs.take i))
    rw [ensC_take xs h8 i hi]; exact hs1.take _
   ·show (ensC (xs.take i)).length = i * 10
    rw [ensC_length _ ht8, List.length_take, Nat.min_eq_left hi]
  ·refine ⟨hb1, ?_, hn2, ensC_one _⟩
   show (ensC (xs.drop j)).length = bs.n * 10
   rw [ensC_length _ hd8, List.length_drop, hbn]
theorem idx_del {α : Type} (l : List α) (i j : Nat) (hi : i ≤ l.length) (q : Nat) : (l.take i ++ l.drop j)[q]? = if q < i then l[q]? else l[j + (q - i)]? := by
 have hti : (l.take i).length = i := by rw [List.length_take]; omega
 by_cases hq : q < i
 ·rw [if_pos hq, List.getElem?_append_left (by omega), List.getElem?_take_of_lt hq]
 ·rw [if_neg hq, List.getElem?_append_right (by omega), hti, List.getElem?_drop]
theorem del_fin {w W w4 : World} {sb : Nat} {en tr s4 : SlR} {mp : Option Nat} {xs : List EnP} {its : List ItR} {i j : Nat} (hR : StoRow w sb en mp tr) (hd : ∀ k, entF en xs k → k ≠ sb) (hE : EntAt w en xs its) (hWB : Below w.heap.size w W) (hi : i ≤ xs.length)
  (ho : w4.ownsRow W.heap.size 103 10 s4.val (putX xs i [] j).length (ensC (putX xs i [] j))) (hb4 : Below W.heap.size W w4) :
  StoRow (w4.setCell ⟨sb, 0, none⟩ s4.val) sb s4 mp tr ∧ EntAt (w4.setCell ⟨sb, 0, none⟩ s4.val) s4 (putX xs i [] j) (its.take i ++ its.drop j) ∧ Frame (fun k => k = sb) w (w4.setCell ⟨sb, 0, none⟩ s4.val) ∧
   (∀ k, entF s4 (putX xs i [] j) k → k < w.heap.size → entF en xs k) := by
 have hB4 : Below w.heap.size w w4 := hWB.trans (hb4.mono hWB.size)
 have hfoot : ∀ k, entF s4 (putX xs i [] j) k → k < w.heap.size → entF en xs k := fun k h hlt => by
  rcases h with h | ⟨x, hx, h⟩
  ·have := (ho.lt k h).1; have := hWB.size; omega
  ·refine Or.inr ⟨x, ?_, h⟩
   unfold putX at hx
   simp only [List.append_nil, List.mem_append] at hx
   rcases hx with hx | hx
   ·exact List.mem_of_mem_take hx
   ·exact List.mem_of_mem_drop hx
 refine ⟨by simpa using (RowV.below hR (RowV.lt hR) hB4).set 0 s4.val, ?_, (Frame.of_below_all (S := fun k => k = sb) hB4).setCell (p := ⟨sb, 0, none⟩) rfl _, hfoot⟩
 have h4 : EntAt w4 s4 (putX xs i [] j) (its.take i ++ its.drop j) := by
  refine ⟨owns_base ho (fun k hk => Nat.zero_le _), ?_, ?_⟩
  ·have := hE.len
   simp [putX]; omega
  ·intro q h1 h2
   have hl := hE.len
   have g1 : (putX xs i [] j)[q]? = (if q < i then xs[q]? else xs[j + (q - i)]?) := by unfold putX; rw [List.append_nil]; exact idx_del xs i j hi q
   have g2 := idx_del its i j (by omega) q
   have e1 : (putX xs i [] j)[q]? = some (putX xs i [] j)[q] := List.getElem?_eq_getElem h1
   have e2 := List.getElem?_eq_getElem h2
   rw [g1] at e1
   rw [g2] at e2
   by_cases hq : q < i
   ·rw [if_pos hq] at e1 e2
    obtain ⟨p1, p2⟩ := List.getElem?_eq_some_iff.1 e1
    obtain ⟨p3, p4⟩ := List.getElem?_eq_some_iff.1 e2
    rw [← p4]
    have := (hE.ok q p1 p3).below hB4
    rw [p2] at this; exact this
   ·rw [if_neg hq] at e1 e2
    obtain ⟨p1, p2⟩ := List.getElem?_eq_some_iff.1 e1
    obtain ⟨p3, p4⟩ := List.getElem?_eq_some_iff.1 e2
    rw [← p4]
    have := (hE.ok _ p1 p3).below hB4
    rw [p2] at this; exact this
 refine h4.frame ((Frame.refl (fun k => k = sb) w4).setCell (p := ⟨sb, 0, none⟩) rfl _) (fun k hk e => ?_)
 exact hd k (hfoot k hk (by rw [e]; exact RowV.lt hR)) e
set_option maxRecDepth 100000 in
set_option maxHeartbeats 4000000 in
theorem del_some (sb g n cap : Nat) (tr : SlR) (mp : Option Nat) (xs : List EnP) (its : List ItR) (sk : SlR) (key : List UInt8) (w : World) (hR : StoRow w sb ⟨some ⟨g, 0, none⟩, n, cap⟩ mp tr) (hd : ∀ k, entF ⟨some ⟨g, 0, none⟩, n, cap⟩ xs k → k ≠ sb) (hE : EntAt w ⟨some ⟨g, 0, none⟩, n, cap⟩ xs its) (hr : Rising its) (h60 : xs.length ≤ 60) (hK : BS w sk key)
  (hk1 : 1 ≤ key.length) (hk2 : key.length ≤ 12) (ht : thereB its key = true) :
  Calls Try.prog 33 #[.pointer (some ⟨sb, 0, none⟩), sk.val] w fun e w' => e = .returned (.int .i64 0) ∧
   ∃ en' xs', StoRow w' sb en' mp tr ∧ EntAt w' en' xs' (delN its key) ∧ Frame (fun k => k = sb) w w' ∧ (∀ k, entF en' xs' k → k < w.heap.size → entF ⟨some ⟨g, 0, none⟩, n, cap⟩ xs k) := by
 have hsb := hR.lt
 have h0 : w.cell? ⟨sb, 0, none⟩ = some (.slice (some ⟨g, 0, none⟩) n cap) := hR.cell 0 (by simp)
 obtain ⟨hen, hnc, hcm, _⟩ := owns_cap (a := some ⟨g, 0, none⟩) (n' := n) (cap := cap) hE.own
 have hsl : SlV w (some ⟨g, 0, none⟩) (ensC xs) := (SlV.ofOwn (s := ⟨some ⟨g, 0, none⟩, n, cap⟩) hE.own).1
 have HIK : Hid (Calls _ _ _ _ _) := isKey_any sk.a sk.n sk.cap w (by rw [hK.n]; unfold maxLen; omega)
 have hkb : (decide (1 ≤ sk.n) && decide (sk.n ≤ 12)) = true := by rw [hK.n]; simp [hk1, hk2]
 rw [hkb] at HIK
 have HF : Hid (Calls _ _ _ _ _) := find_any ⟨some ⟨g, 0, none⟩, n, cap⟩ xs its sk key w hen hE.len (by omega) hsl hE.ok hr hK
 have hi := thereB_lt ht
 rw [hE.len, ← hen] at hi
 rw [ht] at HF
 have HDEL : Hid (delN its key = its.take (placeN its key) ++ its.drop (placeN its key + 1)) := rfl
 generalize placeN its key = i at *
 have HEN : Hid (n = xs.length) := hen
 have HCT : Hid (∀ (W : World), Below w.heap.size w W → SlV W (cutS (some ⟨g, 0, none⟩) cap (i + 1) 10) (ensC (xs.drop (i + 1)))) := fun W hW => by
  have h1 := SlV.cut (n := n) (cap := cap) (i := i + 1) (size := 10) (hsl.below_all hW) (by rw [ensC_length _ hE.d8, HEN.out]) (by omega) (by omega)
  rw [ensC_drop _ hE.d8 _ (by have := HEN.out; omega)]; exact h1
 have H8 : Hid (∀ x ∈ xs, x.d.length = 8) := hE.d8
 unfold maxLen at hcm
 have hiI : (i : Int) + 1 ≤ n := by omega
 have hic : (i : Int) ≤ cap := by omega
 have hnI : (n : Int) ≤ cap := by omega
 have hcI : (cap : Int) ≤ 9223372036854775807 := by omega
 have HNC : Hid (n ≤ cap) := by unfold Hid; omega
 have HII : Hid (i < n) := hi
 unfold SlR.val at HF ⊢
 clear hkb ht hcm hk1 hk2 hnc hen hi
 obtain ⟨m, hm⟩ : ∃ m : Nat, m = i + 1 := ⟨_, rfl⟩
 have hmI : (i : Int) + 1 = (m : Int) := by omega
 have HM : Hid (m = i + 1) := hm
 rw [← hm] at HCT HDEL
 have hmn : (m : Int) ≤ n := by omega
 have hmN : m ≤ n := by omega
 have hmx : (m : Int) ≤ 9223372036854775807 := by omega
 have hwr : IntKind.i64.wrap (m : Int) = (m : Int) := by simp only [IntKind.wrap_i64]; omega
 have hi9 : (i : Int) ≤ 1000 := by have := HEN.out; omega
 clear hm hiI
 by_cases hcj : cap = m
 ·have HCT2 : Hid (∀ (W : World), Below w.heap.size w W → SlV W (some ⟨g, 0, none⟩) (ensC (xs.drop m))) := fun W hW => by have := HCT.out W hW; unfold cutS at this; rw [if_pos hcj] at this; exact this
  obtain rfl : n = cap := by have := HNC.out; omega
  subst hcj
  clear hnI hmn hmN
  go_enter Try.func33, Try.ntmps33
  go_wp2_with (first | (go_at_call 36; refine HIK.out.mono ?_; rintro e w1 ⟨rfl, hw1⟩; obtain rfl : w = w1 := hw1.symm; clear hw1) | (go_at_call 39; refine HF.out.mono ?_; rintro e w2 ⟨rfl, hB1⟩; have d0 : w2.cell? ⟨sb, 0, none⟩ = some (.slice (some ⟨g, 0, none⟩) n n) := (by rw [hB1.cell (p := ⟨sb, 0, none⟩) hsb]; exact h0)))
  have HCC : Hid (Calls _ _ _ _ _) := concat_del w2 ⟨some ⟨g, 0, none⟩, n, n⟩ ⟨some ⟨g, 0, none⟩, 0, 0⟩ xs i n (by have := HEN.out; have := HII.out; omega) (by have := HEN.out; have := HII.out; have := HM.out; omega) h60 H8.out (hsl.below_all hB1) (fun h => by cases h) (HCT2.out w2 hB1) (by have := HEN.out; have := HM.out; simp only; omega) (fun h => by cases h)
  have HWs : Hid (w2.frozen? ⟨sb, 0, none⟩ = false) := (hR.below hsb hB1).frozen 0
  have HIX : Hid (i ≤ xs.length) := by have := HEN.out; have := HII.out; unfold Hid; omega
  clear h60
  go_region_with (go_at_call 54; refine HCC.out.mono ?_; rintro e w4 ⟨s4, rfl, ho4, hb4⟩; have r0 : w4.cell? ⟨sb, 0, none⟩ = some (.slice (some ⟨g, 0, none⟩) n n) := (by rw [hb4.cell (p := ⟨sb, 0, none⟩) (Nat.lt_of_lt_of_le hsb hB1.size)]; exact d0); have r1 : w4.frozen? ⟨sb, 0, none⟩ = false := (by rw [hb4.frozen (p := ⟨sb, 0, none⟩) (Nat.lt_of_lt_of_le hsb hB1.size)]; exact HWs.out))
  all_goals
   go_wp2
   go_ret
   have hfin := del_fin hR hd hE hB1 HIX.out ho4 hb4
   refine ⟨rfl, s4, _, hfin.1, ?_, hfin.2.2.1, hfin.2.2.2⟩
   rw [HDEL.out]; exact hfin.2.1
 ·have HCT2 : Hid (∀ (W : World), Below w.heap.size w W → SlV W (some ⟨g, m * 10, none⟩) (ensC (xs.drop m))) := fun W hW => by have := HCT.out W hW; unfold cutS at this; rw [if_neg hcj] at this; simpa [Addr.add_mid] using this
  have hnc : n ≤ cap := HNC.out
  go_enter Try.func33, Try.ntmps33
  go_wp2_with (first | (go_at_call 36; refine HIK.out.mono ?_; rintro e w1 ⟨rfl, hw1⟩; obtain rfl : w = w1 := hw1.symm; clear hw1) | (go_at_call 39; refine HF.out.mono ?_; rintro e w2 ⟨rfl, hB1⟩; have d0 : w2.cell? ⟨sb, 0, none⟩ = some (.slice (some ⟨g, 0, none⟩) n cap) := (by rw [hB1.cell (p := ⟨sb, 0, none⟩) hsb]; exact h0)))
  have HCC : Hid (Calls _ _ _ _ _) := concat_del w2 ⟨some ⟨g, 0, none⟩, n, cap⟩ ⟨some ⟨g, m * 10, none⟩, n - m, cap - m⟩ xs i m (by have := HEN.out; have := HII.out; omega) (by have := HEN.out; have := HII.out; have := HM.out; omega) h60 H8.out (hsl.below_all hB1) (fun h => by cases h) (HCT2.out w2 hB1) (by have := HEN.out; have := HM.out; simp only; omega) (fun h => by cases h)
  have HWs : Hid (w2.frozen? ⟨sb, 0, none⟩ = false) := (hR.below hsb hB1).frozen 0
  have HIX : Hid (i ≤ xs.length) := by have := HEN.out; have := HII.out; unfold Hid; omega
  clear h60
  go_region_with (go_at_call 54; refine HCC.out.mono ?_; rintro e w4 ⟨s4, rfl, ho4, hb4⟩; have r0 : w4.cell? ⟨sb, 0, none⟩ = some (.slice (some ⟨g, 0, none⟩) n cap) := (by rw [hb4.cell (p := ⟨sb, 0, none⟩) (Nat.lt_of_lt_of_le hsb hB1.size)]; exact d0); have r1 : w4.frozen? ⟨sb, 0, none⟩ = false := (by rw [hb4.frozen (p := ⟨sb, 0, none⟩) (Nat.lt_of_lt_of_le hsb hB1.size)]; exact HWs.out))
  all_goals
   go_wp2
   go_ret
   have hfin := del_fin hR hd hE hB1 HIX.out ho4 hb4
   refine ⟨rfl, s4, _, hfin.1, ?_, hfin.2.2.1, hfin.2.2.2⟩
   rw [HDEL.out]; exact hfin.2.1
end Go.Proofs.Ytekegfbjbainhaa


namespace Go.Proofs.Ytekegfbjbainhaa
open Go.RowKit
theorem rising_put {l : List ItR} (h : Rising l) (key value : List UInt8) : Rising (putN l key value) := by
 have hp := rising_place l key h
 have hle := placeN_le l key
 have hbef : ∀ x ∈ l.take (placeN l key), Op.bytesLess x.key key = true := fun x hx => by
  obtain ⟨i, hi, rfl⟩ := List.getElem_of_mem hx
  rw [List.length_take] at hi
  rw [List.getElem_take]
  have := hp i (by omega)
  unfold lessK at this
  rw [this]; simp; omega
 have hnl : ∀ j (hj : j < l.length), placeN l key ≤ j → Op.bytesLess l[j].key key = false := fun j hj hpj => by
  have := hp j hj
  unfold lessK at this
  rw [this]; simp; omega
 have haft : ∀ x ∈ l.drop (if thereB l key then placeN l key + 1 else placeN l key), Op.bytesLess key x.key = true := by
  cases ht : thereB l key with
  | false =>
   intro x hx
   simp only [Bool.false_eq_true, if_false] at hx
   obtain ⟨i, hi, rfl⟩ := List.getElem_of_mem hx
   rw [List.getElem_drop]
   rw [List.length_drop] at hi
   have hj : placeN l key + i < l.length := by omega
   refine less_total _ _ (hnl _ hj (by omega)) (fun e => ?_)
   by_cases h0 : i = 0
   ·subst h0
    have hne : thereB l key = true := by
     unfold thereB
     rw [List.getElem?_eq_getElem (by omega)]
     simpa using e
    rw [ht] at hne; cases hne
   ·have hlt := List.pairwise_iff_getElem.1 h (placeN l key) (placeN l key + i) (by omega) hj (by omega)
    rw [e] at hlt
    rw [hnl _ (by omega) (Nat.le_refl _)] at hlt; cases hlt
  | true =>
   intro x hx
   simp only [if_true] at hx
   obtain ⟨i, hi, rfl⟩ := List.getElem_of_mem hx
   rw [List.getElem_drop]
   rw [List.length_drop] at hi
   have hk : (l[placeN l key]'(thereB_lt ht)).key = key := by
    have hlt := thereB_lt ht
    unfold thereB at ht
    rw [List.getElem?_eq_getElem hlt] at ht
    simpa using ht
   have hlt := List.pairwise_iff_getElem.1 h (placeN l key) (placeN l key + 1 + i) (thereB_lt ht) (by omega) (by omega)
   rw [hk] at hlt; exact hlt
 unfold putN Rising
 rw [List.pairwise_append, List.pairwise_append]
 refine ⟨⟨h.sublist (List.take_sublist _ _), by simp, ?_⟩, h.sublist (List.drop_sublist _ _), ?_⟩
 ·intro a ha b hb
  simp only [List.mem_singleton] at hb; subst hb
  exact hbef a ha
 ·intro a ha b hb
  rcases List.mem_append.1 ha with ha | ha
  ·exact less_trans (hbef a ha) (haft b hb)
  ·simp only [List.mem_singleton] at ha; subst ha
   exact haft b hb
theorem rising_del {l : List ItR} (h : Rising l) (key : List UInt8) : Rising (delN l key) := by
 unfold delN Rising
 have hs : (l.take (placeN l key) ++ l.drop (placeN l key + 1)).Sublist l := by
  have h1 : (l.take (placeN l key) ++ l.drop (placeN l key + 1)).Sublist (l.take (placeN l key) ++ l.drop (placeN l key)) := List.Sublist.append (List.Sublist.refl _) (by rw [← List.drop_drop]; exact List.drop_sublist _ _)
  rwa [List.take_append_drop] at h1
 exact List.Pairwise.sublist hs h
theorem mem_put {l : List ItR} {key value : List UInt8} {x : ItR} (h : x ∈ putN l key value) : x ∈ l ∨ x = ⟨key, value, 0⟩ := by
 unfold putN at h
 simp only [List.mem_append, List.mem_singleton] at h
 rcases h with (h | h) | h
 ·exact Or.inl (List.mem_of_mem_take h)
 ·exact Or.inr h
 ·exact Or.inl (List.mem_of_mem_drop h)
theorem mem_del {l : List ItR} {key : List UInt8} {x : ItR} (h : x ∈ delN l key) : x ∈ l := by
 unfold delN at h
 rcases List.mem_append.1 h with h | h
 ·exact List.mem_of_mem_take h
 ·exact List.mem_of_mem_drop h
theorem len_put {l : List ItR} (key value : List UInt8) (h : l.length ≤ 60) (hf : thereB l key = false → l.length < 60) : (putN l key value).length ≤ 60 := by
 have hle := placeN_le l key
 unfold putN
 cases ht : thereB l key with
 | false => have := hf ht; simp [ht]; omega
 | true => have := thereB_lt ht; simp [ht]; omega
theorem len_del {l : List ItR} (key : List UInt8) (h : l.length ≤ 60) : (delN l key).length ≤ 60 := by
 unfold delN; simp; omega
def keyOk (key : List UInt8) : Bool := decide (1 ≤ key.length) && decide (key.length ≤ 12)
def putE (l : List ItR) (key value : List UInt8) : Nat := if (keyOk key && decide (value.length ≤ 12)) = false then 1 else if thereB l key = false ∧ l.length = 60 then 2 else 0
def putL (l : List ItR) (key value : List UInt8) : List ItR := if putE l key value = 0 then putN l key value else l
def delE (l : List ItR) (key : List UInt8) : Nat := if keyOk key = false then 1 else if thereB l key = false then 3 else 0
def delL (l : List ItR) (key : List UInt8) : List ItR := if delE l key = 0 then delN l key else l
theorem sto_put (sb N : Nat) (en tr : SlR) (mp : Option Nat) (es : List MEn) (xs : List EnP) (its : List ItR) (tds : List Nd) (sk sv : SlR) (key value : List UInt8) (w : World) (h : StoAt w sb N en tr mp es xs its tds) (hK : BS w sk key) (hV : BS w sv value) (hkm : key.length ≤ maxLen) (hvm : value.length ≤ maxLen) :
  Calls Try.prog 32 #[.pointer (some ⟨sb, 0, none⟩), sk.val, sv.val] w fun e w' => e = .returned (.int .i64 (putE its key value : Int)) ∧ ∃ en' xs', StoAt w' sb N en' tr mp es xs' (putL its key value) tds ∧ Frame (fun k => k = sb) w w' ∧ (∀ k, stoF sb en' tr mp es xs' tds k → k < w.heap.size → stoF sb en tr mp es xs tds k) := by
 have hxl := h.ent.len
 by_cases ha : (keyOk key && decide (value.length ≤ 12)) = false
 ·have he : putE its key value = 1 := by unfold putE; rw [if_pos ha]
  have hl : putL its key value = its := by unfold putL; rw [he]; rfl
  rw [he, hl]
  refine (put_arg (.pointer (some ⟨sb, 0, none⟩)) sk.a sv.a sk.n sk.cap sv.n sv.cap w (by rw [hK.n]; exact hkm) (by rw [hV.n]; exact hvm) (by rw [hK.n, hV.n]; exact ha)).mono ?_
  rintro e w' ⟨rfl, rfl⟩
  exact ⟨rfl, en, xs, h, Frame.refl _ _, fun k hk _ => hk⟩
 ·have ha' : keyOk key = true ∧ value.length ≤ 12 := by
   have := (Bool.not_eq_false _).mp ha
   simpa using this
  have hk : 1 ≤ key.length ∧ key.length ≤ 12 := by have := ha'.1; unfold keyOk at this; simpa using this
  by_cases hf : thereB its key = false ∧ its.length = 60
  ·have he : putE its key value = 2 := by unfold putE; rw [if_neg ha, if_pos hf]
   have hl : putL its key value = its := by unfold putL; rw [he]; rfl
   rw [he, hl]
   refine (put_full sb en tr mp xs its sk sv key w h.row h.ent h.rise (by omega) hK hk.1 hk.2 (by rw [hV.n]; exact ha'.2) hf.1).mono ?_
   rintro e w' ⟨rfl, hb⟩
   exact ⟨rfl, en, xs, h.below hb, Frame.of_below_all hb, fun k hk _ => hk⟩
  ·have he : putE its key value = 0 := by unfold putE; rw [if_neg ha, if_neg hf]
   have hl : putL its key value = putN its key value := by unfold putL; rw [he]; rfl
   rw [he, hl]
   have hfl : thereB its key = false → its.length < 60 := fun ht => by
    have := h.len
    by_cases h6 : its.length = 60
    ·exact absurd ⟨ht, h6⟩ hf
    ·omega
   refine (put_ok sb en tr mp xs its sk sv key value w h.row (fun k hk e => h.entf k hk (Or.inl e)) h.ent h.rise (by have := h.len; omega) hK hV hk.1 hk.2 ha'.2 (fun ht => by have := hfl ht; omega)).mono ?_
   rintro e w' ⟨rfl, en', xs', g1, g2, g3, g4⟩
   have hsb := RowV.lt h.row
   refine ⟨rfl, en', xs', ⟨g1, h.known.frameSb g3 (StoAt.mp_ne h.row h.known), g2, fun k hk hm => ?_, owns_frame h.own g3 (fun k hk e => h.trf k hk (Or.inl e)), h.trf, fun nd hn => ⟨(h.nds nd hn).1.frame g3 (fun k hk e => (h.nds nd hn).2 k hk (Or.inl e)), (h.nds nd hn).2⟩, rising_put h.rise key value, ?_, ?_, len_put key value h.len hfl⟩, g3, ?_⟩
   ·have hlt := KMut.lt h.known hsb k hm
    exact h.entf k (g4 k hk hlt) hm
   ·intro x hx
    rcases mem_put hx with hx | rfl
    ·exact h.ok x hx
    ·exact ⟨hk.2, ha'.2⟩
   ·intro x hx
    rcases mem_put hx with hx | rfl
    ·exact h.norm x hx
    ·rfl
   ·intro k hk hlt
    rcases hk with hk | hk | hk
    ·exact Or.inl hk
    ·exact Or.inr (Or.inl (g4 k hk hlt))
    ·exact Or.inr (Or.inr hk)
theorem sto_del (sb N : Nat) (en tr : SlR) (mp : Option Nat) (es : List MEn) (xs : List EnP) (its : List ItR) (tds : List Nd) (sk : SlR) (key : List UInt8) (w : World) (h : StoAt w sb N en tr mp es xs its tds) (hK : BS w sk key) (hkm : key.length ≤ maxLen) :
  Calls Try.prog 33 #[.pointer (some ⟨sb, 0, none⟩), sk.val] w fun e w' => e = .returned (.int .i64 (delE its key : Int)) ∧ ∃ en' xs', StoAt w' sb N en' tr mp es xs' (delL its key) tds ∧ Frame (fun k => k = sb) w w' ∧ (∀ k, stoF sb en' tr mp es xs' tds k → k < w.heap.size → stoF sb en tr mp es xs tds k) := by
 have hxl := h.ent.len
 by_cases ha : keyOk key = false
 ·have he : delE its key = 1 := by unfold delE; rw [if_pos ha]
  have hl : delL its key = its := by unfold delL; rw [he]; rfl
  rw [he, hl]
  refine (del_arg (.pointer (some ⟨sb, 0, none⟩)) sk.a sk.n sk.cap w (by rw [hK.n]; exact hkm) (by rw [hK.n]; exact ha)).mono ?_
  rintro e w' ⟨rfl, rfl⟩
  exact ⟨rfl, en, xs, h, Frame.refl _ _, fun k hk _ => hk⟩
 ·have ha' : keyOk key = true := (Bool.not_eq_false _).mp ha
  have hk : 1 ≤ key.length ∧ key.length ≤ 12 := by unfold keyOk at ha'; simpa using ha'
  by_cases hf : thereB its key = false
  ·have he : delE its key = 3 := by unfold delE; rw [if_neg ha, if_pos hf]
   have hl : delL its key = its := by unfold delL; rw [he]; rfl
   rw [he, hl]
   refine (del_none sb en tr mp xs its sk key w h.row h.ent h.rise (by have := h.len; omega) hK hk.1 hk.2 hf).mono ?_
   rintro e w' ⟨rfl, hb⟩
   exact ⟨rfl, en, xs, h.below hb, Frame.of_below_all hb, fun k hk _ => hk⟩
  ·have ht : thereB its key = true := (Bool.not_eq_false _).mp hf
   have he : delE its key = 0 := by unfold delE; rw [if_neg ha, if_neg hf]
   have hl : delL its key = delN its key := by unfold delL; rw [he]; rfl
   rw [he, hl]
   have hpos := thereB_lt ht
   obtain ⟨ea, n, cap⟩ := en
   obtain ⟨hen, _, _, had⟩ := owns_cap (a := ea) (n' := n) (cap := cap) h.ent.own
   obtain ⟨g, rfl, _⟩ : ∃ g, ea = some ⟨g, 0, none⟩ ∧ True := by
    rcases had with ⟨_, h1, _⟩ | ⟨g, h1, _⟩
    ·omega
    ·exact ⟨g, h1, trivial⟩
   refine (del_some sb g n cap tr mp xs its sk key w h.row (fun k hk e => h.entf k hk (Or.inl e)) h.ent h.rise (by have := h.len; omega) hK hk.1 hk.2 ht).mono ?_
   rintro e w' ⟨rfl, en', xs', g1, g2, g3, g4⟩
   have hsb := RowV.lt h.row
   refine ⟨rfl, en', xs', ⟨g1, h.known.frameSb g3 (StoAt.mp_ne h.row h.known), g2, fun k hk hm => ?_, owns_frame h.own g3 (fun k hk e => h.trf k hk (Or.inl e)), h.trf, fun nd hn => ⟨(h.nds nd hn).1.frame g3 (fun k hk e => (h.nds nd hn).2 k hk (Or.inl e)), (h.nds nd hn).2⟩, rising_del h.rise key, ?_, ?_, len_del key h.len⟩, g3, ?_⟩
   ·have hlt := KMut.lt h.known hsb k hm
    exact h.entf k (g4 k hk hlt) hm
   ·intro x hx; exact h.ok x (mem_del hx)
   ·intro x hx; exact h.norm x (mem_del hx)
   ·intro k hk hlt
    rcases hk with hk | hk | hk
    ·exact Or.inl hk
    ·exact Or.inr (Or.inl (g4 k hk hlt))
    ·exact Or.inr (Or.inr hk)
end Go.Proofs.Ytekegfbjbainhaa
