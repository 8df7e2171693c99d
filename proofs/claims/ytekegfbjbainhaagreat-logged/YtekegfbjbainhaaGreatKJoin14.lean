import Derived.Test.YtekegfbjbainhaaGreatKJoin13
import Derived.Test.YtekegfbjbainhaaGreatKRef4
import Derived.Test.YtekegfbjbainhaaGreatKJoin4
set_option linter.unusedVariables false
set_option linter.unusedSimpArgs false

namespace Go.Proofs.YtekegfbjbainhaaGreat
open Go.RowKit
theorem rising_put {l : List ItR} (h : Rising l) (key value : List UInt8) : Rising (putN l key value) := by
 have hp := rising_place l key h
 have hle := placeN_le l key
 have hbef : ∀ x ∈ l.take (placeN l key), Op.bytesLess x.key key = true := fun x hx => by
  obtain ⟨i, hi, rfl⟩ := List.getElem_of_mem hx
  rw [List.length_take] at hi
  rw [List.getElem_take]
  have := hp i (by omega)
  unfold lessK at this
  rw [this]; simp; omega
 have hnl : ∀ j (hj : j < l.length), placeN l key ≤ j → Op.bytesLess l[j].key key = false := fun j hj hpj => by
  have := hp j hj
  unfold lessK at this
  rw [this]; simp; omega
 have haft : ∀ x ∈ l.drop (if thereB l key then placeN l key + 1 else placeN l key), Op.bytesLess key x.key = true := by
  cases ht : thereB l key with
  | false =>
   intro x hx
   simp only [Bool.false_eq_true, if_false] at hx
   obtain ⟨i, hi, rfl⟩ := List.getElem_of_mem hx
   rw [List.getElem_drop]
   rw [List.length_drop] at hi
   have hj : placeN l key + i < l.length := by omega
   refine less_total _ _ (hnl _ hj (by omega)) (fun e => ?_)
   by_cases h0 : i = 0
   ·subst h0
    have hne : thereB l key = true := by
     unfold thereB
     rw [List.getElem?_eq_getElem (by omega)]
     simpa using e
    rw [ht] at hne; cases hne
   ·have hlt := List.pairwise_iff_getElem.1 h (placeN l key) (placeN l key + i) (by omega) hj (by omega)
    rw [e] at hlt
    rw [hnl _ (by omega) (Nat.le_refl _)] at hlt; cases hlt
  | true =>
   intro x hx
   simp only [if_true] at hx
   obtain ⟨i, hi, rfl⟩ := List.getElem_of_mem hx
   rw [List.getElem_drop]
   rw [List.length_drop] at hi
   have hk : (l[placeN l key]'(thereB_lt ht)).key = key := by
    have hlt := thereB_lt ht
    unfold thereB at ht
    rw [List.getElem?_eq_getElem hlt] at ht
    simpa using ht
   have hlt := List.pairwise_iff_getElem.1 h (placeN l key) (placeN l key + 1 + i) (thereB_lt ht) (by omega) (by omega)
   rw [hk] at hlt; exact hlt
 unfold putN Rising
 rw [List.pairwise_append, List.pairwise_append]
 refine ⟨⟨h.sublist (List.take_sublist _ _), by simp, ?_⟩, h.sublist (List.drop_sublist _ _), ?_⟩
 ·intro a ha b hb
  simp only [List.mem_singleton] at hb; subst hb
  exact hbef a ha
 ·intro a ha b hb
  rcases List.mem_append.1 ha with ha | ha
  ·exact less_trans (hbef a ha) (haft b hb)
  ·simp only [List.mem_singleton] at ha; subst ha
   exact haft b hb
theorem rising_del {l : List ItR} (h : Rising l) (key : List UInt8) : Rising (delN l key) := by
 unfold delN Rising
 have hs : (l.take (placeN l key) ++ l.drop (placeN l key + 1)).Sublist l := by
  have h1 : (l.take (placeN l key) ++ l.drop (placeN l key + 1)).Sublist (l.take (placeN l key) ++ l.drop (placeN l key)) := List.Sublist.append (List.Sublist.refl _) (by rw [← List.drop_drop]; exact List.drop_sublist _ _)
  rwa [List.take_append_drop] at h1
 exact List.Pairwise.sublist hs h
theorem mem_put {l : List ItR} {key value : List UInt8} {x : ItR} (h : x ∈ putN l key value) : x ∈ l ∨ x = ⟨key, value, 0⟩ := by
 unfold putN at h
 simp only [List.mem_append, List.mem_singleton] at h
 rcases h with (h | h) | h
 ·exact Or.inl (List.mem_of_mem_take h)
 ·exact Or.inr h
 ·exact Or.inl (List.mem_of_mem_drop h)
theorem mem_del {l : List ItR} {key : List UInt8} {x : ItR} (h : x ∈ delN l key) : x ∈ l := by
 unfold delN at h
 rcases List.mem_append.1 h with h | h
 ·exact List.mem_of_mem_take h
 ·exact List.mem_of_mem_drop h
theorem len_put {l : List ItR} (key value : List UInt8) (h : l.length ≤ 60) (hf : thereB l key = false → l.length < 60) : (putN l key value).length ≤ 60 := by
 have hle := placeN_le l key
 unfold putN
 cases ht : thereB l key with
 | false => have := hf ht; simp [ht]; omega
 | true => have := thereB_lt ht; simp [ht]; omega
theorem len_del {l : List ItR} (key : List UInt8) (h : l.length ≤ 60) : (delN l key).length ≤ 60 := by
 unfold delN; simp; omega
def keyOk (key : List UInt8) : Bool := decide (1 ≤ key.length) && decide (key.length ≤ 12)
def putE (l : List ItR) (key value : List UInt8) : Nat := if (keyOk key && decide (value.length ≤ 12)) = false then 1 else if thereB l key = false ∧ l.length = 60 then 2 else 0
def putL (l : List ItR) (key value : List UInt8) : List ItR := if putE l key value = 0 then putN l key value else l
def delE (l : List ItR) (key : List UInt8) : Nat := if keyOk key = false then 1 else if thereB l key = false then 3 else 0
def delL (l : List ItR) (key : List UInt8) : List ItR := if delE l key = 0 then delN l key else l
theorem sto_put (sb N : Nat) (en tr : SlR) (mp : Option Nat) (es : List MEn) (xs : List EnP) (its : List ItR) (tds : List Nd) (sk sv : SlR) (key value : List UInt8) (w : World) (h : StoAt w sb N en tr mp es xs its tds) (hK : BS w sk key) (hV : BS w sv value) (hkm : key.length ≤ maxLen) (hvm : value.length ≤ maxLen) :
  Calls Tryz.prog 40 #[.pointer (some ⟨sb, 0, none⟩), sk.val, sv.val] w fun e w' => e = .returned (.int .i64 (putE its key value : Int)) ∧ ∃ en' xs', StoAt w' sb N en' tr mp es xs' (putL its key value) tds ∧ Frame (fun k => k = sb) w w' ∧ (∀ k, stoF sb en' tr mp es xs' tds k → k < w.heap.size → stoF sb en tr mp es xs tds k) := by
 have hxl := h.ent.len
 by_cases ha : (keyOk key && decide (value.length ≤ 12)) = false
 ·have he : putE its key value = 1 := by unfold putE; rw [if_pos ha]
  have hl : putL its key value = its := by unfold putL; rw [he]; rfl
  rw [he, hl]
  refine (put_arg (.pointer (some ⟨sb, 0, none⟩)) sk.a sv.a sk.n sk.cap sv.n sv.cap w (by rw [hK.n]; exact hkm) (by rw [hV.n]; exact hvm) (by rw [hK.n, hV.n]; exact ha)).mono ?_
  rintro e w' ⟨rfl, rfl⟩
  exact ⟨rfl, en, xs, h, Frame.refl _ _, fun k hk _ => hk⟩
 ·have ha' : keyOk key = true ∧ value.length ≤ 12 := by
   have := (Bool.not_eq_false _).mp ha
   simpa using this
  have hk : 1 ≤ key.length ∧ key.length ≤ 12 := by have := ha'.1; unfold keyOk at this; simpa using this
  by_cases hf : thereB its key = false ∧ its.length = 60
  ·have he : putE its key value = 2 := by unfold putE; rw [if_neg ha, if_pos hf]
   have hl : putL its key value = its := by unfold putL; rw [he]; rfl
   rw [he, hl]
   refine (put_full sb en tr mp xs its sk sv key w h.row h.ent h.rise (by omega) hK hk.1 hk.2 (by rw [hV.n]; exact ha'.2) hf.1).mono ?_
   rintro e w' ⟨rfl, hb⟩
   exact ⟨rfl, en, xs, h.below hb, Frame.of_below_all hb, fun k hk _ => hk⟩
  ·have he : putE its key value = 0 := by unfold putE; rw [if_neg ha, if_neg hf]
   have hl : putL its key value = putN its key value := by unfold putL; rw [he]; rfl
   rw [he, hl]
   have hfl : thereB its key = false → its.length < 60 := fun ht => by
    have := h.len
    by_cases h6 : its.length = 60
    ·exact absurd ⟨ht, h6⟩ hf
    ·omega
   refine (put_ok sb en tr mp xs its sk sv key value w h.row (fun k hk e => h.entf k hk (Or.inl e)) h.ent h.rise (by have := h.len; omega) hK hV hk.1 hk.2 ha'.2 (fun ht => by have := hfl ht; omega)).mono ?_
   rintro e w' ⟨rfl, en', xs', g1, g2, g3, g4⟩
   have hsb := RowV.lt h.row
   refine ⟨rfl, en', xs', ⟨g1, h.known.frameSb g3 (StoAt.mp_ne h.row h.known), g2, fun k hk hm => ?_, owns_frame h.own g3 (fun k hk e => h.trf k hk (Or.inl e)), h.trf, fun nd hn => ⟨(h.nds nd hn).1.frame g3 (fun k hk e => (h.nds nd hn).2 k hk (Or.inl e)), (h.nds nd hn).2⟩, rising_put h.rise key value, ?_, ?_, len_put key value h.len hfl⟩, g3, ?_⟩
   ·have hlt := KMut.lt h.known hsb k hm
    exact h.entf k (g4 k hk hlt) hm
   ·intro x hx
    rcases mem_put hx with hx | rfl
    ·exact h.ok x hx
    ·exact ⟨hk.2, ha'.2⟩
   ·intro x hx
    rcases mem_put hx with hx | rfl
    ·exact h.norm x hx
    ·rfl
   ·intro k hk hlt
    rcases hk with hk | hk | hk
    ·exact Or.inl hk
    ·exact Or.inr (Or.inl (g4 k hk hlt))
    ·exact Or.inr (Or.inr hk)
theorem sto_del (sb N : Nat) (en tr : SlR) (mp : Option Nat) (es : List MEn) (xs : List EnP) (its : List ItR) (tds : List Nd) (sk : SlR) (key : List UInt8) (w : World) (h : StoAt w sb N en tr mp es xs its tds) (hK : BS w sk key) (hkm : key.length ≤ maxLen) :
  Calls Tryz.prog 42 #[.pointer (some ⟨sb, 0, none⟩), sk.val] w fun e w' => e = .returned (.int .i64 (delE its key : Int)) ∧ ∃ en' xs', StoAt w' sb N en' tr mp es xs' (delL its key) tds ∧ Frame (fun k => k = sb) w w' ∧ (∀ k, stoF sb en' tr mp es xs' tds k → k < w.heap.size → stoF sb en tr mp es xs tds k) := by
 have hxl := h.ent.len
 by_cases ha : keyOk key = false
 ·have he : delE its key = 1 := by unfold delE; rw [if_pos ha]
  have hl : delL its key = its := by unfold delL; rw [he]; rfl
  rw [he, hl]
  refine (del_arg (.pointer (some ⟨sb, 0, none⟩)) sk.a sk.n sk.cap w (by rw [hK.n]; exact hkm) (by rw [hK.n]; exact ha)).mono ?_
  rintro e w' ⟨rfl, rfl⟩
  exact ⟨rfl, en, xs, h, Frame.refl _ _, fun k hk _ => hk⟩
 ·have ha' : keyOk key = true := (Bool.not_eq_false _).mp ha
  have hk : 1 ≤ key.length ∧ key.length ≤ 12 := by unfold keyOk at ha'; simpa using ha'
  by_cases hf : thereB its key = false
  ·have he : delE its key = 3 := by unfold delE; rw [if_neg ha, if_pos hf]
   have hl : delL its key = its := by unfold delL; rw [he]; rfl
   rw [he, hl]
   refine (del_none sb en tr mp xs its sk key w h.row h.ent h.rise (by have := h.len; omega) hK hk.1 hk.2 hf).mono ?_
   rintro e w' ⟨rfl, hb⟩
   exact ⟨rfl, en, xs, h.below hb, Frame.of_below_all hb, fun k hk _ => hk⟩
  ·have ht : thereB its key = true := (Bool.not_eq_false _).mp hf
   have he : delE its key = 0 := by unfold delE; rw [if_neg ha, if_neg hf]
   have hl : delL its key = delN its key := by unfold delL; rw [he]; rfl
   rw [he, hl]
   have hpos := thereB_lt ht
   obtain ⟨ea, n, cap⟩ := en
   obtain ⟨hen, _, _, had⟩ := owns_cap (a := ea) (n' := n) (cap := cap) h.ent.own
   obtain ⟨g, rfl, _⟩ : ∃ g, ea = some ⟨g, 0, none⟩ ∧ True := by
    rcases had with ⟨_, h1, _⟩ | ⟨g, h1, _⟩
    ·omega
    ·exact ⟨g, h1, trivial⟩
   refine (del_some sb g n cap tr mp xs its sk key w h.row (fun k hk e => h.entf k hk (Or.inl e)) h.ent h.rise (by have := h.len; omega) hK hk.1 hk.2 ht).mono ?_
   rintro e w' ⟨rfl, en', xs', g1, g2, g3, g4⟩
   have hsb := RowV.lt h.row
   refine ⟨rfl, en', xs', ⟨g1, h.known.frameSb g3 (StoAt.mp_ne h.row h.known), g2, fun k hk hm => ?_, owns_frame h.own g3 (fun k hk e => h.trf k hk (Or.inl e)), h.trf, fun nd hn => ⟨(h.nds nd hn).1.frame g3 (fun k hk e => (h.nds nd hn).2 k hk (Or.inl e)), (h.nds nd hn).2⟩, rising_del h.rise key, ?_, ?_, len_del key h.len⟩, g3, ?_⟩
   ·have hlt := KMut.lt h.known hsb k hm
    exact h.entf k (g4 k hk hlt) hm
   ·intro x hx; exact h.ok x (mem_del hx)
   ·intro x hx; exact h.norm x (mem_del hx)
   ·intro k hk hlt
    rcases hk with hk | hk | hk
    ·exact Or.inl hk
    ·exact Or.inr (Or.inl (g4 k hk hlt))
    ·exact Or.inr (Or.inr hk)
end Go.Proofs.YtekegfbjbainhaaGreat


namespace Go.Proofs.YtekegfbjbainhaaGreat
open Go.RowKit
set_option maxRecDepth 100000 in
set_option maxHeartbeats 1000000 in
theorem refDel_arg (sv : Value) (ak : Option Addr) (nk ck : Nat) (w : World) (hnk : nk ≤ maxLen) (hbad : (decide (1 ≤ nk) && decide (nk ≤ 12)) = false) :
  Calls Tryz.prog 43 #[sv, .slice ak nk ck] w fun e w' => e = .returned (.int .i64 1) ∧ w' = w := by
 go_enter Tryz.func43, Tryz.ntmps43
 go_wp2_with fail
 refine (keyFits_any ak nk ck _ hnk).mono ?_
 rintro e w1 ⟨rfl, rfl⟩
 rw [hbad]
 go_wp2
 go_ret
 exact ⟨rfl, rfl⟩
set_option maxRecDepth 100000 in
set_option maxHeartbeats 1000000 in
theorem refDel_none (sb : Nat) (nowV pastV rootsV : Value) (ak : Option Addr) (ck base : Nat) (l : List ItR) (key : List UInt8) (w : World) (hk1 : 1 ≤ key.length) (hk2 : key.length ≤ 12) (hl : l.length ≤ 60)
  (hR : RefRow w sb nowV pastV rootsV) (hN : OwnI w base nowV l) (hK : SlB w ak key) (hkn : ak = none → ck = 0) (ht : thereB l key = false) :
  Calls Tryz.prog 43 #[.pointer (some ⟨sb, 0, none⟩), .slice ak key.length ck] w fun e w' => e = .returned (.int .i64 3) ∧ ∃ n, w' = w.drewN n := by
 obtain ⟨a, cap, rfl, hs, _⟩ := owns_form hN
 have h0 : w.cell? ⟨sb, 0, none⟩ = some (.slice a l.length cap) := hR.cell 0 (by simp)
 have hcv0 := run_string_SlB (P := Tryz.prog) w 38 9 5 ak key.length ck key Tryz.underlying38 Tryz.underlying5 Tryz.underlying9 rfl hK hkn
 have hf : (decide (1 ≤ key.length) && decide (key.length ≤ 12)) = true := by simp [hk1, hk2]
 have HPl2 : Hid (Calls Tryz.prog 80 #[.pointer (some ⟨sb, 0, none⟩), strV key] w fun e w' => e = .returned (.tuple #[.int .i64 (placeN l key : Int), .bool false]) ∧ ∃ n, w' = w.drewN n) := by have := place_any sb a cap l key w (by omega) h0 hs; rw [ht] at this; exact this
 generalize placeN l key = i at *
 clear hN hR hs
 go_enter Tryz.func43, Tryz.ntmps43
 go_wp2_with fail
 refine (keyFits_any ak _ ck _ (by unfold maxLen; omega)).mono ?_
 rintro e w1 ⟨rfl, hw1⟩
 obtain rfl : w = w1 := hw1.symm
 clear hw1
 rw [hf]
 go_wp2_with fail
 refine HPl2.out.mono ?_
 rintro e w2 ⟨rfl, m, rfl⟩
 go_wp2
 go_ret
 exact ⟨rfl, m, rfl⟩
set_option maxRecDepth 100000 in
set_option maxHeartbeats 1000000 in
theorem refDel_some (sb g n cap : Nat) (pastV rootsV : Value) (ak : Option Addr) (ck base : Nat) (l : List ItR) (key : List UInt8) (w : World) (hk1 : 1 ≤ key.length) (hk2 : key.length ≤ 12) (hl : l.length ≤ 60) (hn : n = l.length)
  (hR : RefRow w sb (.slice (some ⟨g, 0, none⟩) n cap) pastV rootsV) (hN : OwnI w base (.slice (some ⟨g, 0, none⟩) n cap) l) (hK : SlB w ak key) (hkn : ak = none → ck = 0) (ht : thereB l key = true) :
  Calls Tryz.prog 43 #[.pointer (some ⟨sb, 0, none⟩), .slice ak key.length ck] w fun e w' => e = .returned (.int .i64 0) ∧
   ∃ nowV', RefRow w' sb nowV' pastV rootsV ∧ OwnI w' w.heap.size nowV' (delN l key) ∧ Frame (fun k => k = sb) w w' := by
 have hN1 := hN
 rw [hn] at hN1
 obtain ⟨_, hcap, hcm, hform⟩ := owns_cap hN1
 obtain ⟨_, _, hvv, hs, _⟩ := owns_form hN1
 cases hvv
 clear hform hN1
 unfold maxLen at hcm
 have hsb : sb < w.heap.size := hR.lt
 have h0 : w.cell? ⟨sb, 0, none⟩ = some (.slice (some ⟨g, 0, none⟩) n cap) := hR.cell 0 (by simp)
 have hfz : w.frozen? ⟨sb, 0, none⟩ = false := hR.frozen 0
 have hcv0 := run_string_SlB (P := Tryz.prog) w 38 9 5 ak key.length ck key Tryz.underlying38 Tryz.underlying5 Tryz.underlying9 rfl hK hkn
 have hf : (decide (1 ≤ key.length) && decide (key.length ≤ 12)) = true := by simp [hk1, hk2]
 have HP : Hid (delN l key = l.take (placeN l key) ++ l.drop (placeN l key + 1)) := rfl
 have hi := thereB_lt ht
 have HPl2 : Hid (Calls Tryz.prog 80 #[.pointer (some ⟨sb, 0, none⟩), strV key] w fun e w' => e = .returned (.tuple #[.int .i64 (placeN l key : Int), .bool true]) ∧ ∃ n, w' = w.drewN n) := by
  have h0' := h0
  rw [hn] at h0'
  have := place_any sb _ cap l key w (by omega) h0' hs
  rw [ht] at this; exact this
 generalize placeN l key = i at *
 have HST : Hid (SlI w (some ⟨g, 0, none⟩) (l.take i)) := SlI.take hs i (by omega)
 have HSD : Hid (SlI w (some ⟨g, (i + 1) * 3, none⟩) (l.drop (i + 1))) := by have := SlI.drop hs (i + 1) (by omega); rw [Nat.zero_add] at this; exact this
 have HT : Hid (i = (l.take i).length) := by unfold Hid; rw [List.length_take]; omega
 have HD : Hid (n - (i + 1) = (l.drop (i + 1)).length) := by unfold Hid; rw [List.length_drop, hn]
 have HL : Hid ((l.take i).length + 1 + (l.drop (i + 1)).length ≤ 1000) := by unfold Hid; rw [List.length_take, List.length_drop]; omega
 have hiI : (i : Int) + 1 ≤ n := by omega
 have hcl : (n : Int) ≤ cap := by omega
 have hcI : (cap : Int) ≤ 9223372036854775807 := by omega
 have hin : i + 1 ≤ n := by omega
 have hnc : n ≤ cap := by omega
 have HN' : Hid (n = l.length) := hn
 have hi9 : i ≤ 1000 := by omega
 clear hs hn hi hcap hl ht
 by_cases hcj : cap = i + 1
 ·have HSD0 : Hid (SlI w (some ⟨g, 0, none⟩) (l.drop (i + 1))) := by
   unfold Hid; rw [List.drop_eq_nil_of_le (by have := HN'.out; omega)]; exact SlI.none
  have HD0 : Hid (0 = (l.drop (i + 1)).length) := by
   unfold Hid; rw [List.length_drop]; have := HN'.out; omega
  subst hcj
  obtain rfl : n = i + 1 := by omega
  clear hiI hcl hin hnc
  have hi0 : (i : Int) ≤ (i : Int) + 1 := by omega
  have hi1 : (i : Int) ≤ 1000 := by omega
  go_enter Tryz.func43, Tryz.ntmps43
  go_wp2_with fail
  refine (keyFits_any ak _ ck _ (by unfold maxLen; omega)).mono ?_
  rintro e w1 ⟨rfl, hw1⟩
  obtain rfl : w = w1 := hw1.symm
  clear hw1
  rw [hf]
  go_wp2_with fail
  refine HPl2.out.mono ?_
  rintro e w2 ⟨rfl, m, rfl⟩
  clear hcv0
  go_wp2_with (first
   | (at_builtin; refine wp_appendI (by rfl) (.tmp 22) (.tmp 28) (by rfl) w.heap.size (.slice none 0 0) [] (by rfl) (World.ownsRow_nil _ _ _ _) (some ⟨g, 0, none⟩) i (i + 1) (l.take i) (by rfl) HT.out (by exact HST.out) (fun h => by cases h) (by have := HL.out; simp only [List.length_nil]; omega) (by exact Nat.le_refl _) ?_; intro a1 n1 c1 w3 ho1 hf1 hat1; have hB3 : Below w.heap.size w w3 := below_drewN (hf1.below (by exact Nat.le_refl _) (fun k hk => by simp [Value.ownBlock] at hk)); have h03 : w3.cell? ⟨sb, 0, none⟩ = some (.slice (some ⟨g, 0, none⟩) (i + 1) (i + 1)) := (by rw [hB3.cell (p := ⟨sb, 0, none⟩) hsb]; exact h0))
   | (at_builtin; refine wp_appendI (by rfl) (.tmp 31) (.tmp 38) (by rfl) w.heap.size (.slice a1 n1 c1) ([] ++ l.take i) (by rfl) ho1 (some ⟨g, 0, none⟩) 0 0 (l.drop (i + 1)) (by rfl) (by exact HD0.out) (by exact SlV.below_all HSD0.out hB3) (fun h => by cases h) (by have := HL.out; simp only [List.nil_append]; omega) (by have := hB3.size; omega) ?_; intro a3 n3 c3 w5 ho3 hf3 hat3; have hB5 : Below w.heap.size w w5 := hB3.trans (hf3.below (by have := hB3.size; omega) (fun k hk => (ho1.lt k hk).1)); have h05 : w5.cell? ⟨sb, 0, none⟩ = some (.slice (some ⟨g, 0, none⟩) (i + 1) (i + 1)) := (by rw [hB5.cell (p := ⟨sb, 0, none⟩) hsb]; exact h0); have f05 : w5.frozen? ⟨sb, 0, none⟩ = false := (by rw [hB5.frozen (p := ⟨sb, 0, none⟩) hsb]; exact hfz)))
  go_ret
  refine ⟨rfl, _, (hR.below hsb hB5).set 0 _, ?_, (Frame.of_below_all (S := fun k => k = sb) hB5).setCell (p := ⟨sb, 0, none⟩) rfl _⟩
  rw [HP.out]
  exact owns_frame ho3 ((Frame.refl (fun k => k = sb) w5).setCell (p := ⟨sb, 0, none⟩) rfl _) (fun k hk e => by have := (ho3.lt k hk).1; omega)
 ·go_enter Tryz.func43, Tryz.ntmps43
  go_wp2_with fail
  refine (keyFits_any ak _ ck _ (by unfold maxLen; omega)).mono ?_
  rintro e w1 ⟨rfl, hw1⟩
  obtain rfl : w = w1 := hw1.symm
  clear hw1
  rw [hf]
  go_wp2_with fail
  refine HPl2.out.mono ?_
  rintro e w2 ⟨rfl, m, rfl⟩
  clear hcv0
  go_wp2_with (first
   | (at_builtin; refine wp_appendI (by rfl) (.tmp 22) (.tmp 28) (by rfl) w.heap.size (.slice none 0 0) [] (by rfl) (World.ownsRow_nil _ _ _ _) (some ⟨g, 0, none⟩) i cap (l.take i) (by rfl) HT.out (by exact HST.out) (fun h => by cases h) (by have := HL.out; simp only [List.length_nil]; omega) (by exact Nat.le_refl _) ?_; intro a1 n1 c1 w3 ho1 hf1 hat1; have hB3 : Below w.heap.size w w3 := below_drewN (hf1.below (by exact Nat.le_refl _) (fun k hk => by simp [Value.ownBlock] at hk)); have h03 : w3.cell? ⟨sb, 0, none⟩ = some (.slice (some ⟨g, 0, none⟩) n cap) := (by rw [hB3.cell (p := ⟨sb, 0, none⟩) hsb]; exact h0))
   | (at_builtin; refine wp_appendI (by rfl) (.tmp 31) (.tmp 38) (by rfl) w.heap.size (.slice a1 n1 c1) ([] ++ l.take i) (by rfl) ho1 (some ⟨g, (i + 1) * 3, none⟩) (n - (i + 1)) (cap - (i + 1)) (l.drop (i + 1)) (by rfl) (by exact HD.out) (by exact SlV.below_all HSD.out hB3) (fun h => by cases h) (by have := HL.out; simp only [List.nil_append]; omega) (by have := hB3.size; omega) ?_; intro a3 n3 c3 w5 ho3 hf3 hat3; have hB5 : Below w.heap.size w w5 := hB3.trans (hf3.below (by have := hB3.size; omega) (fun k hk => (ho1.lt k hk).1)); have h05 : w5.cell? ⟨sb, 0, none⟩ = some (.slice (some ⟨g, 0, none⟩) n cap) := (by rw [hB5.cell (p := ⟨sb, 0, none⟩) hsb]; exact h0); have f05 : w5.frozen? ⟨sb, 0, none⟩ = false := (by rw [hB5.frozen (p := ⟨sb, 0, none⟩) hsb]; exact hfz)))
  go_ret
  refine ⟨rfl, _, (hR.below hsb hB5).set 0 _, ?_, (Frame.of_below_all (S := fun k => k = sb) hB5).setCell (p := ⟨sb, 0, none⟩) rfl _⟩
  rw [HP.out]
  exact owns_frame ho3 ((Frame.refl (fun k => k = sb) w5).setCell (p := ⟨sb, 0, none⟩) rfl _) (fun k hk e => by have := (ho3.lt k hk).1; omega)
end Go.Proofs.YtekegfbjbainhaaGreat


namespace Go.Proofs.YtekegfbjbainhaaGreat
open Go.RowKit
def refF (rb : Nat) (now past roots : SlR) (pastL : List (SlR × List ItR)) (k : Nat) : Prop := k = rb ∨ now.val.ownBlock = some k ∨ past.val.ownBlock = some k ∨ roots.val.ownBlock = some k ∨ ∃ q ∈ pastL, q.1.val.ownBlock = some k
theorem RefAt.lt {w : World} {rb base : Nat} {now past roots : SlR} {nowL : List ItR} {pastL : List (SlR × List ItR)} {rootsL : List (List UInt8)} (h : RefAt w rb base now past roots nowL pastL rootsL) : ∀ k, refF rb now past roots pastL k → k < w.heap.size := fun k hk => by
 rcases hk with rfl | hk | hk | hk | ⟨q, hq, hk⟩
 ·exact RowV.lt h.row
 ·exact (World.ownsRow.lt h.hnow k hk).2
 ·exact (h.hpast.lt k hk).2
 ·exact (h.hroots.lt k hk).2
 ·exact (World.ownsRow.lt (h.hpok q hq) k hk).2
theorem RefAt.frame {w W : World} {S : Nat → Prop} {rb base : Nat} {now past roots : SlR} {nowL : List ItR} {pastL : List (SlR × List ItR)} {rootsL : List (List UInt8)} (h : RefAt w rb base now past roots nowL pastL rootsL) (hf : Frame S w W) (hS : ∀ k, refF rb now past roots pastL k → ¬ S k) : RefAt W rb base now past roots nowL pastL rootsL :=
 ⟨RowV.of_block h.row (hf.block _ (RowV.lt h.row) (hS _ (Or.inl rfl))), owns_frame h.hnow hf (fun k hk => hS k (Or.inr (Or.inl hk))), owns_frame h.hpast hf (fun k hk => hS k (Or.inr (Or.inr (Or.inl hk)))), fun q hq => owns_frame (h.hpok q hq) hf (fun k hk => hS k (Or.inr (Or.inr (Or.inr (Or.inr ⟨q, hq, hk⟩))))), owns_frame h.hroots hf (fun k hk => hS k (Or.inr (Or.inr (Or.inr (Or.inl hk))))), h.h8⟩
theorem RefAt.renow {w w' : World} {rb : Nat} {now past roots : SlR} {nowL l' : List ItR} {pastL : List (SlR × List ItR)} {rootsL : List (List UInt8)} (h : RefAt w rb 0 now past roots nowL pastL rootsL) {v : Value} (hr : RefRow w' rb v past.val roots.val) (ho : OwnI w' w.heap.size v l') (hf : Frame (fun k => k = rb) w w') :
  ∃ now', RefAt w' rb 0 now' past roots l' pastL rootsL ∧ (∀ k, refF rb now' past roots pastL k → k < w.heap.size → refF rb now past roots pastL k) := by
 obtain ⟨a, cap, rfl, _⟩ := owns_form ho
 refine ⟨⟨a, l'.length, cap⟩, ⟨hr, owns_base ho (fun k _ => Nat.zero_le k), owns_frame h.hpast hf (fun k hk e => owns_ne h.hpast h.row (by decide) (by rw [hk, e])), fun q hq => owns_frame (h.hpok q hq) hf (fun k hk e => owns_ne (h.hpok q hq) h.row (by decide) (by rw [hk, e])), owns_frame h.hroots hf (fun k hk e => owns_ne h.hroots h.row (by decide) (by rw [hk, e])), h.h8⟩, ?_⟩
 intro k hk hlt
 rcases hk with hk | hk | hk
 ·exact Or.inl hk
 ·have := (World.ownsRow.lt ho k hk).1; omega
 ·exact Or.inr (Or.inr hk)
theorem ref_put (rb : Nat) (now past roots : SlR) (nowL : List ItR) (pastL : List (SlR × List ItR)) (rootsL : List (List UInt8)) (sk sv : SlR) (key value : List UInt8) (w : World) (h : RefAt w rb 0 now past roots nowL pastL rootsL) (hl : nowL.length ≤ 60) (hK : BS w sk key) (hV : BS w sv value) (hkm : key.length ≤ maxLen) (hvm : value.length ≤ maxLen) (hkn : sk.a = none → sk.cap = 0) (hvn : sv.a = none → sv.cap = 0) :
  Calls Tryz.prog 41 #[.pointer (some ⟨rb, 0, none⟩), sk.val, sv.val] w fun e w' => e = .returned (.int .i64 (putE nowL key value : Int)) ∧ ∃ now', RefAt w' rb 0 now' past roots (putL nowL key value) pastL rootsL ∧ Frame (fun k => k = rb) w w' ∧ (∀ k, refF rb now' past roots pastL k → k < w.heap.size → refF rb now past roots pastL k) := by
 by_cases ha : (keyOk key && decide (value.length ≤ 12)) = false
 ·have he : putE nowL key value = 1 := by unfold putE; rw [if_pos ha]
  have hl : putL nowL key value = nowL := by unfold putL; rw [he]; rfl
  rw [he, hl]
  refine (refPut_arg (.pointer (some ⟨rb, 0, none⟩)) sk.a sv.a sk.n sk.cap sv.n sv.cap w (by rw [hK.n]; exact hkm) (by rw [hV.n]; exact hvm) (by rw [hK.n, hV.n]; exact ha)).mono ?_
  rintro e w' ⟨rfl, rfl⟩
  exact ⟨rfl, now, h, Frame.refl _ _, fun k hk _ => hk⟩
 ·have ha' : keyOk key = true ∧ value.length ≤ 12 := by
   have := (Bool.not_eq_false _).mp ha
   simpa using this
  have hk : 1 ≤ key.length ∧ key.length ≤ 12 := by have := ha'.1; unfold keyOk at this; simpa using this
  obtain ⟨ka, kn, kc⟩ := sk
  obtain ⟨va, vn, vc⟩ := sv
  have ekn : kn = key.length := hK.n
  have evn : vn = value.length := hV.n
  subst ekn evn
  by_cases hf : thereB nowL key = false ∧ nowL.length = 60
  ·have he : putE nowL key value = 2 := by unfold putE; rw [if_neg ha, if_pos hf]
   have hl : putL nowL key value = nowL := by unfold putL; rw [he]; rfl
   rw [he, hl]
   refine (refPut_full rb now.val past.val roots.val ka va kc _ vc 0 nowL key w hk.1 hk.2 ha'.2 hf.2 h.row h.hnow hK.sl hkn hf.1).mono ?_
   rintro e w' ⟨rfl, n, rfl⟩
   have hb : Below w.heap.size w (w.drewN n) := have hb0 := Below.refl w.heap.size w; ⟨hb0.os, hb0.tape, hb0.output, hb0.size, hb0.block⟩
   exact ⟨rfl, now, h.below hb, Frame.of_below_all hb, fun k hk _ => hk⟩
  ·have he : putE nowL key value = 0 := by unfold putE; rw [if_neg ha, if_neg hf]
   have hle : putL nowL key value = putN nowL key value := by unfold putL; rw [he]; rfl
   rw [he, hle]
   have hfl : thereB nowL key = false → nowL.length < 60 := fun ht => by
    by_cases h6 : nowL.length = 60
    ·exact absurd ⟨ht, h6⟩ hf
    ·omega
   obtain ⟨na, nn, nc⟩ := now
   obtain ⟨hnn, hnc, _, had⟩ := owns_cap (a := na) (n' := nn) (cap := nc) h.hnow
   rcases had with ⟨rfl, hz, hcz⟩ | ⟨g, rfl, _, _⟩
   ·have hnil : nowL = [] := List.length_eq_zero_iff.1 hz
    subst hnil
    subst hcz
    rw [hz] at hnn; subst hnn
    refine (refPut_nil rb past.val roots.val ka va kc vc key value w hk.1 hk.2 ha'.2 h.row hK.sl hV.sl hkn hvn).mono ?_
    rintro e w' ⟨rfl, v, g1, g2, g3⟩
    obtain ⟨now', g4, g5⟩ := RefAt.renow h g1 g2 g3
    exact ⟨rfl, now', g4, g3, g5⟩
   ·refine (refPut_some rb g nn nc past.val roots.val ka va kc vc 0 nowL key value w hk.1 hk.2 ha'.2 hl hnn h.row h.hnow hK.sl hV.sl hkn hvn hfl).mono ?_
    rintro e w' ⟨rfl, v, g1, g2, g3⟩
    obtain ⟨now', g4, g5⟩ := RefAt.renow h g1 g2 g3
    exact ⟨rfl, now', g4, g3, g5⟩
theorem ref_del (rb : Nat) (now past roots : SlR) (nowL : List ItR) (pastL : List (SlR × List ItR)) (rootsL : List (List UInt8)) (sk : SlR) (key : List UInt8) (w : World) (h : RefAt w rb 0 now past roots nowL pastL rootsL) (hl : nowL.length ≤ 60) (hK : BS w sk key) (hkm : key.length ≤ maxLen) (hkn : sk.a = none → sk.cap = 0) :
  Calls Tryz.prog 43 #[.pointer (some ⟨rb, 0, none⟩), sk.val] w fun e w' => e = .returned (.int .i64 (delE nowL key : Int)) ∧ ∃ now', RefAt w' rb 0 now' past roots (delL nowL key) pastL rootsL ∧ Frame (fun k => k = rb) w w' ∧ (∀ k, refF rb now' past roots pastL k → k < w.heap.size → refF rb now past roots pastL k) := by
 by_cases ha : keyOk key = false
 ·have he : delE nowL key = 1 := by unfold delE; rw [if_pos ha]
  have hl : delL nowL key = nowL := by unfold delL; rw [he]; rfl
  rw [he, hl]
  refine (refDel_arg (.pointer (some ⟨rb, 0, none⟩)) sk.a sk.n sk.cap w (by rw [hK.n]; exact hkm) (by rw [hK.n]; exact ha)).mono ?_
  rintro e w' ⟨rfl, rfl⟩
  exact ⟨rfl, now, h, Frame.refl _ _, fun k hk _ => hk⟩
 ·have ha' : keyOk key = true := (Bool.not_eq_false _).mp ha
  have hk : 1 ≤ key.length ∧ key.length ≤ 12 := by unfold keyOk at ha'; simpa using ha'
  obtain ⟨ka, kn, kc⟩ := sk
  have ekn : kn = key.length := hK.n
  subst ekn
  by_cases hf : thereB nowL key = false
  ·have he : delE nowL key = 3 := by unfold delE; rw [if_neg ha, if_pos hf]
   have hle : delL nowL key = nowL := by unfold delL; rw [he]; rfl
   rw [he, hle]
   refine (refDel_none rb now.val past.val roots.val ka kc 0 nowL key w hk.1 hk.2 hl h.row h.hnow hK.sl hkn hf).mono ?_
   rintro e w' ⟨rfl, n, rfl⟩
   have hb : Below w.heap.size w (w.drewN n) := have hb0 := Below.refl w.heap.size w; ⟨hb0.os, hb0.tape, hb0.output, hb0.size, hb0.block⟩
   exact ⟨rfl, now, h.below hb, Frame.of_below_all hb, fun k hk _ => hk⟩
  ·have ht : thereB nowL key = true := (Bool.not_eq_false _).mp hf
   have he : delE nowL key = 0 := by unfold delE; rw [if_neg ha, if_neg hf]
   have hle : delL nowL key = delN nowL key := by unfold delL; rw [he]; rfl
   rw [he, hle]
   have hpos := thereB_lt ht
   obtain ⟨na, nn, nc⟩ := now
   obtain ⟨hnn, hnc, _, had⟩ := owns_cap (a := na) (n' := nn) (cap := nc) h.hnow
   rcases had with ⟨rfl, hz, hcz⟩ | ⟨g, rfl, _, _⟩
   ·omega
   ·refine (refDel_some rb g nn nc past.val roots.val ka kc 0 nowL key w hk.1 hk.2 hl hnn h.row h.hnow hK.sl hkn ht).mono ?_
    rintro e w' ⟨rfl, v, g1, g2, g3⟩
    obtain ⟨now', g4, g5⟩ := RefAt.renow h g1 g2 g3
    exact ⟨rfl, now', g4, g3, g5⟩
end Go.Proofs.YtekegfbjbainhaaGreat


namespace Go.Proofs.YtekegfbjbainhaaGreat
open Go.RowKit
structure PastOk (p : List ItR) : Prop where
 rise : Rising p
 ok : ∀ x ∈ p, ItOk x
 norm : ∀ x ∈ p, x.below = 0
 len : p.length ≤ 60
def treeF (T : List (List (List Nd))) (k : Nat) : Prop := ∃ L ∈ T, ∃ nds ∈ L, ∃ x ∈ nds, ndF x k
structure StoT (w : World) (sb : Nat) (mp : Option Nat) (es : List MEn) (T : List (List (List Nd))) (tds : List Nd) (pp : List (List ItR)) : Prop where
 good : ∀ L ∈ T, ∀ nds ∈ L, ∀ x ∈ nds, NdOk w x ∧ ∀ k, ndF x k → ¬ KMut sb mp es k
 tl : T.length = tds.length
 pl : pp.length = tds.length
 rep : ∀ (i : Nat) (L : List (List Nd)) (p : List ItR) (nd : Nd), T[i]? = some L → pp[i]? = some p → tds[i]? = some nd → TreeRep (grownN p) L ∧ (∃ ℓ, L.length = ℓ + 1 ∧ L[ℓ]? = some [nd]) ∧ PastOk p
theorem StoT.lt {w : World} {sb : Nat} {mp : Option Nat} {es : List MEn} {T : List (List (List Nd))} {tds : List Nd} {pp : List (List ItR)} (h : StoT w sb mp es T tds pp) : ∀ k, treeF T k → k < w.heap.size := fun k ⟨L, hL, nds, hn, x, hx, hk⟩ => (h.good L hL nds hn x hx).1.lt k hk
theorem StoT.frame {w W : World} {S : Nat → Prop} {sb : Nat} {mp : Option Nat} {es : List MEn} {T : List (List (List Nd))} {tds : List Nd} {pp : List (List ItR)} (h : StoT w sb mp es T tds pp) (hf : Frame S w W) (hS : ∀ k, treeF T k → ¬ S k) : StoT W sb mp es T tds pp :=
 ⟨fun L hL nds hn x hx => ⟨(h.good L hL nds hn x hx).1.frame hf (fun k hk => hS k ⟨L, hL, nds, hn, x, hx, hk⟩), (h.good L hL nds hn x hx).2⟩, h.tl, h.pl, h.rep⟩
theorem StoT.next {w W : World} {S : Nat → Prop} {sb : Nat} {mp mp' : Option Nat} {es es' : List MEn} {T : List (List (List Nd))} {tds : List Nd} {pp : List (List ItR)} (h : StoT w sb mp es T tds pp) (hf : Frame S w W) (hS : ∀ k, S k → KMut sb mp es k) (hM : ∀ k, KMut sb mp' es' k → k < w.heap.size → KMut sb mp es k) : StoT W sb mp' es' T tds pp :=
 ⟨fun L hL nds hn x hx => ⟨(h.good L hL nds hn x hx).1.frame hf (fun k hk e => (h.good L hL nds hn x hx).2 k hk (hS k e)), fun k hk e => (h.good L hL nds hn x hx).2 k hk (hM k e ((h.good L hL nds hn x hx).1.lt k hk))⟩, h.tl, h.pl, h.rep⟩
theorem StoT.push {w : World} {sb ℓ : Nat} {mp : Option Nat} {es : List MEn} {T : List (List (List Nd))} {tds : List Nd} {pp : List (List ItR)} {L : List (List Nd)} {nd : Nd} {p : List ItR} (h : StoT w sb mp es T tds pp) (hL : ∀ nds ∈ L, ∀ x ∈ nds, NdOk w x ∧ ∀ k, ndF x k → ¬ KMut sb mp es k) (h1 : TreeRep (grownN p) L) (h2 : L.length = ℓ + 1) (h3 : L[ℓ]? = some [nd]) (h4 : PastOk p) :
  StoT w sb mp es (T ++ [L]) (tds ++ [nd]) (pp ++ [p]) := by
 refine ⟨fun M hM nds hn x hx => ?_, by simp [h.tl], by simp [h.pl], fun i M q n e1 e2 e3 => ?_⟩
 ·rcases List.mem_append.1 hM with hM | hM
  ·exact h.good M hM nds hn x hx
  ·simp only [List.mem_singleton] at hM; subst hM; exact hL nds hn x hx
 ·by_cases hi : i < T.length
  ·rw [List.getElem?_append_left hi] at e1
   rw [List.getElem?_append_left (by rw [h.pl, ← h.tl]; exact hi)] at e2
   rw [List.getElem?_append_left (by rw [← h.tl]; exact hi)] at e3
   exact h.rep i M q n e1 e2 e3
  ·have hi' : i = T.length := by
    have := (List.getElem?_eq_some_iff.1 e1).1
    simp at this; omega
   subst hi'
   have e2' := h.tl
   have e3' := h.pl
   rw [List.getElem?_append_right (Nat.le_refl _), Nat.sub_self] at e1
   rw [List.getElem?_append_right (by omega), show T.length - pp.length = 0 by omega] at e2
   rw [List.getElem?_append_right (by omega), show T.length - tds.length = 0 by omega] at e3
   simp at e1 e2 e3
   subst e1 e2 e3
   exact ⟨h1, ⟨ℓ, h2, h3⟩, h4⟩
def comsF : Nat → List (List UInt8) → List Value
 | 0, _ => []
 | n + 1, rl => comsF n rl ++ commitC n (rl.getD n []) (n + 1) (sumF 42 (rl.take (n + 1)))
def comsC (rl : List (List UInt8)) : List Value := comsF rl.length rl
theorem comsF_append : ∀ (n : Nat) (rl r : List (List UInt8)), n ≤ rl.length → comsF n (rl ++ r) = comsF n rl
 | 0, _, _, _ => rfl
 | n + 1, rl, r, h => by
  unfold comsF
  rw [comsF_append n rl r (by omega), List.take_append_of_le_length h]
  have e : (rl ++ r).getD n [] = rl.getD n [] := by
   simp only [List.getD_eq_getElem?_getD]
   rw [List.getElem?_append_left (by omega)]
  rw [e]
theorem comsC_snoc (rl : List (List UInt8)) (r : List UInt8) : comsC (rl ++ [r]) = comsC rl ++ commitC rl.length r (rl.length + 1) (sumF 42 (rl ++ [r])) := by
 unfold comsC
 rw [List.length_append, List.length_singleton, comsF, comsF_append _ _ _ (Nat.le_refl _), List.take_of_length_le (by simp)]
 have e : (rl ++ [r]).getD rl.length [] = r := by simp
 rw [e]
end Go.Proofs.YtekegfbjbainhaaGreat
