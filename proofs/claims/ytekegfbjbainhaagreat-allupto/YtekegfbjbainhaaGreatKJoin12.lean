import Derived.Test.YtekegfbjbainhaaGreatKJoin11
import Derived.Test.YtekegfbjbainhaaGreatKJoin3
import Derived.Test.YtekegfbjbainhaaGreatKJoin4
import Derived.Deep.DeepCutAuto
set_option linter.unusedVariables false
set_option linter.unusedSimpArgs false

namespace Go.Proofs.YtekegfbjbainhaaGreat
open Go.RowKit
theorem rising_put {l : List ItR} (h : Rising l) (key value : List UInt8) : Rising (putN l key value) := by
 have hp := rising_place l key h
 have hle := placeN_le l key
 have hbef : ∀ x ∈ l.take (placeN l key), Op.bytesLess x.key key = true := fun x hx => by
  obtain ⟨i, hi, rfl⟩ := List.getElem_of_mem hx
  rw [List.length_take] at hi
  rw [List.getElem_take]
  have := hp i (by omega)
  unfold lessK at this
  rw [this]; simp; omega
 have hnl : ∀ j (hj : j < l.length), placeN l key ≤ j → Op.bytesLess l[j].key key = false := fun j hj hpj => by
  have := hp j hj
  unfold lessK at this
  rw [this]; simp; omega
 have haft : ∀ x ∈ l.drop (if thereB l key then placeN l key + 1 else placeN l key), Op.bytesLess key x.key = true := by
  cases ht : thereB l key with
  | false =>
   intro x hx
   simp only [Bool.false_eq_true, if_false] at hx
   obtain ⟨i, hi, rfl⟩ := List.getElem_of_mem hx
   rw [List.getElem_drop]
   rw [List.length_drop] at hi
   have hj : placeN l key + i < l.length := by omega
   refine less_total _ _ (hnl _ hj (by omega)) (fun e => ?_)
   by_cases h0 : i = 0
   ·subst h0
    have hne : thereB l key = true := by
     unfold thereB
     rw [List.getElem?_eq_getElem (by omega)]
     simpa using e
    rw [ht] at hne; cases hne
   ·have hlt := List.pairwise_iff_getElem.1 h (placeN l key) (placeN l key + i) (by omega) hj (by omega)
    rw [e] at hlt
    rw [hnl _ (by omega) (Nat.le_refl _)] at hlt; cases hlt
  | true =>
   intro x hx
   simp only [if_true] at hx
   obtain ⟨i, hi, rfl⟩ := List.getElem_of_mem hx
   rw [List.getElem_drop]
   rw [List.length_drop] at hi
   have hk : (l[placeN l key]'(thereB_lt ht)).key = key := by
    have hlt := thereB_lt ht
    unfold thereB at ht
    rw [List.getElem?_eq_getElem hlt] at ht
    simpa using ht
   have hlt := List.pairwise_iff_getElem.1 h (placeN l key) (placeN l key + 1 + i) (thereB_lt ht) (by omega) (by omega)
   rw [hk] at hlt; exact hlt
 unfold putN Rising
 rw [List.pairwise_append, List.pairwise_append]
 refine ⟨⟨h.sublist (List.take_sublist _ _), by simp, ?_⟩, h.sublist (List.drop_sublist _ _), ?_⟩
 ·intro a ha b hb
  simp only [List.mem_singleton] at hb; subst hb
  exact hbef a ha
 ·intro a ha b hb
  rcases List.mem_append.1 ha with ha | ha
  ·exact less_trans (hbef a ha) (haft b hb)
  ·simp only [List.mem_singleton] at ha; subst ha
   exact haft b hb
theorem rising_del {l : List ItR} (h : Rising l) (key : List UInt8) : Rising (delN l key) := by
 unfold delN Rising
 have hs : (l.take (placeN l key) ++ l.drop (placeN l key + 1)).Sublist l := by
  have h1 : (l.take (placeN l key) ++ l.drop (placeN l key + 1)).Sublist (l.take (placeN l key) ++ l.drop (placeN l key)) := List.Sublist.append (List.Sublist.refl _) (by rw [← List.drop_drop]; exact List.drop_sublist _ _)
  rwa [List.take_append_drop] at h1
 exact List.Pairwise.sublist hs h
theorem mem_put {l : List ItR} {key value : List UInt8} {x : ItR} (h : x ∈ putN l key value) : x ∈ l ∨ x = ⟨key, value, 0⟩ := by
 unfold putN at h
 simp only [List.mem_append, List.mem_singleton] at h
 rcases h with (h | h) | h
 ·exact Or.inl (List.mem_of_mem_take h)
 ·exact Or.inr h
 ·exact Or.inl (List.mem_of_mem_drop h)
theorem mem_del {l : List ItR} {key : List UInt8} {x : ItR} (h : x ∈ delN l key) : x ∈ l := by
 unfold delN at h
 rcases List.mem_append.1 h with h | h
 ·exact List.mem_of_mem_take h
 ·exact List.mem_of_mem_drop h
theorem len_put {l : List ItR} (key value : List UInt8) (h : l.length ≤ 60) (hf : thereB l key = false → l.length < 60) : (putN l key value).length ≤ 60 := by
 have hle := placeN_le l key
 unfold putN
 cases ht : thereB l key with
 | false => have := hf ht; simp [ht]; omega
 | true => have := thereB_lt ht; simp [ht]; omega
theorem len_del {l : List ItR} (key : List UInt8) (h : l.length ≤ 60) : (delN l key).length ≤ 60 := by
 unfold delN; simp; omega
def keyOk (key : List UInt8) : Bool := decide (1 ≤ key.length) && decide (key.length ≤ 12)
def putE (l : List ItR) (key value : List UInt8) : Nat := if (keyOk key && decide (value.length ≤ 12)) = false then 1 else if thereB l key = false ∧ l.length = 60 then 2 else 0
def putL (l : List ItR) (key value : List UInt8) : List ItR := if putE l key value = 0 then putN l key value else l
def delE (l : List ItR) (key : List UInt8) : Nat := if keyOk key = false then 1 else if thereB l key = false then 3 else 0
def delL (l : List ItR) (key : List UInt8) : List ItR := if delE l key = 0 then delN l key else l
theorem sto_put (sb N : Nat) (en tr : SlR) (mp : Option Nat) (es : List MEn) (xs : List EnP) (its : List ItR) (tds : List Nd) (sk sv : SlR) (key value : List UInt8) (w : World) (h : StoAt w sb N en tr mp es xs its tds) (hK : BS w sk key) (hV : BS w sv value) (hkm : key.length ≤ maxLen) (hvm : value.length ≤ maxLen) :
  Calls Tryz.prog 40 #[.pointer (some ⟨sb, 0, none⟩), sk.val, sv.val] w fun e w' => e = .returned (.int .i64 (putE its key value : Int)) ∧ ∃ en' xs', StoAt w' sb N en' tr mp es xs' (putL its key value) tds ∧ Frame (fun k => k = sb) w w' ∧ (∀ k, stoF sb en' tr mp es xs' tds k → k < w.heap.size → stoF sb en tr mp es xs tds k) := by
 have hxl := h.ent.len
 by_cases ha : (keyOk key && decide (value.length ≤ 12)) = false
 ·have he : putE its key value = 1 := by unfold putE; rw [if_pos ha]
  have hl : putL its key value = its := by unfold putL; rw [he]; rfl
  rw [he, hl]
  refine (put_arg (.pointer (some ⟨sb, 0, none⟩)) sk.a sv.a sk.n sk.cap sv.n sv.cap w (by rw [hK.n]; exact hkm) (by rw [hV.n]; exact hvm) (by rw [hK.n, hV.n]; exact ha)).mono ?_
  rintro e w' ⟨rfl, rfl⟩
  exact ⟨rfl, en, xs, h, Frame.refl _ _, fun k hk _ => hk⟩
 ·have ha' : keyOk key = true ∧ value.length ≤ 12 := by
   have := (Bool.not_eq_false _).mp ha
   simpa using this
  have hk : 1 ≤ key.length ∧ key.length ≤ 12 := by have := ha'.1; unfold keyOk at this; simpa using this
  by_cases hf : thereB its key = false ∧ its.length = 60
  ·have he : putE its key value = 2 := by unfold putE; rw [if_neg ha, if_pos hf]
   have hl : putL its key value = its := by unfold putL; rw [he]; rfl
   rw [he, hl]
   refine (put_full sb en tr mp xs its sk sv key w h.row h.ent h.rise (by omega) hK hk.1 hk.2 (by rw [hV.n]; exact ha'.2) hf.1).mono ?_
   rintro e w' ⟨rfl, hb⟩
   exact ⟨rfl, en, xs, h.below hb, Frame.of_below_all hb, fun k hk _ => hk⟩
  ·have he : putE its key value = 0 := by unfold putE; rw [if_neg ha, if_neg hf]
   have hl : putL its key value = putN its key value := by unfold putL; rw [he]; rfl
   rw [he, hl]
   have hfl : thereB its key = false → its.length < 60 := fun ht => by
    have := h.len
    by_cases h6 : its.length = 60
    ·exact absurd ⟨ht, h6⟩ hf
    ·omega
   refine (put_ok sb en tr mp xs its sk sv key value w h.row (fun k hk e => h.entf k hk (Or.inl e)) h.ent h.rise (by have := h.len; omega) hK hV hk.1 hk.2 ha'.2 (fun ht => by have := hfl ht; omega)).mono ?_
   rintro e w' ⟨rfl, en', xs', g1, g2, g3, g4⟩
   have hsb := RowV.lt h.row
   refine ⟨rfl, en', xs', ⟨g1, h.known.frameSb g3 (StoAt.mp_ne h.row h.known), g2, fun k hk hm => ?_, owns_frame h.own g3 (fun k hk e => h.trf k hk (Or.inl e)), h.trf, fun nd hn => ⟨(h.nds nd hn).1.frame g3 (fun k hk e => (h.nds nd hn).2 k hk (Or.inl e)), (h.nds nd hn).2⟩, rising_put h.rise key value, ?_, ?_, len_put key value h.len hfl⟩, g3, ?_⟩
   ·have hlt := KMut.lt h.known hsb k hm
    exact h.entf k (g4 k hk hlt) hm
   ·intro x hx
    rcases mem_put hx with hx | rfl
    ·exact h.ok x hx
    ·exact ⟨hk.2, ha'.2⟩
   ·intro x hx
    rcases mem_put hx with hx | rfl
    ·exact h.norm x hx
    ·rfl
   ·intro k hk hlt
    rcases hk with hk | hk | hk
    ·exact Or.inl hk
    ·exact Or.inr (Or.inl (g4 k hk hlt))
    ·exact Or.inr (Or.inr hk)
theorem sto_del (sb N : Nat) (en tr : SlR) (mp : Option Nat) (es : List MEn) (xs : List EnP) (its : List ItR) (tds : List Nd) (sk : SlR) (key : List UInt8) (w : World) (h : StoAt w sb N en tr mp es xs its tds) (hK : BS w sk key) (hkm : key.length ≤ maxLen) :
  Calls Tryz.prog 42 #[.pointer (some ⟨sb, 0, none⟩), sk.val] w fun e w' => e = .returned (.int .i64 (delE its key : Int)) ∧ ∃ en' xs', StoAt w' sb N en' tr mp es xs' (delL its key) tds ∧ Frame (fun k => k = sb) w w' ∧ (∀ k, stoF sb en' tr mp es xs' tds k → k < w.heap.size → stoF sb en tr mp es xs tds k) := by
 have hxl := h.ent.len
 by_cases ha : keyOk key = false
 ·have he : delE its key = 1 := by unfold delE; rw [if_pos ha]
  have hl : delL its key = its := by unfold delL; rw [he]; rfl
  rw [he, hl]
  refine (del_arg (.pointer (some ⟨sb, 0, none⟩)) sk.a sk.n sk.cap w (by rw [hK.n]; exact hkm) (by rw [hK.n]; exact ha)).mono ?_
  rintro e w' ⟨rfl, rfl⟩
  exact ⟨rfl, en, xs, h, Frame.refl _ _, fun k hk _ => hk⟩
 ·have ha' : keyOk key = true := (Bool.not_eq_false _).mp ha
  have hk : 1 ≤ key.length ∧ key.length ≤ 12 := by unfold keyOk at ha'; simpa using ha'
  by_cases hf : thereB its key = false
  ·have he : delE its key = 3 := by unfold delE; rw [if_neg ha, if_pos hf]
   have hl : delL its key = its := by unfold delL; rw [he]; rfl
   rw [he, hl]
   refine (del_none sb en tr mp xs its sk key w h.row h.ent h.rise (by have := h.len; omega) hK hk.1 hk.2 hf).mono ?_
   rintro e w' ⟨rfl, hb⟩
   exact ⟨rfl, en, xs, h.below hb, Frame.of_below_all hb, fun k hk _ => hk⟩
  ·have ht : thereB its key = true := (Bool.not_eq_false _).mp hf
   have he : delE its key = 0 := by unfold delE; rw [if_neg ha, if_neg hf]
   have hl : delL its key = delN its key := by unfold delL; rw [he]; rfl
   rw [he, hl]
   have hpos := thereB_lt ht
   obtain ⟨ea, n, cap⟩ := en
   obtain ⟨hen, _, _, had⟩ := owns_cap (a := ea) (n' := n) (cap := cap) h.ent.own
   obtain ⟨g, rfl, _⟩ : ∃ g, ea = some ⟨g, 0, none⟩ ∧ True := by
    rcases had with ⟨_, h1, _⟩ | ⟨g, h1, _⟩
    ·omega
    ·exact ⟨g, h1, trivial⟩
   refine (del_some sb g n cap tr mp xs its sk key w h.row (fun k hk e => h.entf k hk (Or.inl e)) h.ent h.rise (by have := h.len; omega) hK hk.1 hk.2 ht).mono ?_
   rintro e w' ⟨rfl, en', xs', g1, g2, g3, g4⟩
   have hsb := RowV.lt h.row
   refine ⟨rfl, en', xs', ⟨g1, h.known.frameSb g3 (StoAt.mp_ne h.row h.known), g2, fun k hk hm => ?_, owns_frame h.own g3 (fun k hk e => h.trf k hk (Or.inl e)), h.trf, fun nd hn => ⟨(h.nds nd hn).1.frame g3 (fun k hk e => (h.nds nd hn).2 k hk (Or.inl e)), (h.nds nd hn).2⟩, rising_del h.rise key, ?_, ?_, len_del key h.len⟩, g3, ?_⟩
   ·have hlt := KMut.lt h.known hsb k hm
    exact h.entf k (g4 k hk hlt) hm
   ·intro x hx; exact h.ok x (mem_del hx)
   ·intro x hx; exact h.norm x (mem_del hx)
   ·intro k hk hlt
    rcases hk with hk | hk | hk
    ·exact Or.inl hk
    ·exact Or.inr (Or.inl (g4 k hk hlt))
    ·exact Or.inr (Or.inr hk)
end Go.Proofs.YtekegfbjbainhaaGreat


namespace Go.Proofs.YtekegfbjbainhaaGreat
open Go.RowKit
set_option maxRecDepth 100000 in
set_option maxHeartbeats 1000000 in
theorem refDel_arg (sv : Value) (ak : Option Addr) (nk ck : Nat) (w : World) (hnk : nk ≤ maxLen) (hbad : (decide (1 ≤ nk) && decide (nk ≤ 12)) = false) :
  Calls Tryz.prog 43 #[sv, .slice ak nk ck] w fun e w' => e = .returned (.int .i64 1) ∧ w' = w := by
 go_enter Tryz.func43, Tryz.ntmps43
 go_wp2_with fail
 refine (keyFits_any ak nk ck _ hnk).mono ?_
 rintro e w1 ⟨rfl, rfl⟩
 rw [hbad]
 go_wp2
 go_ret
 exact ⟨rfl, rfl⟩
set_option maxRecDepth 100000 in
set_option maxHeartbeats 1000000 in
theorem refDel_none (sb : Nat) (nowV pastV rootsV : Value) (ak : Option Addr) (ck base : Nat) (l : List ItR) (key : List UInt8) (w : World) (hk1 : 1 ≤ key.length) (hk2 : key.length ≤ 12) (hl : l.length ≤ 60)
  (hR : RefRow w sb nowV pastV rootsV) (hN : OwnI w base nowV l) (hK : SlB w ak key) (hkn : ak = none → ck = 0) (ht : thereB l key = false) :
  Calls Tryz.prog 43 #[.pointer (some ⟨sb, 0, none⟩), .slice ak key.length ck] w fun e w' => e = .returned (.int .i64 3) ∧ ∃ n, w' = w.drewN n := by
 obtain ⟨a, cap, rfl, hs, _⟩ := owns_form hN
 have h0 : w.cell? ⟨sb, 0, none⟩ = some (.slice a l.length cap) := hR.cell 0 (by simp)
 have hcv0 := run_string_SlB (P := Tryz.prog) w 38 9 5 ak key.length ck key Tryz.underlying38 Tryz.underlying5 Tryz.underlying9 rfl hK hkn
 have hf : (decide (1 ≤ key.length) && decide (key.length ≤ 12)) = true := by simp [hk1, hk2]
 have HPl2 : Hid (Calls Tryz.prog 80 #[.pointer (some ⟨sb, 0, none⟩), strV key] w fun e w' => e = .returned (.tuple #[.int .i64 (placeN l key : Int), .bool false]) ∧ ∃ n, w' = w.drewN n) := by have := place_any sb a cap l key w (by omega) h0 hs; rw [ht] at this; exact this
 generalize placeN l key = i at *
 clear hN hR hs
 go_enter Tryz.func43, Tryz.ntmps43
 go_wp2_with fail
 refine (keyFits_any ak _ ck _ (by unfold maxLen; omega)).mono ?_
 rintro e w1 ⟨rfl, hw1⟩
 obtain rfl : w = w1 := hw1.symm
 clear hw1
 rw [hf]
 go_wp2_with fail
 refine HPl2.out.mono ?_
 rintro e w2 ⟨rfl, m, rfl⟩
 go_wp2
 go_ret
 exact ⟨rfl, m, rfl⟩
set_option maxRecDepth 100000 in
set_option maxHeartbeats 1000000 in
theorem refDel_some (sb g n cap : Nat) (pastV rootsV : Value) (ak : Option Addr) (ck base : Nat) (l : List ItR) (key : List UInt8) (w : World) (hk1 : 1 ≤ key.length) (hk2 : key.length ≤ 12) (hl : l.length ≤ 60) (hn : n = l.length)
  (hR : RefRow w sb (.slice (some ⟨g, 0, none⟩) n cap) pastV rootsV) (hN : OwnI w base (.slice (some ⟨g, 0, none⟩) n cap) l) (hK : SlB w ak key) (hkn : ak = none → ck = 0) (ht : thereB l key = true) :
  Calls Tryz.prog 43 #[.pointer (some ⟨sb, 0, none⟩), .slice ak key.length ck] w fun e w' => e = .returned (.int .i64 0) ∧
   ∃ nowV', RefRow w' sb nowV' pastV rootsV ∧ OwnI w' w.heap.size nowV' (delN l key) ∧ Frame (fun k => k = sb) w w' := by
 have hN1 := hN
 rw [hn] at hN1
 obtain ⟨_, hcap, hcm, hform⟩ := owns_cap hN1
 obtain ⟨_, _, hvv, hs, _⟩ := owns_form hN1
 cases hvv
 clear hform hN1
 unfold maxLen at hcm
 have hsb : sb < w.heap.size := hR.lt
 have h0 : w.cell? ⟨sb, 0, none⟩ = some (.slice (some ⟨g, 0, none⟩) n cap) := hR.cell 0 (by simp)
 have hfz : w.frozen? ⟨sb, 0, none⟩ = false := hR.frozen 0
 have hcv0 := run_string_SlB (P := Tryz.prog) w 38 9 5 ak key.length ck key Tryz.underlying38 Tryz.underlying5 Tryz.underlying9 rfl hK hkn
 have hf : (decide (1 ≤ key.length) && decide (key.length ≤ 12)) = true := by simp [hk1, hk2]
 have HP : Hid (delN l key = l.take (placeN l key) ++ l.drop (placeN l key + 1)) := rfl
 have hi := thereB_lt ht
 have HPl2 : Hid (Calls Tryz.prog 80 #[.pointer (some ⟨sb, 0, none⟩), strV key] w fun e w' => e = .returned (.tuple #[.int .i64 (placeN l key : Int), .bool true]) ∧ ∃ n, w' = w.drewN n) := by
  have h0' := h0
  rw [hn] at h0'
  have := place_any sb _ cap l key w (by omega) h0' hs
  rw [ht] at this; exact this
 generalize placeN l key = i at *
 have HST : Hid (SlI w (some ⟨g, 0, none⟩) (l.take i)) := SlI.take hs i (by omega)
 have HSD : Hid (SlI w (some ⟨g, (i + 1) * 3, none⟩) (l.drop (i + 1))) := by have := SlI.drop hs (i + 1) (by omega); rw [Nat.zero_add] at this; exact this
 have HT : Hid (i = (l.take i).length) := by unfold Hid; rw [List.length_take]; omega
 have HD : Hid (n - (i + 1) = (l.drop (i + 1)).length) := by unfold Hid; rw [List.length_drop, hn]
 have HL : Hid ((l.take i).length + 1 + (l.drop (i + 1)).length ≤ 1000) := by unfold Hid; rw [List.length_take, List.length_drop]; omega
 have hiI : (i : Int) + 1 ≤ n := by omega
 have hcl : (n : Int) ≤ cap := by omega
 have hcI : (cap : Int) ≤ 9223372036854775807 := by omega
 have hin : i + 1 ≤ n := by omega
 have hnc : n ≤ cap := by omega
 have HN' : Hid (n = l.length) := hn
 have hi9 : i ≤ 1000 := by omega
 clear hs hn hi hcap hl ht
 by_cases hcj : cap = i + 1
 ·have HSD0 : Hid (SlI w (some ⟨g, 0, none⟩) (l.drop (i + 1))) := by
   unfold Hid; rw [List.drop_eq_nil_of_le (by have := HN'.out; omega)]; exact SlI.none
  have HD0 : Hid (0 = (l.drop (i + 1)).length) := by
   unfold Hid; rw [List.length_drop]; have := HN'.out; omega
  subst hcj
  obtain rfl : n = i + 1 := by omega
  clear hiI hcl hin hnc
  have hi0 : (i : Int) ≤ (i : Int) + 1 := by omega
  have hi1 : (i : Int) ≤ 1000 := by omega
  go_enter Tryz.func43, Tryz.ntmps43
  go_wp2_with fail
  refine (keyFits_any ak _ ck _ (by unfold maxLen; omega)).mono ?_
  rintro e w1 ⟨rfl, hw1⟩
  obtain rfl : w = w1 := hw1.symm
  clear hw1
  rw [hf]
  go_wp2_with fail
  refine HPl2.out.mono ?_
  rintro e w2 ⟨rfl, m, rfl⟩
  clear hcv0
  go_wp2_with (first
   | (at_builtin; refine wp_appendI (by rfl) (.tmp 22) (.tmp 28) (by rfl) w.heap.size (.slice none 0 0) [] (by rfl) (World.ownsRow_nil _ _ _ _) (some ⟨g, 0, none⟩) i (i + 1) (l.take i) (by rfl) HT.out (by exact HST.out) (fun h => by cases h) (by have := HL.out; simp only [List.length_nil]; omega) (by exact Nat.le_refl _) ?_; intro a1 n1 c1 w3 ho1 hf1 hat1; have hB3 : Below w.heap.size w w3 := below_drewN (hf1.below (by exact Nat.le_refl _) (fun k hk => by simp [Value.ownBlock] at hk)); have h03 : w3.cell? ⟨sb, 0, none⟩ = some (.slice (some ⟨g, 0, none⟩) (i + 1) (i + 1)) := (by rw [hB3.cell (p := ⟨sb, 0, none⟩) hsb]; exact h0))
   | (at_builtin; refine wp_appendI (by rfl) (.tmp 31) (.tmp 38) (by rfl) w.heap.size (.slice a1 n1 c1) ([] ++ l.take i) (by rfl) ho1 (some ⟨g, 0, none⟩) 0 0 (l.drop (i + 1)) (by rfl) (by exact HD0.out) (by exact SlV.below_all HSD0.out hB3) (fun h => by cases h) (by have := HL.out; simp only [List.nil_append]; omega) (by have := hB3.size; omega) ?_; intro a3 n3 c3 w5 ho3 hf3 hat3; have hB5 : Below w.heap.size w w5 := hB3.trans (hf3.below (by have := hB3.size; omega) (fun k hk => (ho1.lt k hk).1)); have h05 : w5.cell? ⟨sb, 0, none⟩ = some (.slice (some ⟨g, 0, none⟩) (i + 1) (i + 1)) := (by rw [hB5.cell (p := ⟨sb, 0, none⟩) hsb]; exact h0); have f05 : w5.frozen? ⟨sb, 0, none⟩ = false := (by rw [hB5.frozen (p := ⟨sb, 0, none⟩) hsb]; exact hfz)))
  go_ret
  refine ⟨rfl, _, (hR.below hsb hB5).set 0 _, ?_, (Frame.of_below_all (S := fun k => k = sb) hB5).setCell (p := ⟨sb, 0, none⟩) rfl _⟩
  rw [HP.out]
  exact owns_frame ho3 ((Frame.refl (fun k => k = sb) w5).setCell (p := ⟨sb, 0, none⟩) rfl _) (fun k hk e => by have := (ho3.lt k hk).1; omega)
 ·go_enter Tryz.func43, Tryz.ntmps43
  go_wp2_with fail
  refine (keyFits_any ak _ ck _ (by unfold maxLen; omega)).mono ?_
  rintro e w1 ⟨rfl, hw1⟩
  obtain rfl : w = w1 := hw1.symm
  clear hw1
  rw [hf]
  go_wp2_with fail
  refine HPl2.out.mono ?_
  rintro e w2 ⟨rfl, m, rfl⟩
  clear hcv0
  go_wp2_with (first
   | (at_builtin; refine wp_appendI (by rfl) (.tmp 22) (.tmp 28) (by rfl) w.heap.size (.slice none 0 0) [] (by rfl) (World.ownsRow_nil _ _ _ _) (some ⟨g, 0, none⟩) i cap (l.take i) (by rfl) HT.out (by exact HST.out) (fun h => by cases h) (by have := HL.out; simp only [List.length_nil]; omega) (by exact Nat.le_refl _) ?_; intro a1 n1 c1 w3 ho1 hf1 hat1; have hB3 : Below w.heap.size w w3 := below_drewN (hf1.below (by exact Nat.le_refl _) (fun k hk => by simp [Value.ownBlock] at hk)); have h03 : w3.cell? ⟨sb, 0, none⟩ = some (.slice (some ⟨g, 0, none⟩) n cap) := (by rw [hB3.cell (p := ⟨sb, 0, none⟩) hsb]; exact h0))
   | (at_builtin; refine wp_appendI (by rfl) (.tmp 31) (.tmp 38) (by rfl) w.heap.size (.slice a1 n1 c1) ([] ++ l.take i) (by rfl) ho1 (some ⟨g, (i + 1) * 3, none⟩) (n - (i + 1)) (cap - (i + 1)) (l.drop (i + 1)) (by rfl) (by exact HD.out) (by exact SlV.below_all HSD.out hB3) (fun h => by cases h) (by have := HL.out; simp only [List.nil_append]; omega) (by have := hB3.size; omega) ?_; intro a3 n3 c3 w5 ho3 hf3 hat3; have hB5 : Below w.heap.size w w5 := hB3.trans (hf3.below (by have := hB3.size; omega) (fun k hk => (ho1.lt k hk).1)); have h05 : w5.cell? ⟨sb, 0, none⟩ = some (.slice (some ⟨g, 0, none⟩) n cap) := (by rw [hB5.cell (p := ⟨sb, 0, none⟩) hsb]; exact h0); have f05 : w5.frozen? ⟨sb, 0, none⟩ = false := (by rw [hB5.frozen (p := ⟨sb, 0, none⟩) hsb]; exact hfz)))
  go_ret
  refine ⟨rfl, _, (hR.below hsb hB5).set 0 _, ?_, (Frame.of_below_all (S := fun k => k = sb) hB5).setCell (p := ⟨sb, 0, none⟩) rfl _⟩
  rw [HP.out]
  exact owns_frame ho3 ((Frame.refl (fun k => k = sb) w5).setCell (p := ⟨sb, 0, none⟩) rfl _) (fun k hk e => by have := (ho3.lt k hk).1; omega)
end Go.Proofs.YtekegfbjbainhaaGreat


namespace Go.Proofs.YtekegfbjbainhaaGreat
open Go.RowKit
def refF (rb : Nat) (now past roots : SlR) (pastL : List (SlR × List ItR)) (k : Nat) : Prop := k = rb ∨ now.val.ownBlock = some k ∨ past.val.ownBlock = some k ∨ roots.val.ownBlock = some k ∨ ∃ q ∈ pastL, q.1.val.ownBlock = some k
theorem RefAt.lt {w : World} {rb base : Nat} {now past roots : SlR} {nowL : List ItR} {pastL : List (SlR × List ItR)} {rootsL : List (List UInt8)} (h : RefAt w rb base now past roots nowL pastL rootsL) : ∀ k, refF rb now past roots pastL k → k < w.heap.size := fun k hk => by
 rcases hk with rfl | hk | hk | hk | ⟨q, hq, hk⟩
 ·exact RowV.lt h.row
 ·exact (World.ownsRow.lt h.hnow k hk).2
 ·exact (h.hpast.lt k hk).2
 ·exact (h.hroots.lt k hk).2
 ·exact (World.ownsRow.lt (h.hpok q hq) k hk).2
theorem RefAt.frame {w W : World} {S : Nat → Prop} {rb base : Nat} {now past roots : SlR} {nowL : List ItR} {pastL : List (SlR × List ItR)} {rootsL : List (List UInt8)} (h : RefAt w rb base now past roots nowL pastL rootsL) (hf : Frame S w W) (hS : ∀ k, refF rb now past roots pastL k → ¬ S k) : RefAt W rb base now past roots nowL pastL rootsL :=
 ⟨RowV.of_block h.row (hf.block _ (RowV.lt h.row) (hS _ (Or.inl rfl))), owns_frame h.hnow hf (fun k hk => hS k (Or.inr (Or.inl hk))), owns_frame h.hpast hf (fun k hk => hS k (Or.inr (Or.inr (Or.inl hk)))), fun q hq => owns_frame (h.hpok q hq) hf (fun k hk => hS k (Or.inr (Or.inr (Or.inr (Or.inr ⟨q, hq, hk⟩))))), owns_frame h.hroots hf (fun k hk => hS k (Or.inr (Or.inr (Or.inr (Or.inl hk))))), h.h8⟩
theorem RefAt.renow {w w' : World} {rb : Nat} {now past roots : SlR} {nowL l' : List ItR} {pastL : List (SlR × List ItR)} {rootsL : List (List UInt8)} (h : RefAt w rb 0 now past roots nowL pastL rootsL) {v : Value} (hr : RefRow w' rb v past.val roots.val) (ho : OwnI w' w.heap.size v l') (hf : Frame (fun k => k = rb) w w') :
  ∃ now', RefAt w' rb 0 now' past roots l' pastL rootsL ∧ (∀ k, refF rb now' past roots pastL k → k < w.heap.size → refF rb now past roots pastL k) := by
 obtain ⟨a, cap, rfl, _⟩ := owns_form ho
 refine ⟨⟨a, l'.length, cap⟩, ⟨hr, owns_base ho (fun k _ => Nat.zero_le k), owns_frame h.hpast hf (fun k hk e => owns_ne h.hpast h.row (by decide) (by rw [hk, e])), fun q hq => owns_frame (h.hpok q hq) hf (fun k hk e => owns_ne (h.hpok q hq) h.row (by decide) (by rw [hk, e])), owns_frame h.hroots hf (fun k hk e => owns_ne h.hroots h.row (by decide) (by rw [hk, e])), h.h8⟩, ?_⟩
 intro k hk hlt
 rcases hk with hk | hk | hk
 ·exact Or.inl hk
 ·have := (World.ownsRow.lt ho k hk).1; omega
 ·exact Or.inr (Or.inr hk)
theorem ref_put (rb : Nat) (now past roots : SlR) (nowL : List ItR) (pastL : List (SlR × List ItR)) (rootsL : List (List UInt8)) (sk sv : SlR) (key value : List UInt8) (w : World) (h : RefAt w rb 0 now past roots nowL pastL rootsL) (hl : nowL.length ≤ 60) (hK : BS w sk key) (hV : BS w sv value) (hkm : key.length ≤ maxLen) (hvm : value.length ≤ maxLen) (hkn : sk.a = none → sk.cap = 0) (hvn : sv.a = none → sv.cap = 0) :
  Calls Tryz.prog 41 #[.pointer (some ⟨rb, 0, none⟩), sk.val, sv.val] w fun e w' => e = .returned (.int .i64 (putE nowL key value : Int)) ∧ ∃ now', RefAt w' rb 0 now' past roots (putL nowL key value) pastL rootsL ∧ Frame (fun k => k = rb) w w' ∧ (∀ k, refF rb now' past roots pastL k → k < w.heap.size → refF rb now past roots pastL k) := by
 by_cases ha : (keyOk key && decide (value.length ≤ 12)) = false
 ·have he : putE nowL key value = 1 := by unfold putE; rw [if_pos ha]
  have hl : putL nowL key value = nowL := by unfold putL; rw [he]; rfl
  rw [he, hl]
  refine (refPut_arg (.pointer (some ⟨rb, 0, none⟩)) sk.a sv.a sk.n sk.cap sv.n sv.cap w (by rw [hK.n]; exact hkm) (by rw [hV.n]; exact hvm) (by rw [hK.n, hV.n]; exact ha)).mono ?_
  rintro e w' ⟨rfl, rfl⟩
  exact ⟨rfl, now, h, Frame.refl _ _, fun k hk _ => hk⟩
 ·have ha' : keyOk key = true ∧ value.length ≤ 12 := by
   have := (Bool.not_eq_false _).mp ha
   simpa using this
  have hk : 1 ≤ key.length ∧ key.length ≤ 12 := by have := ha'.1; unfold keyOk at this; simpa using this
  obtain ⟨ka, kn, kc⟩ := sk
  obtain ⟨va, vn, vc⟩ := sv
  have ekn : kn = key.length := hK.n
  have evn : vn = value.length := hV.n
  subst ekn evn
  by_cases hf : thereB nowL key = false ∧ nowL.length = 60
  ·have he : putE nowL key value = 2 := by unfold putE; rw [if_neg ha, if_pos hf]
   have hl : putL nowL key value = nowL := by unfold putL; rw [he]; rfl
   rw [he, hl]
   refine (refPut_full rb now.val past.val roots.val ka va kc _ vc 0 nowL key w hk.1 hk.2 ha'.2 hf.2 h.row h.hnow hK.sl hkn hf.1).mono ?_
   rintro e w' ⟨rfl, n, rfl⟩
   have hb : Below w.heap.size w (w.drewN n) := have hb0 := Below.refl w.heap.size w; ⟨hb0.os, hb0.tape, hb0.output, hb0.size, hb0.block⟩
   exact ⟨rfl, now, h.below hb, Frame.of_below_all hb, fun k hk _ => hk⟩
  ·have he : putE nowL key value = 0 := by unfold putE; rw [if_neg ha, if_neg hf]
   have hle : putL nowL key value = putN nowL key value := by unfold putL; rw [he]; rfl
   rw [he, hle]
   have hfl : thereB nowL key = false → nowL.length < 60 := fun ht => by
    by_cases h6 : nowL.length = 60
    ·exact absurd ⟨ht, h6⟩ hf
    ·omega
   obtain ⟨na, nn, nc⟩ := now
   obtain ⟨hnn, hnc, _, had⟩ := owns_cap (a := na) (n' := nn) (cap := nc) h.hnow
   rcases had with ⟨rfl, hz, hcz⟩ | ⟨g, rfl, _, _⟩
   ·have hnil : nowL = [] := List.length_eq_zero_iff.1 hz
    subst hnil
    subst hcz
    rw [hz] at hnn; subst hnn
    refine (refPut_nil rb past.val roots.val ka va kc vc key value w hk.1 hk.2 ha'.2 h.row hK.sl hV.sl hkn hvn).mono ?_
    rintro e w' ⟨rfl, v, g1, g2, g3⟩
    obtain ⟨now', g4, g5⟩ := RefAt.renow h g1 g2 g3
    exact ⟨rfl, now', g4, g3, g5⟩
   ·refine (refPut_some rb g nn nc past.val roots.val ka va kc vc 0 nowL key value w hk.1 hk.2 ha'.2 hl hnn h.row h.hnow hK.sl hV.sl hkn hvn hfl).mono ?_
    rintro e w' ⟨rfl, v, g1, g2, g3⟩
    obtain ⟨now', g4, g5⟩ := RefAt.renow h g1 g2 g3
    exact ⟨rfl, now', g4, g3, g5⟩
theorem ref_del (rb : Nat) (now past roots : SlR) (nowL : List ItR) (pastL : List (SlR × List ItR)) (rootsL : List (List UInt8)) (sk : SlR) (key : List UInt8) (w : World) (h : RefAt w rb 0 now past roots nowL pastL rootsL) (hl : nowL.length ≤ 60) (hK : BS w sk key) (hkm : key.length ≤ maxLen) (hkn : sk.a = none → sk.cap = 0) :
  Calls Tryz.prog 43 #[.pointer (some ⟨rb, 0, none⟩), sk.val] w fun e w' => e = .returned (.int .i64 (delE nowL key : Int)) ∧ ∃ now', RefAt w' rb 0 now' past roots (delL nowL key) pastL rootsL ∧ Frame (fun k => k = rb) w w' ∧ (∀ k, refF rb now' past roots pastL k → k < w.heap.size → refF rb now past roots pastL k) := by
 by_cases ha : keyOk key = false
 ·have he : delE nowL key = 1 := by unfold delE; rw [if_pos ha]
  have hl : delL nowL key = nowL := by unfold delL; rw [he]; rfl
  rw [he, hl]
  refine (refDel_arg (.pointer (some ⟨rb, 0, none⟩)) sk.a sk.n sk.cap w (by rw [hK.n]; exact hkm) (by rw [hK.n]; exact ha)).mono ?_
  rintro e w' ⟨rfl, rfl⟩
  exact ⟨rfl, now, h, Frame.refl _ _, fun k hk _ => hk⟩
 ·have ha' : keyOk key = true := (Bool.not_eq_false _).mp ha
  have hk : 1 ≤ key.length ∧ key.length ≤ 12 := by unfold keyOk at ha'; simpa using ha'
  obtain ⟨ka, kn, kc⟩ := sk
  have ekn : kn = key.length := hK.n
  subst ekn
  by_cases hf : thereB nowL key = false
  ·have he : delE nowL key = 3 := by unfold delE; rw [if_neg ha, if_pos hf]
   have hle : delL nowL key = nowL := by unfold delL; rw [he]; rfl
   rw [he, hle]
   refine (refDel_none rb now.val past.val roots.val ka kc 0 nowL key w hk.1 hk.2 hl h.row h.hnow hK.sl hkn hf).mono ?_
   rintro e w' ⟨rfl, n, rfl⟩
   have hb : Below w.heap.size w (w.drewN n) := have hb0 := Below.refl w.heap.size w; ⟨hb0.os, hb0.tape, hb0.output, hb0.size, hb0.block⟩
   exact ⟨rfl, now, h.below hb, Frame.of_below_all hb, fun k hk _ => hk⟩
  ·have ht : thereB nowL key = true := (Bool.not_eq_false _).mp hf
   have he : delE nowL key = 0 := by unfold delE; rw [if_neg ha, if_neg hf]
   have hle : delL nowL key = delN nowL key := by unfold delL; rw [he]; rfl
   rw [he, hle]
   have hpos := thereB_lt ht
   obtain ⟨na, nn, nc⟩ := now
   obtain ⟨hnn, hnc, _, had⟩ := owns_cap (a := na) (n' := nn) (cap := nc) h.hnow
   rcases had with ⟨rfl, hz, hcz⟩ | ⟨g, rfl, _, _⟩
   ·omega
   ·refine (refDel_some rb g nn nc past.val roots.val ka kc 0 nowL key w hk.1 hk.2 hl hnn h.row h.hnow hK.sl hkn ht).mono ?_
    rintro e w' ⟨rfl, v, g1, g2, g3⟩
    obtain ⟨now', g4, g5⟩ := RefAt.renow h g1 g2 g3
    exact ⟨rfl, now', g4, g3, g5⟩
end Go.Proofs.YtekegfbjbainhaaGreat


namespace Go.Proofs.YtekegfbjbainhaaGreat
open Go.RowKit
structure PastOk (p : List ItR) : Prop where
 rise : Rising p
 ok : ∀ x ∈ p, ItOk x
 norm : ∀ x ∈ p, x.below = 0
 len : p.length ≤ 60
def treeF (T : List (List (List Nd))) (k : Nat) : Prop := ∃ L ∈ T, ∃ nds ∈ L, ∃ x ∈ nds, ndF x k
structure StoT (w : World) (sb : Nat) (mp : Option Nat) (es : List MEn) (T : List (List (List Nd))) (tds : List Nd) (pp : List (List ItR)) : Prop where
 good : ∀ L ∈ T, ∀ nds ∈ L, ∀ x ∈ nds, NdOk w x ∧ ∀ k, ndF x k → ¬ KMut sb mp es k
 tl : T.length = tds.length
 pl : pp.length = tds.length
 rep : ∀ (i : Nat) (L : List (List Nd)) (p : List ItR) (nd : Nd), T[i]? = some L → pp[i]? = some p → tds[i]? = some nd → TreeRep (grownN p) L ∧ (∃ ℓ, L.length = ℓ + 1 ∧ L[ℓ]? = some [nd]) ∧ PastOk p
theorem StoT.lt {w : World} {sb : Nat} {mp : Option Nat} {es : List MEn} {T : List (List (List Nd))} {tds : List Nd} {pp : List (List ItR)} (h : StoT w sb mp es T tds pp) : ∀ k, treeF T k → k < w.heap.size := fun k ⟨L, hL, nds, hn, x, hx, hk⟩ => (h.good L hL nds hn x hx).1.lt k hk
theorem StoT.frame {w W : World} {S : Nat → Prop} {sb : Nat} {mp : Option Nat} {es : List MEn} {T : List (List (List Nd))} {tds : List Nd} {pp : List (List ItR)} (h : StoT w sb mp es T tds pp) (hf : Frame S w W) (hS : ∀ k, treeF T k → ¬ S k) : StoT W sb mp es T tds pp :=
 ⟨fun L hL nds hn x hx => ⟨(h.good L hL nds hn x hx).1.frame hf (fun k hk => hS k ⟨L, hL, nds, hn, x, hx, hk⟩), (h.good L hL nds hn x hx).2⟩, h.tl, h.pl, h.rep⟩
theorem StoT.next {w W : World} {S : Nat → Prop} {sb : Nat} {mp mp' : Option Nat} {es es' : List MEn} {T : List (List (List Nd))} {tds : List Nd} {pp : List (List ItR)} (h : StoT w sb mp es T tds pp) (hf : Frame S w W) (hS : ∀ k, S k → KMut sb mp es k) (hM : ∀ k, KMut sb mp' es' k → k < w.heap.size → KMut sb mp es k) : StoT W sb mp' es' T tds pp :=
 ⟨fun L hL nds hn x hx => ⟨(h.good L hL nds hn x hx).1.frame hf (fun k hk e => (h.good L hL nds hn x hx).2 k hk (hS k e)), fun k hk e => (h.good L hL nds hn x hx).2 k hk (hM k e ((h.good L hL nds hn x hx).1.lt k hk))⟩, h.tl, h.pl, h.rep⟩
theorem StoT.push {w : World} {sb ℓ : Nat} {mp : Option Nat} {es : List MEn} {T : List (List (List Nd))} {tds : List Nd} {pp : List (List ItR)} {L : List (List Nd)} {nd : Nd} {p : List ItR} (h : StoT w sb mp es T tds pp) (hL : ∀ nds ∈ L, ∀ x ∈ nds, NdOk w x ∧ ∀ k, ndF x k → ¬ KMut sb mp es k) (h1 : TreeRep (grownN p) L) (h2 : L.length = ℓ + 1) (h3 : L[ℓ]? = some [nd]) (h4 : PastOk p) :
  StoT w sb mp es (T ++ [L]) (tds ++ [nd]) (pp ++ [p]) := by
 refine ⟨fun M hM nds hn x hx => ?_, by simp [h.tl], by simp [h.pl], fun i M q n e1 e2 e3 => ?_⟩
 ·rcases List.mem_append.1 hM with hM | hM
  ·exact h.good M hM nds hn x hx
  ·simp only [List.mem_singleton] at hM; subst hM; exact hL nds hn x hx
 ·by_cases hi : i < T.length
  ·rw [List.getElem?_append_left hi] at e1
   rw [List.getElem?_append_left (by rw [h.pl, ← h.tl]; exact hi)] at e2
   rw [List.getElem?_append_left (by rw [← h.tl]; exact hi)] at e3
   exact h.rep i M q n e1 e2 e3
  ·have hi' : i = T.length := by
    have := (List.getElem?_eq_some_iff.1 e1).1
    simp at this; omega
   subst hi'
   have e2' := h.tl
   have e3' := h.pl
   rw [List.getElem?_append_right (Nat.le_refl _), Nat.sub_self] at e1
   rw [List.getElem?_append_right (by omega), show T.length - pp.length = 0 by omega] at e2
   rw [List.getElem?_append_right (by omega), show T.length - tds.length = 0 by omega] at e3
   simp at e1 e2 e3
   subst e1 e2 e3
   exact ⟨h1, ⟨ℓ, h2, h3⟩, h4⟩
def comsF : Nat → List (List UInt8) → List Value
 | 0, _ => []
 | n + 1, rl => comsF n rl ++ commitC n (rl.getD n []) (n + 1) (sumF 42 (rl.take (n + 1)))
def comsC (rl : List (List UInt8)) : List Value := comsF rl.length rl
theorem comsF_append : ∀ (n : Nat) (rl r : List (List UInt8)), n ≤ rl.length → comsF n (rl ++ r) = comsF n rl
 | 0, _, _, _ => rfl
 | n + 1, rl, r, h => by
  unfold comsF
  rw [comsF_append n rl r (by omega), List.take_append_of_le_length h]
  have e : (rl ++ r).getD n [] = rl.getD n [] := by
   simp only [List.getD_eq_getElem?_getD]
   rw [List.getElem?_append_left (by omega)]
  rw [e]
theorem comsC_snoc (rl : List (List UInt8)) (r : List UInt8) : comsC (rl ++ [r]) = comsC rl ++ commitC rl.length r (rl.length + 1) (sumF 42 (rl ++ [r])) := by
 unfold comsC
 rw [List.length_append, List.length_singleton, comsF, comsF_append _ _ _ (Nat.le_refl _), List.take_of_length_le (by simp)]
 have e : (rl ++ [r]).getD rl.length [] = r := by simp
 rw [e]
end Go.Proofs.YtekegfbjbainhaaGreat


namespace Go.Proofs.YtekegfbjbainhaaGreat
open Go.RowKit
attribute [local go_sem ↓] Go.wp_at_zero Go.wp_at_succ
structure ComSt (w W : World) (sb base rb db : Nat) (now past roots : SlR) (nowL : List ItR) (pastL : List (SlR × List ItR)) (rootsL : List (List UInt8)) (d : List UInt8) : Prop where
 ref : RefAt W sb base now past roots nowL pastL rootsL
 res : RowV W rb 103 zero18
 dig : RowV W db 36 (d.map u8c)
theorem Frame.into {S T : Nat → Prop} {a b c : World} (h : Frame S a b) (k : Frame T b c) (hT : ∀ x, x < a.heap.size → T x → S x) : Frame S a c :=
 ⟨k.os.trans h.os, k.tape.trans h.tape, k.output.trans h.output, Nat.le_trans h.size k.size, fun i hi hs => (k.block i (Nat.lt_of_lt_of_le hi h.size) (fun ht => hs (hT i hi ht))).trans (h.block i hi hs)⟩
theorem RefAt.apart {W W' : World} {sb base : Nat} {now past roots : SlR} {nowL : List ItR} {pastL : List (SlR × List ItR)} {rootsL : List (List UInt8)} (h : RefAt W sb base now past roots nowL pastL rootsL) {b T : Nat} {cs : List Value} (hr : RowV W b T cs) (hf : Frame (fun k => k = b) W W')
  (hb : b ≠ sb) (h2 : 84 ≠ T) (h3 : 78 ≠ T) (h4 : 36 ≠ T) : RefAt W' sb base now past roots nowL pastL rootsL := by
 have key : ∀ {base' e size n : Nat} {v : Value} {xs : List Value}, W.ownsRow base' e size v n xs → e ≠ T → W'.ownsRow base' e size v n xs := fun {base' e size n v xs} hx h1 =>
  owns_frame hx hf (fun k hk e' => owns_ne hx hr h1 (by rw [hk, e']))
 exact ⟨RowV.of_block h.row (hf.block _ (RowV.lt h.row) (fun e => hb e.symm)), key h.hnow h2, key h.hpast h3, fun q hq => key (h.hpok q hq) h2, key h.hroots h4, h.h8⟩
def comC (n : Nat) (x0 x1 x2 x3 x4 x5 x6 x7 s0 s1 s2 s3 s4 s5 s6 s7 : UInt8) : List Value := [(.int .i64 (n : Int)), (.int .u8 (x0.toNat : Int)), (.int .u8 (x1.toNat : Int)), (.int .u8 (x2.toNat : Int)), (.int .u8 (x3.toNat : Int)), (.int .u8 (x4.toNat : Int)), (.int .u8 (x5.toNat : Int)), (.int .u8 (x6.toNat : Int)), (.int .u8 (x7.toNat : Int)), (.int .i64 (IntKind.i64.wrap ((n : Int) + 1))), (.int .u8 (s0.toNat : Int)), (.int .u8 (s1.toNat : Int)), (.int .u8 (s2.toNat : Int)), (.int .u8 (s3.toNat : Int)), (.int .u8 (s4.toNat : Int)), (.int .u8 (s5.toNat : Int)), (.int .u8 (s6.toNat : Int)), (.int .u8 (s7.toNat : Int))]
theorem comC_one {n : Nat} {x0 x1 x2 x3 x4 x5 x6 x7 s0 s1 s2 s3 s4 s5 s6 s7 : UInt8} : ∀ v ∈ comC n x0 x1 x2 x3 x4 x5 x6 x7 s0 s1 s2 s3 s4 s5 s6 s7, v.oneCell' = true := by
 intro v hv
 simp only [comC, List.mem_cons, List.not_mem_nil, or_false] at hv
 rcases hv with rfl | rfl | rfl | rfl | rfl | rfl | rfl | rfl | rfl | rfl | rfl | rfl | rfl | rfl | rfl | rfl | rfl | rfl <;> rfl
theorem step_storeR {ops : Array Oper} {o : Oper} {a : Act} {w : World} {K : Act → World → Prop} {Q : Exit → Act → World → Prop} {E : Prop} (hgd : o.guard = none) (T : TypeId) (x y : Operand) (ho : o.op = .store T x y)
  (b : Nat) (hx : a.eval x = .pointer (some ⟨b, 0, none⟩)) (cs : List Value) (hy : a.eval y = .agg cs.toArray) {l : List Value} (hR : RowV w b T l) (hl : l.length = cs.length) (hi : (Tryz.prog.info? T).map (·.size) = some cs.length) (h1 : ∀ v ∈ cs, v.oneCell' = true)
  (h : ∀ w', RowV w' b T cs → Frame (fun k => k = b) w w' → K (a.put o.dst undef) w') : if Region.wanted o (yielded ops a.tmps) = true then Oper.wp Tryz.prog o a w K Q else E := by
 have hw : Region.wanted o (yielded ops a.tmps) = true := by simp [Region.wanted, hgd]
 rw [if_pos hw]
 refine wp_store_mid T x y ho b 0 cs.toArray hx hy (by simpa using hR.there cs.length hl.symm) (by simpa using hi) (all_oneCell_toArray h1) ?_
 exact h _ (hR.setAll _ hl.symm) (Frame.setCells (S := fun k => k = b) rfl _ _ _ (Frame.refl _ _))
theorem RowV.cellK {w : World} {b t : Nat} {l : List Value} (h : RowV w b t l) (k : Nat) (v : Value) (hv : l[k]? = some v) : w.cell? ⟨b, k, none⟩ = some v := by
 obtain ⟨hk, rfl⟩ := List.getElem?_eq_some_iff.1 hv
 exact RowV.cell h k hk
set_option maxRecDepth 100000 in
set_option maxHeartbeats 10000000 in
theorem refCommit_ok (sb base : Nat) (now past roots : SlR) (nowL : List ItR) (pastL : List (SlR × List ItR)) (rootsL : List (List UInt8)) (w : World) (h : RefAt w sb base now past roots nowL pastL rootsL) (h40 : rootsL.length < 40) (hp40 : pastL.length < 40) (hl : nowL.length ≤ 60) (hok : ∀ x ∈ nowL, ItOk x) (hbase : base ≤ w.heap.size) :
  Calls Tryz.prog 45 #[.pointer (some ⟨sb, 0, none⟩)] w fun e w' => e = .returned (.tuple #[.agg (commitC rootsL.length (rootB nowL) (rootsL.length + 1) (sumF 42 (rootsL ++ [rootB nowL]))).toArray, .int .i64 0]) ∧
   ∃ past' roots', RefAt w' sb base now past' roots' nowL (pastL ++ [(now, nowL)]) (rootsL ++ [rootB nowL]) ∧ Frame (fun k => k = sb ∨ past.val.ownBlock = some k ∨ roots.val.ownBlock = some k) w w' ∧
    (∀ k, past'.val.ownBlock = some k → k < w.heap.size → past.val.ownBlock = some k) ∧ (∀ k, roots'.val.ownBlock = some k → k < w.heap.size → roots.val.ownBlock = some k) := by
 have hsb := RowV.lt h.row
 have c0 : w.cell? ⟨sb, 0, none⟩ = some (.slice now.a now.n now.cap) := RowV.cell h.row 0 (by simp)
 have c2 : w.cell? ⟨sb, 2, none⟩ = some (.slice roots.a roots.n roots.cap) := RowV.cell h.row 2 (by simp)
 have hrn : roots.n = rootsL.length := (SlV.ofOwn h.hroots).2
 have HRN : Hid (roots.n = rootsL.length) := hrn
 have hr40 : ((roots.n : Int) == 40) = false := by rw [hrn]; simp; omega
 have hrI : (roots.n : Int) ≤ 40 := by rw [hrn]; omega
 have HWR : Hid (IntKind.i64.wrap ((roots.n : Int) + 1) = (roots.n : Int) + 1) := by
  unfold Hid; simp only [IntKind.wrap_i64]; omega
 clear hrn
 have hA : Below w.heap.size w (w.alloc (.cells #[.int .i64 0, .int .u8 0, .int .u8 0, .int .u8 0, .int .u8 0, .int .u8 0, .int .u8 0, .int .u8 0, .int .u8 0, .int .i64 0, .int .u8 0, .int .u8 0, .int .u8 0, .int .u8 0, .int .u8 0, .int .u8 0, .int .u8 0, .int .u8 0] 103)) := (Below.refl _ _).alloc (Nat.le_refl _) _
 have hsn : SlI (w.alloc (.cells #[.int .i64 0, .int .u8 0, .int .u8 0, .int .u8 0, .int .u8 0, .int .u8 0, .int .u8 0, .int .u8 0, .int .u8 0, .int .i64 0, .int .u8 0, .int .u8 0, .int .u8 0, .int .u8 0, .int .u8 0, .int .u8 0, .int .u8 0, .int .u8 0] 103)) now.a nowL := SlV.below_all (SlV.ofOwn h.hnow).1 hA
 have HGC : Hid (Calls _ _ _ _ _) := grown_any now nowL _ (SlV.ofOwn h.hnow).2 (by omega) hok hsn
 obtain ⟨dd, hdd⟩ : ∃ dd, dd = rootB nowL := ⟨_, rfl⟩
 rw [← hdd]
 have hdl : dd.length = 8 := by rw [hdd]; rfl
 obtain ⟨x0, x1, x2, x3, x4, x5, x6, x7, rfl⟩ := list8 dd hdl
 have HV : Hid (digV (codeB (rootLevel nowL) (rootPage nowL)) = .agg #[.int .u8 (x0.toNat : Int), .int .u8 (x1.toNat : Int), .int .u8 (x2.toNat : Int), .int .u8 (x3.toNat : Int), .int .u8 (x4.toNat : Int), .int .u8 (x5.toNat : Int), .int .u8 (x6.toNat : Int), .int .u8 (x7.toNat : Int)]) := by
  unfold Hid; rw [digV_eq, show digB (codeB (rootLevel nowL) (rootPage nowL)) = rootB nowL from rfl, ← hdd]; rfl
 have HSM : Hid ((sumF 42 (rootsL ++ [[x0, x1, x2, x3, x4, x5, x6, x7]])).length = 8) := sumF_length 41 _
 obtain ⟨ss, hss⟩ : ∃ ss, ss = sumF 42 (rootsL ++ [[x0, x1, x2, x3, x4, x5, x6, x7]]) := ⟨_, rfl⟩
 rw [← hss]
 have HSS : Hid (ss = sumF 42 (rootsL ++ [[x0, x1, x2, x3, x4, x5, x6, x7]])) := hss
 clear hdd hdl hss
 go_enter Tryz.func45, Tryz.ntmps45
 go_wp2_with fail
 refine HGC.out.mono ?_
 rintro e w1 ⟨lv, rfl, lvls, hoL, hlL, hnL, hb1⟩
 obtain ⟨m, s, q, ql, rest, hm1, hm6, hlast, hrl, hrp, hqlen, hqok⟩ := lvls_last hnL hok (by omega)
 rw [hrl, hrp] at HV
 have hB1 : Below w.heap.size w w1 := hA.trans (hb1.mono (by simp))
 have hAl : ∀ o : Obj, Below w1.heap.size w1 (w1.alloc o) := fun o => (Below.refl _ _).alloc (Nat.le_refl _) o
 have hlm : LvOk w1 (w.alloc (.cells #[.int .i64 0, .int .u8 0, .int .u8 0, .int .u8 0, .int .u8 0, .int .u8 0, .int .u8 0, .int .u8 0, .int .u8 0, .int .i64 0, .int .u8 0, .int .u8 0, .int .u8 0, .int .u8 0, .int .u8 0, .int .u8 0, .int .u8 0, .int .u8 0] 103)).heap.size m (s, (q, ql) :: rest) := by
  have h1 := hlL m (by omega)
  rw [List.getElem?_eq_getElem (by omega)] at hlast
  rw [Option.some.inj hlast] at h1
  exact h1
 have HRC : Hid (Calls _ _ _ _ _) := root_any lv lvls m s q ql rest _ (w1.alloc (.cells #[.slice lv.a lv.n lv.cap] 146)) (owns_below hoL (hAl _)) hm1 (by omega) hlast (hlm.below (hAl _))
 have hpq : OwnI w1 (w.alloc (.cells #[.int .i64 0, .int .u8 0, .int .u8 0, .int .u8 0, .int .u8 0, .int .u8 0, .int .u8 0, .int .u8 0, .int .u8 0, .int .i64 0, .int .u8 0, .int .u8 0, .int .u8 0, .int .u8 0, .int .u8 0, .int .u8 0, .int .u8 0, .int .u8 0] 103)).heap.size q.val ql := hlm.2 (q, ql) (by simp)
 clear HGC hsn hnL hlast
 go_wp2_with fail
 refine HRC.out.mono ?_
 rintro e w2 ⟨rfl, hb2⟩
 have hB2 : Below w1.heap.size w1 w2 := (hAl (.cells #[.slice lv.a lv.n lv.cap] 146)).trans (hb2.mono (by simp))
 have hsq2 : SlI w2 q.a ql := SlV.below_all (SlV.ofOwn (s := q) hpq).1 hB2
 have HCC : Hid (Calls _ _ _ _ _) := code_any m q.a q.n q.cap ql w2 (SlV.ofOwn (s := q) hpq).2 hqlen (by omega) hqok hsq2
 clear HRC
 go_wp2_with fail
 refine HCC.out.mono ?_
 rintro e w3 ⟨a3, n3, c3, rfl, ho3, hb3⟩
 obtain ⟨hs3, hn3, _⟩ := ho3.sl
 have HN3 : Hid (n3 = (codeB m ql).length) := hn3
 have HCL : Hid ((codeB m ql).length ≤ maxLen) := by
  have := prefB_length m ql.length ql hqok
  unfold Hid maxLen; unfold prefB at this; unfold codeB; omega
 clear hn3 HCC
 go_wp2_with fail
 refine (refDigest_any a3 n3 c3 (codeB m ql) w3 HN3.out HCL.out hs3).mono ?_
 rintro e w4 ⟨rfl, hb4⟩
 rw [HV.out]
 have hB3 : Below w1.heap.size w1 w3 := hB2.trans (hb3.mono hB2.size)
 have hB4 : Below w1.heap.size w1 w4 := hB3.trans (hb4.mono hB3.size)
 have hBw4 : Below w.heap.size w w4 := hB1.trans (hB4.mono hB1.size)
 have hres1 : RowV w1 w.heap.size 103 zero18 := (RowV.new w 103 zero18).below (by simp) hb1
 have hst5 : ComSt w (w4.alloc (.cells #[.int .u8 (x0.toNat : Int), .int .u8 (x1.toNat : Int), .int .u8 (x2.toNat : Int), .int .u8 (x3.toNat : Int), .int .u8 (x4.toNat : Int), .int .u8 (x5.toNat : Int), .int .u8 (x6.toNat : Int), .int .u8 (x7.toNat : Int)] 36)) sb base w.heap.size w4.heap.size now past roots nowL pastL rootsL [x0, x1, x2, x3, x4, x5, x6, x7] :=
  ⟨(h.below hBw4).below ((Below.refl _ _).alloc (Nat.le_refl _) _), ((hres1.below hres1.lt hB4)).alloc _, RowV.new w4 36 ([x0, x1, x2, x3, x4, x5, x6, x7].map u8c)⟩
 have hz4 : w.heap.size < w4.heap.size := (hres1.below hres1.lt hB4).lt
 have HF5 : Hid (Frame (fun k => k = sb ∨ past.val.ownBlock = some k ∨ roots.val.ownBlock = some k) w (w4.alloc (.cells #[.int .u8 (x0.toNat : Int), .int .u8 (x1.toNat : Int), .int .u8 (x2.toNat : Int), .int .u8 (x3.toNat : Int), .int .u8 (x4.toNat : Int), .int .u8 (x5.toNat : Int), .int .u8 (x6.toNat : Int), .int .u8 (x7.toNat : Int)] 36))) := Frame.of_below_all (hBw4.alloc (by omega) _)
 clear hb1 hb2 hb3 hb4 hB1 hB2 hB3 hB4 hBw4 hoL hlL hlm hpq hsq2 hres1 ho3 hs3 c0 c2 HV hA hAl
 have d0 := hst5.ref.row.cell 0 (by simp)
 have d1 := hst5.ref.row.cell 1 (by simp)
 have e1 := hst5.ref.row.frozen 1
 simp only [List.getElem_cons_zero, List.getElem_cons_succ, SlR.val] at d0 d1
 have hrbsb : w.heap.size ≠ sb := by omega
 have hdbsb : w4.heap.size ≠ sb := by omega
 have hrk : ∀ k, roots.val.ownBlock = some k → k < w.heap.size := fun k hk => (h.hroots.lt k hk).2
 have HRK : Hid (∀ k, roots.val.ownBlock = some k → k < w.heap.size) := hrk
 have hpk : ∀ k, past.val.ownBlock = some k → k < w.heap.size := fun k hk => (h.hpast.lt k hk).2
 have HPK : Hid (∀ k, past.val.ownBlock = some k → k < w.heap.size) := hpk
 clear hrk hpk h
 have hzW : w4.heap.size < (w4.alloc (.cells #[.int .u8 (x0.toNat : Int), .int .u8 (x1.toNat : Int), .int .u8 (x2.toNat : Int), .int .u8 (x3.toNat : Int), .int .u8 (x4.toNat : Int), .int .u8 (x5.toNat : Int), .int .u8 (x6.toNat : Int), .int .u8 (x7.toNat : Int)] 36)).heap.size := by simp
 go_upto_region 6 with fail
 generalize w4.alloc (.cells #[.int .u8 (x0.toNat : Int), .int .u8 (x1.toNat : Int), .int .u8 (x2.toNat : Int), .int .u8 (x3.toNat : Int), .int .u8 (x4.toNat : Int), .int .u8 (x5.toNat : Int), .int .u8 (x6.toNat : Int), .int .u8 (x7.toNat : Int)] 36) = W5 at *
 have hst5a : RefAt ((W5.alloc (.cells #[.slice now.a now.n now.cap] 78)).drew) sb base now past roots nowL pastL rootsL := (hst5.ref.below ((Below.refl _ _).alloc (Nat.le_refl _) _)).drew
 have hres5a : RowV ((W5.alloc (.cells #[.slice now.a now.n now.cap] 78)).drew) w.heap.size 103 zero18 := RowV.alloc (w := W5) hst5.res _
 have hdig5a : RowV ((W5.alloc (.cells #[.slice now.a now.n now.cap] 78)).drew) w4.heap.size 36 ([x0, x1, x2, x3, x4, x5, x6, x7].map u8c) := RowV.alloc (w := W5) hst5.dig _
 have d1a : (W5.alloc (.cells #[.slice now.a now.n now.cap] 78)).cell? ⟨sb, 1, none⟩ = some (.slice past.a past.n past.cap) := RowV.cell hst5a.row 1 (Nat.lt_succ_of_lt (Nat.lt_succ_self 1))
 have d0a : (W5.alloc (.cells #[.slice now.a now.n now.cap] 78)).cell? ⟨sb, 0, none⟩ = some (.slice now.a now.n now.cap) := RowV.cell hst5a.row 0 (Nat.succ_pos 2)
 have HO6 : Hid (((W5.alloc (.cells #[.slice now.a now.n now.cap] 78)).drew).ownsRow base 78 1 (.slice past.a past.n past.cap) pastL.length (pastL.map (fun q => q.1.val))) := hst5a.hpast
 have HS6 : Hid (SlV ((W5.alloc (.cells #[.slice now.a now.n now.cap] 78)).drew) (some ⟨W5.heap.size, 0, none⟩) [.slice now.a now.n now.cap]) := SlV.alloc_new W5 _ _
 have H16 : Hid (∀ u ∈ [Value.slice now.a now.n now.cap], u.oneCell' = true) := fun u hu => by simp at hu; subst hu; rfl
 have H63 : Hid (pastL.length + 1 ≤ maxLen) := by unfold Hid maxLen; omega
 have HBY : Hid ((pastL.length + 1) * 24 ≤ 140737488355328) := by unfold Hid; omega
 have hz5 := HF5.out.size
 have HBS : Hid (base ≤ ((W5.alloc (.cells #[.slice now.a now.n now.cap] 78)).drew).heap.size) := by unfold Hid; show base ≤ (W5.alloc (.cells #[.slice now.a now.n now.cap] 78)).heap.size; simp; omega
 have HZ5 : Hid (w.heap.size ≤ ((W5.alloc (.cells #[.slice now.a now.n now.cap] 78)).drew).heap.size) := by unfold Hid; show w.heap.size ≤ (W5.alloc (.cells #[.slice now.a now.n now.cap] 78)).heap.size; simp; omega
 have HF5a : Hid (Frame (fun k => k = sb ∨ past.val.ownBlock = some k ∨ roots.val.ownBlock = some k) w ((W5.alloc (.cells #[.slice now.a now.n now.cap] 78)).drew)) := (HF5.out.alloc _).drew
 go_cut [] (fun wx => ∃ (a6 : Option Addr) (n6 c6 : Nat), Hid (ComSt w wx sb base w.heap.size w4.heap.size now ⟨a6, n6, c6⟩ roots nowL (pastL ++ [(now, nowL)]) rootsL [x0, x1, x2, x3, x4, x5, x6, x7]) ∧ Hid (Frame (fun k => k = sb ∨ past.val.ownBlock = some k ∨ roots.val.ownBlock = some k) w wx) ∧ Hid (∀ k, (Value.slice a6 n6 c6).ownBlock = some k → k < w.heap.size → past.val.ownBlock = some k))
 case first =>
  go_region_law
   ((refine step_appendV (by rfl) (.tmp 28) (.tmp 33) 89 (by rfl) base 78 _ 1 24 Tryz.underlying89 Tryz.infoItems rfl (by decide) (.slice past.a past.n past.cap) pastL.length (pastL.map (fun q => q.1.val)) (by rfl) HO6.out ⟨W5.heap.size, 0, none⟩ 1 1 [.slice now.a now.n now.cap] (by rfl) rfl HS6.out H16.out H63.out HBY.out HBS.out ?_; intro a6 n6 c6 w6 ho6 hf6 hat6; have hr6 : RefRow w6 sb now.val past.val roots.val := RowV.of_block hst5a.row (hf6.block _ (RowV.lt hst5a.row) (fun e => owns_ne HO6.out hst5a.row (by decide) e)); have q1 : w6.cell? ⟨sb, 1, none⟩ = some (.slice past.a past.n past.cap) := RowV.cell hr6 1 (Nat.lt_succ_of_lt (Nat.lt_succ_self 1)); have r1 : w6.frozen? ⟨sb, 1, none⟩ = false := RowV.frozen hr6 1))
  all_goals
   have hst6 : ComSt w (w6.setCell ⟨sb, 1, none⟩ (.slice a6 n6 c6)) sb base w.heap.size w4.heap.size now ⟨a6, n6, c6⟩ roots nowL (pastL ++ [(now, nowL)]) rootsL [x0, x1, x2, x3, x4, x5, x6, x7] :=
    ⟨RefAt.pushPast (past' := ⟨a6, n6, c6⟩) hst5a ho6 hf6, (hres5a.of_block (hf6.block _ hres5a.lt (fun e => owns_ne HO6.out hres5a (by decide) e))).other (by exact hrbsb) _, (hdig5a.of_block (hf6.block _ hdig5a.lt (fun e => owns_ne HO6.out hdig5a (by decide) e))).other (by exact hdbsb) _⟩
   have HF6 : Hid (Frame (fun k => k = sb ∨ past.val.ownBlock = some k ∨ roots.val.ownBlock = some k) w (w6.setCell ⟨sb, 1, none⟩ (.slice a6 n6 c6))) := (HF5a.out.trans (hf6.mono (fun k _ hk => Or.inr (Or.inl hk)))).setCell (p := ⟨sb, 1, none⟩) (Or.inl rfl) _
   have HP6 : Hid (∀ k, (Value.slice a6 n6 c6).ownBlock = some k → k < w.heap.size → past.val.ownBlock = some k) := fun k hk hlt => by
    rcases hat6 with e | e
    ·rw [e] at hk; exact hk
    ·rw [e] at hk; exact absurd hlt (by have := Option.some.inj hk; have := HZ5.out; omega)
   go_wp2_with fail
   go_meet
   exact ⟨a6, n6, c6, hst6, HF6, HP6⟩
 case rest =>
  obtain ⟨a6, n6, c6, HS6, HF6, HP6⟩ := hcut
  have hst6 := HS6.out
  have hz6 : w4.heap.size < wc.heap.size := hst6.dig.lt
  try clear HS6
  try clear HZ5
  try clear HO6
  try clear HS6
  try clear H16
  try clear H63
  try clear HBY
  try clear HBS
  try clear HF5a
  try clear HF5
  try clear hst5a
  try clear hres5a
  try clear hdig5a
  try clear hst5
  try clear hz5
  try clear hzW
  try clear d0
  try clear d1
  try clear e1
  try clear d1a
  try clear d0a
  generalize wc = W6 at *
  have d2 : W6.cell? ⟨sb, 2, none⟩ = some (.slice roots.a roots.n roots.cap) := RowV.cell hst6.ref.row 2 (by simp)
  have g0 : W6.cell? ⟨w4.heap.size, 0, none⟩ = some (.int .u8 (x0.toNat : Int)) := RowV.cell hst6.dig 0 (by simp)
  have g1 : W6.cell? ⟨w4.heap.size, 1, none⟩ = some (.int .u8 (x1.toNat : Int)) := RowV.cell hst6.dig 1 (by simp)
  have g2 : W6.cell? ⟨w4.heap.size, 2, none⟩ = some (.int .u8 (x2.toNat : Int)) := RowV.cell hst6.dig 2 (by simp)
  have g3 : W6.cell? ⟨w4.heap.size, 3, none⟩ = some (.int .u8 (x3.toNat : Int)) := RowV.cell hst6.dig 3 (by simp)
  have g4 : W6.cell? ⟨w4.heap.size, 4, none⟩ = some (.int .u8 (x4.toNat : Int)) := RowV.cell hst6.dig 4 (by simp)
  have g5 : W6.cell? ⟨w4.heap.size, 5, none⟩ = some (.int .u8 (x5.toNat : Int)) := RowV.cell hst6.dig 5 (by simp)
  have g6 : W6.cell? ⟨w4.heap.size, 6, none⟩ = some (.int .u8 (x6.toNat : Int)) := RowV.cell hst6.dig 6 (by simp)
  have g7 : W6.cell? ⟨w4.heap.size, 7, none⟩ = some (.int .u8 (x7.toNat : Int)) := RowV.cell hst6.dig 7 (by simp)
  have hst7a : RefAt ((W6.alloc (.cells #[.int .u8 (x0.toNat : Int), .int .u8 (x1.toNat : Int), .int .u8 (x2.toNat : Int), .int .u8 (x3.toNat : Int), .int .u8 (x4.toNat : Int), .int .u8 (x5.toNat : Int), .int .u8 (x6.toNat : Int), .int .u8 (x7.toNat : Int)] 36)).drew) sb base now ⟨a6, n6, c6⟩ roots nowL (pastL ++ [(now, nowL)]) rootsL := (hst6.ref.below ((Below.refl _ _).alloc (Nat.le_refl _) _)).drew
  have hres7a : RowV ((W6.alloc (.cells #[.int .u8 (x0.toNat : Int), .int .u8 (x1.toNat : Int), .int .u8 (x2.toNat : Int), .int .u8 (x3.toNat : Int), .int .u8 (x4.toNat : Int), .int .u8 (x5.toNat : Int), .int .u8 (x6.toNat : Int), .int .u8 (x7.toNat : Int)] 36)).drew) w.heap.size 103 zero18 := RowV.alloc (w := W6) hst6.res _
  have hdig7a : RowV ((W6.alloc (.cells #[.int .u8 (x0.toNat : Int), .int .u8 (x1.toNat : Int), .int .u8 (x2.toNat : Int), .int .u8 (x3.toNat : Int), .int .u8 (x4.toNat : Int), .int .u8 (x5.toNat : Int), .int .u8 (x6.toNat : Int), .int .u8 (x7.toNat : Int)] 36)).drew) w4.heap.size 36 ([x0, x1, x2, x3, x4, x5, x6, x7].map u8c) := RowV.alloc (w := W6) hst6.dig _
  have d2a : (W6.alloc (.cells #[.int .u8 (x0.toNat : Int), .int .u8 (x1.toNat : Int), .int .u8 (x2.toNat : Int), .int .u8 (x3.toNat : Int), .int .u8 (x4.toNat : Int), .int .u8 (x5.toNat : Int), .int .u8 (x6.toNat : Int), .int .u8 (x7.toNat : Int)] 36)).cell? ⟨sb, 2, none⟩ = some (.slice roots.a roots.n roots.cap) := RowV.cell hst7a.row 2 (by simp)
  have HO7 : Hid (((W6.alloc (.cells #[.int .u8 (x0.toNat : Int), .int .u8 (x1.toNat : Int), .int .u8 (x2.toNat : Int), .int .u8 (x3.toNat : Int), .int .u8 (x4.toNat : Int), .int .u8 (x5.toNat : Int), .int .u8 (x6.toNat : Int), .int .u8 (x7.toNat : Int)] 36)).drew).ownsRow base 36 8 (.slice roots.a roots.n roots.cap) rootsL.length (digsC rootsL)) := hst7a.hroots
  have HS7 : Hid (SlV ((W6.alloc (.cells #[.int .u8 (x0.toNat : Int), .int .u8 (x1.toNat : Int), .int .u8 (x2.toNat : Int), .int .u8 (x3.toNat : Int), .int .u8 (x4.toNat : Int), .int .u8 (x5.toNat : Int), .int .u8 (x6.toNat : Int), .int .u8 (x7.toNat : Int)] 36)).drew) (some ⟨W6.heap.size, 0, none⟩) ([x0, x1, x2, x3, x4, x5, x6, x7].map u8c)) := SlV.alloc_new W6 _ _
  have H17 : Hid (∀ u ∈ ([x0, x1, x2, x3, x4, x5, x6, x7].map u8c), u.oneCell' = true) := fun u hu => by obtain ⟨y, _, rfl⟩ := List.mem_map.1 hu; rfl
  have H73 : Hid (rootsL.length + 1 ≤ maxLen) := by unfold Hid maxLen; omega
  have HBY7 : Hid ((rootsL.length + 1) * 8 ≤ 140737488355328) := by unfold Hid; omega
  have hz6' := HF6.out.size
  have HBS7 : Hid (base ≤ ((W6.alloc (.cells #[.int .u8 (x0.toNat : Int), .int .u8 (x1.toNat : Int), .int .u8 (x2.toNat : Int), .int .u8 (x3.toNat : Int), .int .u8 (x4.toNat : Int), .int .u8 (x5.toNat : Int), .int .u8 (x6.toNat : Int), .int .u8 (x7.toNat : Int)] 36)).drew).heap.size) := by unfold Hid; show base ≤ (W6.alloc (.cells #[.int .u8 (x0.toNat : Int), .int .u8 (x1.toNat : Int), .int .u8 (x2.toNat : Int), .int .u8 (x3.toNat : Int), .int .u8 (x4.toNat : Int), .int .u8 (x5.toNat : Int), .int .u8 (x6.toNat : Int), .int .u8 (x7.toNat : Int)] 36)).heap.size; simp; omega
  have HZ6 : Hid (w.heap.size ≤ ((W6.alloc (.cells #[.int .u8 (x0.toNat : Int), .int .u8 (x1.toNat : Int), .int .u8 (x2.toNat : Int), .int .u8 (x3.toNat : Int), .int .u8 (x4.toNat : Int), .int .u8 (x5.toNat : Int), .int .u8 (x6.toNat : Int), .int .u8 (x7.toNat : Int)] 36)).drew).heap.size) := by unfold Hid; show w.heap.size ≤ (W6.alloc (.cells #[.int .u8 (x0.toNat : Int), .int .u8 (x1.toNat : Int), .int .u8 (x2.toNat : Int), .int .u8 (x3.toNat : Int), .int .u8 (x4.toNat : Int), .int .u8 (x5.toNat : Int), .int .u8 (x6.toNat : Int), .int .u8 (x7.toNat : Int)] 36)).heap.size; simp; omega
  have HF7a : Hid (Frame (fun k => k = sb ∨ past.val.ownBlock = some k ∨ roots.val.ownBlock = some k) w ((W6.alloc (.cells #[.int .u8 (x0.toNat : Int), .int .u8 (x1.toNat : Int), .int .u8 (x2.toNat : Int), .int .u8 (x3.toNat : Int), .int .u8 (x4.toNat : Int), .int .u8 (x5.toNat : Int), .int .u8 (x6.toNat : Int), .int .u8 (x7.toNat : Int)] 36)).drew)) := (HF6.out.alloc _).drew
  go_upto_region 7 with fail
  go_cut [] (fun wx => ∃ (a7 : Option Addr) (n7 c7 : Nat), Hid (ComSt w wx sb base w.heap.size w4.heap.size now ⟨a6, n6, c6⟩ ⟨a7, n7, c7⟩ nowL (pastL ++ [(now, nowL)]) (rootsL ++ [[x0, x1, x2, x3, x4, x5, x6, x7]]) [x0, x1, x2, x3, x4, x5, x6, x7]) ∧ Hid (Frame (fun k => k = sb ∨ past.val.ownBlock = some k ∨ roots.val.ownBlock = some k) w wx) ∧ Hid (∀ k, (Value.slice a7 n7 c7).ownBlock = some k → k < w.heap.size → roots.val.ownBlock = some k))
  case first =>
   go_region_law
    ((refine step_appendV (by rfl) (.tmp 41) (.tmp 43) 41 (by rfl) base 36 _ 8 8 Tryz.underlying41 Tryz.infoDigs rfl (by decide) (.slice roots.a roots.n roots.cap) rootsL.length (digsC rootsL) (by rfl) HO7.out ⟨W6.heap.size, 0, none⟩ 1 1 ([x0, x1, x2, x3, x4, x5, x6, x7].map u8c) (by rfl) rfl HS7.out H17.out H73.out HBY7.out HBS7.out ?_; intro a7 n7 c7 w7 ho7 hf7 hat7; have hr7 : RefRow w7 sb now.val (SlR.val ⟨a6, n6, c6⟩) roots.val := RowV.of_block hst7a.row (hf7.block _ (RowV.lt hst7a.row) (fun e => owns_ne HO7.out hst7a.row (by decide) e)); have q2 : w7.cell? ⟨sb, 2, none⟩ = some (.slice roots.a roots.n roots.cap) := RowV.cell hr7 2 (Nat.lt_succ_self 2); have r2 : w7.frozen? ⟨sb, 2, none⟩ = false := RowV.frozen hr7 2))
   all_goals
    have hst7 : ComSt w (w7.setCell ⟨sb, 2, none⟩ (.slice a7 n7 c7)) sb base w.heap.size w4.heap.size now ⟨a6, n6, c6⟩ ⟨a7, n7, c7⟩ nowL (pastL ++ [(now, nowL)]) (rootsL ++ [[x0, x1, x2, x3, x4, x5, x6, x7]]) [x0, x1, x2, x3, x4, x5, x6, x7] :=
     ⟨RefAt.pushRoot (roots' := ⟨a7, n7, c7⟩) (d := [x0, x1, x2, x3, x4, x5, x6, x7]) hst7a rfl ho7 hf7, (hres7a.of_block (hf7.block _ hres7a.lt (fun e => absurd (HRK.out _ e) (Nat.lt_irrefl _)))).other (by exact hrbsb) _, (hdig7a.of_block (hf7.block _ hdig7a.lt (fun e => absurd (HRK.out _ e) (Nat.lt_asymm hz4)))).other (by exact hdbsb) _⟩
    have HF7 : Hid (Frame (fun k => k = sb ∨ past.val.ownBlock = some k ∨ roots.val.ownBlock = some k) w (w7.setCell ⟨sb, 2, none⟩ (.slice a7 n7 c7))) := (HF7a.out.trans (hf7.mono (fun k _ hk => Or.inr (Or.inr hk)))).setCell (p := ⟨sb, 2, none⟩) (Or.inl rfl) _
    have HP7 : Hid (∀ k, (Value.slice a7 n7 c7).ownBlock = some k → k < w.heap.size → roots.val.ownBlock = some k) := fun k hk hlt => by
     rcases hat7 with e | e
     ·rw [e] at hk; exact hk
     ·rw [e] at hk; exact absurd hlt (by have := Option.some.inj hk; have := HZ6.out; omega)
    go_wp2_with fail
    go_meet
    exact ⟨a7, n7, c7, hst7, HF7, HP7⟩
  case rest =>
   obtain ⟨a7, n7, c7, HS7, HF7, HP7⟩ := hcut
   have hst7 := HS7.out
   have hz7 : w4.heap.size < wc.heap.size := hst7.dig.lt
   try clear HS7
   try clear HZ6
   try clear HO7
   try clear HS7
   try clear H17
   try clear H73
   try clear HBY7
   try clear HBS7
   try clear HF7a
   try clear HF6
   try clear hst7a
   try clear hres7a
   try clear hdig7a
   try clear hst6
   try clear hz6
   try clear hz6'
   try clear d2
   try clear d2a
   try clear g0
   try clear g1
   try clear g2
   try clear g3
   try clear g4
   try clear g5
   try clear g6
   try clear g7
   generalize wc = W7 at *
   have d2 : W7.cell? ⟨sb, 2, none⟩ = some (.slice a7 n7 c7) := RowV.cell hst7.ref.row 2 (by simp)
   have g0 : W7.cell? ⟨w4.heap.size, 0, none⟩ = some (.int .u8 (x0.toNat : Int)) := RowV.cell hst7.dig 0 (by simp)
   have g1 : W7.cell? ⟨w4.heap.size, 1, none⟩ = some (.int .u8 (x1.toNat : Int)) := RowV.cell hst7.dig 1 (by simp)
   have g2 : W7.cell? ⟨w4.heap.size, 2, none⟩ = some (.int .u8 (x2.toNat : Int)) := RowV.cell hst7.dig 2 (by simp)
   have g3 : W7.cell? ⟨w4.heap.size, 3, none⟩ = some (.int .u8 (x3.toNat : Int)) := RowV.cell hst7.dig 3 (by simp)
   have g4 : W7.cell? ⟨w4.heap.size, 4, none⟩ = some (.int .u8 (x4.toNat : Int)) := RowV.cell hst7.dig 4 (by simp)
   have g5 : W7.cell? ⟨w4.heap.size, 5, none⟩ = some (.int .u8 (x5.toNat : Int)) := RowV.cell hst7.dig 5 (by simp)
   have g6 : W7.cell? ⟨w4.heap.size, 6, none⟩ = some (.int .u8 (x6.toNat : Int)) := RowV.cell hst7.dig 6 (by simp)
   have g7 : W7.cell? ⟨w4.heap.size, 7, none⟩ = some (.int .u8 (x7.toNat : Int)) := RowV.cell hst7.dig 7 (by simp)
   have d2' := d2
   have hc7 := owns_cap (a := a7) (n' := n7) (cap := c7) hst7.ref.hroots
   have HSD : Hid (SlD W7.drew a7 (rootsL ++ [[x0, x1, x2, x3, x4, x5, x6, x7]])) := ⟨(SlV.ofOwn (s := ⟨a7, n7, c7⟩) hst7.ref.hroots).1, hst7.ref.h8⟩
   have HN7 : Hid (n7 = (rootsL ++ [[x0, x1, x2, x3, x4, x5, x6, x7]]).length) := hc7.1
   have HSC : Hid (Calls _ _ _ _ _) := sum_any 42 (rootsL ++ [[x0, x1, x2, x3, x4, x5, x6, x7]]) a7 c7 W7.drew (by simp; omega) hc7.2.1 (by have := hc7.2.2.1; unfold maxLen at this; omega) HSD.out
   rw [← HN7.out, ← HSS.out] at HSC
   obtain ⟨s0, s1, s2, s3, s4, s5, s6, s7, rfl⟩ := list8 ss (HSS.out ▸ HSM.out)
   have HVS : Hid (dV [s0, s1, s2, s3, s4, s5, s6, s7] = .agg #[.int .u8 (s0.toNat : Int), .int .u8 (s1.toNat : Int), .int .u8 (s2.toNat : Int), .int .u8 (s3.toNat : Int), .int .u8 (s4.toNat : Int), .int .u8 (s5.toNat : Int), .int .u8 (s6.toNat : Int), .int .u8 (s7.toNat : Int)]) := rfl
   clear hc7 HSD
   go_wp2
   go_region_with (first
    | (go_at_call 87; refine HSC.out.mono ?_; rintro e w8 ⟨rfl, hb8⟩; rw [HVS.out]; have hres8 : RowV w8 w.heap.size 103 zero18 := RowV.below (w := W7.drew) hst7.res hst7.res.lt hb8; rename_i K hK; refine hK _ _ ?_; clear hK K; refine wpAny_take (i := 9) (v := .agg #[(.int .i64 (IntKind.i64.wrap ((roots.n : Int) + 1))), (.int .u8 (s0.toNat : Int)), (.int .u8 (s1.toNat : Int)), (.int .u8 (s2.toNat : Int)), (.int .u8 (s3.toNat : Int)), (.int .u8 (s4.toNat : Int)), (.int .u8 (s5.toNat : Int)), (.int .u8 (s6.toNat : Int)), (.int .u8 (s7.toNat : Int))]) rfl (by kernel_rfl) (by kernel_rfl) (by kernel_rfl) (fun _ _ _ h => h) (Or.inl ⟨by rfl, fun w => by go_simp⟩) ?_; go_loud (refine wpAny_take (i := 10) (v := .agg #[(.int .i64 (roots.n : Int)), (.int .u8 (x0.toNat : Int)), (.int .u8 (x1.toNat : Int)), (.int .u8 (x2.toNat : Int)), (.int .u8 (x3.toNat : Int)), (.int .u8 (x4.toNat : Int)), (.int .u8 (x5.toNat : Int)), (.int .u8 (x6.toNat : Int)), (.int .u8 (x7.toNat : Int)), (.int .i64 (IntKind.i64.wrap ((roots.n : Int) + 1))), (.int .u8 (s0.toNat : Int)), (.int .u8 (s1.toNat : Int)), (.int .u8 (s2.toNat : Int)), (.int .u8 (s3.toNat : Int)), (.int .u8 (s4.toNat : Int)), (.int .u8 (s5.toNat : Int)), (.int .u8 (s6.toNat : Int)), (.int .u8 (s7.toNat : Int))]) rfl (by kernel_rfl) (by kernel_rfl) (by kernel_rfl) (fun _ _ _ h => h) (Or.inl ⟨by rfl, ?_⟩) ?_); go_loud (focus (intro ww; go_simp; done)); go_loud (refine wpAny_ready (rs := [11]) (by kernel_rfl) (List.cons_ne_nil _ _) ?_; refine AllReady.cons rfl (fun K' hK' => ?_) AllReady.nil; refine step_storeR (by rfl) 103 (.tmp 2) (.tmp 57) (by rfl) w.heap.size (by rfl) (comC roots.n x0 x1 x2 x3 x4 x5 x6 x7 s0 s1 s2 s3 s4 s5 s6 s7) (by rfl) hres8 rfl Tryz.sizeCommit comC_one ?_; intro w9 hR9 hf9; refine hK' _ _ ?_; clear hK' K'))
    | (go_at_call 87; refine HSC.out.mono ?_; rintro e w8 ⟨rfl, hb8⟩; rw [HVS.out]; have hres8 : RowV w8 w.heap.size 103 zero18 := RowV.below (w := W7.drew) hst7.res hst7.res.lt hb8; rename_i K hK; refine hK _ _ ?_; clear hK K; refine wpAny_take (i := 9) (v := .agg #[(.int .i64 (IntKind.i64.wrap ((roots.n : Int) + 1))), (.int .u8 (s0.toNat : Int)), (.int .u8 (s1.toNat : Int)), (.int .u8 (s2.toNat : Int)), (.int .u8 (s3.toNat : Int)), (.int .u8 (s4.toNat : Int)), (.int .u8 (s5.toNat : Int)), (.int .u8 (s6.toNat : Int)), (.int .u8 (s7.toNat : Int))]) rfl (by kernel_rfl) (by kernel_rfl) (by kernel_rfl) (fun _ _ _ h => h) (Or.inl ⟨by rfl, fun w => by go_simp⟩) ?_; have hdig8 : RowV w8 w4.heap.size 36 ([x0, x1, x2, x3, x4, x5, x6, x7].map u8c) := RowV.below (w := W7.drew) hst7.dig hst7.dig.lt hb8; refine wpAny_ready (rs := [1]) ?_ (List.cons_ne_nil _ _) ?_; kernel_rfl; have g0' : w8.cell? ⟨w4.heap.size, 0, none⟩ = some (.int .u8 (x0.toNat : Int)) := RowV.cellK hdig8 0 _ rfl; have g1' : w8.cell? ⟨w4.heap.size, 1, none⟩ = some (.int .u8 (x1.toNat : Int)) := RowV.cellK hdig8 1 _ rfl; have g2' : w8.cell? ⟨w4.heap.size, 2, none⟩ = some (.int .u8 (x2.toNat : Int)) := RowV.cellK hdig8 2 _ rfl; have g3' : w8.cell? ⟨w4.heap.size, 3, none⟩ = some (.int .u8 (x3.toNat : Int)) := RowV.cellK hdig8 3 _ rfl; have g4' : w8.cell? ⟨w4.heap.size, 4, none⟩ = some (.int .u8 (x4.toNat : Int)) := RowV.cellK hdig8 4 _ rfl; have g5' : w8.cell? ⟨w4.heap.size, 5, none⟩ = some (.int .u8 (x5.toNat : Int)) := RowV.cellK hdig8 5 _ rfl; have g6' : w8.cell? ⟨w4.heap.size, 6, none⟩ = some (.int .u8 (x6.toNat : Int)) := RowV.cellK hdig8 6 _ rfl; have g7' : w8.cell? ⟨w4.heap.size, 7, none⟩ = some (.int .u8 (x7.toNat : Int)) := RowV.cellK hdig8 7 _ rfl; refine AllReady.cons rfl (fun K2 hK2 => ?_) AllReady.nil; go_simp; refine hK2 _ _ ?_; clear hK2 K2; (refine wpAny_take (i := 10) (v := .agg #[(.int .i64 (roots.n : Int)), (.int .u8 (x0.toNat : Int)), (.int .u8 (x1.toNat : Int)), (.int .u8 (x2.toNat : Int)), (.int .u8 (x3.toNat : Int)), (.int .u8 (x4.toNat : Int)), (.int .u8 (x5.toNat : Int)), (.int .u8 (x6.toNat : Int)), (.int .u8 (x7.toNat : Int)), (.int .i64 (IntKind.i64.wrap ((roots.n : Int) + 1))), (.int .u8 (s0.toNat : Int)), (.int .u8 (s1.toNat : Int)), (.int .u8 (s2.toNat : Int)), (.int .u8 (s3.toNat : Int)), (.int .u8 (s4.toNat : Int)), (.int .u8 (s5.toNat : Int)), (.int .u8 (s6.toNat : Int)), (.int .u8 (s7.toNat : Int))]) rfl (by kernel_rfl) (by kernel_rfl) (by kernel_rfl) (fun _ _ _ h => h) (Or.inl ⟨by rfl, ?_⟩) ?_; focus (intro ww; go_simp; done)); refine wpAny_ready (rs := [11]) (by kernel_rfl) (List.cons_ne_nil _ _) ?_; refine AllReady.cons rfl (fun K' hK' => ?_) AllReady.nil; refine step_storeR (by rfl) 103 (.tmp 2) (.tmp 57) (by rfl) w.heap.size (by rfl) (comC roots.n x0 x1 x2 x3 x4 x5 x6 x7 s0 s1 s2 s3 s4 s5 s6 s7) (by rfl) hres8 rfl Tryz.sizeCommit comC_one ?_; intro w9 hR9 hf9; refine hK' _ _ ?_; clear hK' K'))
   all_goals
    go_wp2
    refine ret_agg2 (k := 2) (k2 := 3) (cs := comC roots.n x0 x1 x2 x3 x4 x5 x6 x7 s0 s1 s2 s3 s4 s5 s6 s7) rfl rfl rfl hR9 Tryz.underlying103 rfl Tryz.sizeCommit rfl ⟨?_, ⟨a6, n6, c6⟩, ⟨a7, n7, c7⟩, ?_, ?_, HP6.out, HP7.out⟩
    ·unfold comC; rw [HWR.out, ← HRN.out]; rfl
    ·exact RefAt.apart (hst7.ref.drew.below hb8) hres8 hf9 hrbsb (by decide) (by decide) (by decide)
    ·exact (HF7.out.drew.trans (Frame.of_below_all hb8)).into hf9 (fun x hx e => absurd hx (by rw [e]; exact Nat.lt_irrefl _))
end Go.Proofs.YtekegfbjbainhaaGreat
