
import Derived.Test.YtekegfbjbainhaaKJoin17
import Derived.Test.YtekegfbjbainhaaKJoin13
import Derived.Deep.DeepCutAuto
set_option linter.unusedVariables false
set_option linter.unusedSimpArgs false
namespace Go.Proofs.Ytekegfbjbainhaa
open Go.RowKit
attribute [local go_sem ↓] Go.wp_at_zero Go.wp_at_succ
def BsL (w : World) (es : List (SlR × SlR)) (l : List ItR) : Prop := es.length = l.length ∧ ∀ i (h1 : i < es.length) (h2 : i < l.length), BS w es[i].1 l[i].key ∧ BS w es[i].2 l[i].more
theorem BsL.nil (w : World) : BsL w [] [] := ⟨rfl, fun i h => absurd h (Nat.not_lt_zero _)⟩
theorem BsL.push {w : World} {es : List (SlR × SlR)} {l : List ItR} {e : SlR × SlR} {x : ItR} (h : BsL w es l) (h1 : BS w e.1 x.key) (h2 : BS w e.2 x.more) : BsL w (es ++ [e]) (l ++ [x]) := by
 refine ⟨by simp [h.1], fun i g1 g2 => ?_⟩
 simp only [List.length_append, List.length_singleton] at g1 g2
 by_cases hi : i < es.length
 ·rw [List.getElem_append_left hi, List.getElem_append_left (by rw [← h.1]; exact hi)]
  exact h.2 i hi (by rw [← h.1]; exact hi)
 ·have : i = es.length := by omega
  subst this
  rw [List.getElem_append_right (Nat.le_refl _), List.getElem_append_right (by rw [h.1]; exact Nat.le_refl _)]
  simp only [Nat.sub_self, h.1, List.getElem_cons_zero]
  exact ⟨h1, h2⟩
theorem bs_run {w W : World} {s : SlR} {l : List UInt8} (h : BS w s l) (hb : Below w.heap.size w W) : (convert 35 9 (.slice s.a s.n s.cap)).run Try.prog W = .ok (.string ⟨l.toArray⟩) W :=
 run_string_SlB (P := Try.prog) _ 35 9 5 s.a s.n s.cap _ Try.underlying35 Try.underlying5 Try.underlying9 (h.below hb).n (h.below hb).sl h.nil
def hpost (w : World) (hb sb N : Nat) (en tr : SlR) (mp : Option Nat) (ms : List MEn) (xs : List EnP) (its : List ItR) (tds : List Nd) (nw : SlR) (nes : List (SlR × SlR)) (past done : Value) (F : Nat → Prop) (its' : List ItR) (e : Ending) (w' : World) : Prop :=
 e = .returned (.bool true) ∧ ∃ (en' : SlR) (xs' : List EnP) (nw' : SlR) (nes' : List (SlR × SlR)), StoAt w' sb N en' tr mp ms xs' its' tds ∧ EnsK w' 0 nw' nes' its' ∧ RowV w' hb 32 [.pointer (some ⟨sb, 0, none⟩), nw'.val, past, done] ∧ Frame (fun k => k = sb ∨ k = hb) w w' ∧ (∀ k, stoF sb en' tr mp ms xs' tds k → k < w.heap.size → stoF sb en tr mp ms xs tds k) ∧ (∀ k, ensF nw' nes' k → k < w.heap.size → ensF nw nes k ∨ F k)
theorem BsL.frame {w W : World} {S : Nat → Prop} {es : List (SlR × SlR)} {l : List ItR} (h : BsL w es l) (hf : Frame S w W) (hS : ∀ k, (∃ e ∈ es, blkOf e.1 k ∨ blkOf e.2 k) → ¬ S k) : BsL W es l := ⟨h.1, fun i h1 h2 => ⟨((h.2 i h1 h2).1).frame hf (fun x hx => hS _ ⟨_, List.getElem_mem h1, Or.inl ⟨x, hx, rfl⟩⟩), ((h.2 i h1 h2).2).frame hf (fun x hx => hS _ ⟨_, List.getElem_mem h1, Or.inr ⟨x, hx, rfl⟩⟩)⟩⟩
theorem memP {es nes : List (SlR × SlR)} {p e : SlR × SlR} (h : ∀ x ∈ es, x ∈ nes ∨ x = p) (he : e ∈ nes ∨ e = p) : ∀ x ∈ es ++ [e], x ∈ nes ∨ x = p := fun x hx => by
 rcases List.mem_append.1 hx with h1 | h1
 ·exact h x h1
 ·rw [List.mem_singleton.1 h1]; exact he
theorem putN_len (l : List ItR) (key value : List UInt8) : (putN l key value).length = if thereB l key then l.length else l.length + 1 := by
 have h1 := placeN_le l key
 unfold putN
 cases h : thereB l key with
 | true => have := thereB_lt h; simp; omega
 | false => simp; omega
theorem putE_ok (l : List ItR) {key value : List UInt8} (hk : keyOk key = true) (hv : value.length ≤ 12) : putE l key value = if thereB l key = false ∧ l.length = 60 then 2 else 0 := by unfold putE; simp [hk, hv]
theorem BsL.below {w W : World} {es : List (SlR × SlR)} {l : List ItR} (h : BsL w es l) (hb : Below w.heap.size w W) : BsL W es l := ⟨h.1, fun i h1 h2 => ⟨((h.2 i h1 h2).1).below hb, ((h.2 i h1 h2).2).below hb⟩⟩
set_option maxRecDepth 100000 in
set_option maxHeartbeats 4000000 in
theorem house_put (hb sb N : Nat) (en tr : SlR) (mp : Option Nat) (ms : List MEn) (xs : List EnP) (tds : List Nd) (past done : Value) (nw : SlR) (nes : List (SlR × SlR)) (its : List ItR) (sk sv : SlR) (key value : List UInt8) (w : World) (hR : RowV w hb 32 [.pointer (some ⟨sb, 0, none⟩), nw.val, past, done]) (hS : StoAt w sb N en tr mp ms xs its tds) (hE : EnsK w 0 nw nes its) (hK : BS w sk key) (hV : BS w sv value) (hko : keyOk key = true) (hvo : value.length ≤ 12)
  (hs1 : ∀ k, ensF nw nes k ∨ blkOf sk k ∨ blkOf sv k → k ≠ sb ∧ k ≠ hb) (hs2 : ¬ stoF sb en tr mp ms xs tds hb) (hs3 : hb ≠ sb) :
  Calls Try.prog 11 #[.pointer (some ⟨hb, 0, none⟩), sk.val, sv.val] w (hpost w hb sb N en tr mp ms xs its tds nw nes past done (fun k => blkOf sk k ∨ blkOf sv k) (putL its key value)) := by
 obtain ⟨hn, hnn⟩ := SlV.ofOwn (s := nw) hE.own
 have hbs : BsL w nes its := ⟨hE.len, hE.bs⟩
 have hr : Rising its := hS.rise
 have hl : its.length ≤ 60 := hS.len
 have HS : Hid (StoAt w sb N en tr mp ms xs its tds) := hS
 have HEK : Hid (EnsK w 0 nw nes its) := hE
 have HS1 : Hid (∀ k, ensF nw nes k ∨ blkOf sk k ∨ blkOf sv k → k ≠ sb ∧ k ≠ hb) := hs1
 have HS2 : Hid (¬ stoF sb en tr mp ms xs tds hb) := hs2
 have HS3 : Hid (hb ≠ sb) := hs3
 have HKO : Hid (keyOk key = true ∧ value.length ≤ 12) := ⟨hko, hvo⟩
 clear hE hS hs1 hs2 hs3 hko hvo
 have hhb := hR.lt
 have HR : Hid (RowV w hb 32 [.pointer (some ⟨sb, 0, none⟩), nw.val, past, done]) := hR
 have HN : Hid (SlV w nw.a (entsC nes)) := hn
 have HBS : Hid (BsL w nes its) := hbs
 have HKK : Hid (BS w sk key) := hK
 have HVV : Hid (BS w sv value) := hV
 have HRI : Hid (Rising its) := hr
 have hnl : nes.length = its.length := hbs.1
 have hlI : (its.length : Int) ≤ 60 := by omega
 obtain ⟨na', nn, nc⟩ := nw
 simp only at hnn
 obtain rfl : nn = its.length := by rw [hnn, hnl]
 have r1 : w.cell? ⟨hb, 1, none⟩ = some (.slice na' its.length nc) := RowV.cell? hR 1
 clear hR hn hbs hK hV hr hnn
 unfold SlR.val
 go_enter Try.func11, Try.ntmps11
 go_wp2
 go_loopw [7, 8, 9] (fun lv dv i wr => ∃ (k : Nat) (v : SlR) (es : List (SlR × SlR)), k ≤ its.length ∧ i = .int .i64 (k : Int) ∧ dv = .bool (decide (placeN its key < k)) ∧ lv = .slice v.a v.n v.cap ∧ Hid (Below w.heap.size w wr) ∧ Hid (wr.ownsRow w.heap.size 37 2 (.slice v.a v.n v.cap) es.length (entsC es)) ∧ Hid (BsL w es (hpA its key value k)) ∧ Hid (∀ e ∈ es, e ∈ nes ∨ e = (sk, sv))) (fun _ _ i _ => its.length - (intOf i).toNat)
 case atStart => exact ⟨0, ⟨none, 0, 0⟩, [], by omega, rfl, by simp, rfl, Below.refl _ _, World.ownsRow_nil _ _ _ _, by unfold Hid; rw [hpA_zero]; exact BsL.nil _, fun e he => (by cases he)⟩
 case round =>
  obtain ⟨k, v, es, hk, rfl, rfl, rfl, HB, HO, HE, HM⟩ := hrel
  have r1' : wr.cell? ⟨hb, 1, none⟩ = some (.slice na' its.length nc) := by rw [HB.out.cell (p := ⟨hb, 1, none⟩) hhb]; exact r1
  have hkI : (k : Int) ≤ 60 := by omega
  by_cases hlt : k < its.length
  ·have hltI : (k : Int) < its.length := by omega
   have hkn : k < nes.length := by omega
   obtain ⟨b, o, hca, hbb, c0, c1⟩ := entsC_cells HN.out k hkn
   subst hca
   have d0 : wr.cell? ⟨b, o + k * 2, none⟩ = some (.slice nes[k].1.a nes[k].1.n nes[k].1.cap) := by rw [HB.out.cell (p := ⟨b, o + k * 2, none⟩) hbb]; exact c0
   have d1 : wr.cell? ⟨b, o + k * 2 + 1, none⟩ = some (.slice nes[k].2.a nes[k].2.n nes[k].2.cap) := by rw [HB.out.cell (p := ⟨b, o + k * 2 + 1, none⟩) hbb]; exact c1
   obtain ⟨p1, p2⟩ := HBS.out.2 k hkn hlt
   have HP1 : Hid (BS w nes[k].1 its[k].key) := p1
   have HP2 : Hid (BS w nes[k].2 its[k].more) := p2
   have HRP := rising_place its key HRI.out k hlt
   unfold lessK at HRP
   have hne := fun h => place_ne (key := key) HRI.out hlt h
   have heq := fun h => place_eq (key := key) hlt h
   have HA1 : Hid (k < placeN its key → hpA its key value (k + 1) = hpA its key value k ++ [its[k]]) := fun h => hpA_low value hlt h
   have HA2 : Hid (k = placeN its key → thereB its key = true → hpA its key value (k + 1) = hpA its key value k ++ [⟨key, value, 0⟩]) := fun h ht => hpA_there value hlt h ht
   have HA3 : Hid (k = placeN its key → thereB its key = false → hpA its key value (k + 1) = hpA its key value k ++ [⟨key, value, 0⟩] ++ [its[k]]) := fun h ht => hpA_new value hlt h ht
   have HA4 : Hid (placeN its key < k → hpA its key value (k + 1) = hpA its key value k ++ [its[k]]) := fun h => hpA_up value hlt h
   have HMN : Hid ((nes[k].1, nes[k].2) ∈ nes) := List.getElem_mem hkn
   clear c0 c1 p1 p2
   generalize nes[k].1 = s1 at *
   generalize nes[k].2 = s2 at *
   generalize its[k] = x at *
   obtain ⟨xk, xm, xb⟩ := x
   simp only at HP1 HP2 HRP hne heq
   have HX : Hid (RowV (wr.alloc (.cells #[.slice s1.a s1.n s1.cap, .slice s2.a s2.n s2.cap] 37)) wr.heap.size 37 [.slice s1.a s1.n s1.cap, .slice s2.a s2.n s2.cap]) := RowV.new wr _ _
   have HBA : Hid (Below w.heap.size w (wr.alloc (.cells #[.slice s1.a s1.n s1.cap, .slice s2.a s2.n s2.cap] 37))) := HB.out.alloc HB.out.size _
   have HBX : Hid (Below wr.heap.size wr (wr.alloc (.cells #[.slice s1.a s1.n s1.cap, .slice s2.a s2.n s2.cap] 37))) := (Below.refl _ _).alloc (Nat.le_refl _) _
   have HOX : Hid ((wr.alloc (.cells #[.slice s1.a s1.n s1.cap, .slice s2.a s2.n s2.cap] 37)).ownsRow w.heap.size 37 2 (.slice v.a v.n v.cap) es.length (entsC es)) := owns_below HO.out HBX.out
   have HVL : Hid (∀ q, (Value.slice v.a v.n v.cap).ownBlock = some q → q < wr.heap.size) := fun q hq => (HO.out.lt q hq).2
   have e1 := bs_run HP1.out HBA.out
   have e2 := bs_run HKK.out HBA.out
   have HEL : Hid (es.length ≤ 61) := (show es.length ≤ 61 by have h1 := HE.out.1; have h2 := hpA_len key value k hk; omega)
   rcases Nat.lt_trichotomy k (placeN its key) with hp | hp | hp
   ·have hd : decide (placeN its key < k) = false := by simp; omega
    have hd' : decide (placeN its key < k + 1) = false := by simp; omega
    rw [decide_eq_true hp] at HRP
    have hnk : ¬ xk = key := hne (by omega)
    have hnk' : ¬ key = xk := fun e => hnk e.symm
    have hl1 : Op.bytesLess key xk = false := by
     cases h : Op.bytesLess key xk with
     | false => rfl
     | true => have := less_trans h HRP; rw [less_irrefl] at this; cases this
    have hb1 : (key == xk) = false := by simpa using hnk'
    have hb2 : (xk == key) = false := by simpa using hnk
    have HH := HA1.out hp
    have HHH : Hid _ := HH
    clear hne heq HH HA1 HA2 HA3 HA4
    rw [hd]
    go_wp2_with (first
     | (at_builtin; have HBe4 : Hid (Below (wr.alloc (.cells #[.slice s1.a s1.n s1.cap, .slice s2.a s2.n s2.cap] 37)).heap.size (wr.alloc (.cells #[.slice s1.a s1.n s1.cap, .slice s2.a s2.n s2.cap] 37)) ((wr.alloc (.cells #[.slice s1.a s1.n s1.cap, .slice s2.a s2.n s2.cap] 37)).alloc (.cells #[.slice s1.a s1.n s1.cap, .slice s2.a s2.n s2.cap] 37))) := (Below.refl _ _).alloc (Nat.le_refl _) _; refine wp_appendV (by rfl) (.tmp 50) (.tmp 52) 27 (by rfl) w.heap.size 37 _ 2 48 Try.underlying27 Try.infoEnt rfl (by decide) (.slice v.a v.n v.cap) es.length (entsC es) (by rfl) (owns_below HOX.out HBe4.out) (some ⟨wr.heap.size + 1, 0, none⟩) 1 1 (entsC [(s1, s2)]) (by rfl) rfl (by have h := SlV.alloc_new (wr.alloc (.cells #[.slice s1.a s1.n s1.cap, .slice s2.a s2.n s2.cap] 37)) (entsC [(s1, s2)]) 37; (try simp only [World.size_alloc] at h); exact h) (fun h => by cases h) (entsC_one _) (by have := HEL.out; unfold maxLen; omega) (by have := HEL.out; omega) (Nat.le_trans HBA.out.size HBe4.out.size) ?_; intro v4 w4 ho4 hf4 hat4; obtain ⟨a4, c4, hv4, _⟩ := owns_form ho4; subst hv4; have HB4 : Hid (Below w.heap.size w w4) := (HBA.out.trans (HBe4.out.mono HBA.out.size)).trans (hf4.below (Nat.le_trans HBA.out.size HBe4.out.size) (fun q hq => (World.ownsRow.lt HOX.out q hq).1)); have HO4 : Hid (w4.ownsRow w.heap.size 37 2 (.slice a4 (es.length + 1) c4) (es ++ [(s1, s2)]).length (entsC (es ++ [(s1, s2)]))) := by { unfold Hid; rw [entsC_append, show (es ++ [(s1, s2)]).length = es.length + 1 from List.length_append]; exact ho4 }))
    refine ⟨⟨k + 1, ⟨a4, es.length + 1, c4⟩, es ++ [(s1, s2)], by omega, by go_num, by rw [hd'], rfl, HB4, HO4, ?_, memP HM.out (Or.inl HMN.out)⟩, by simp [intOf]; omega⟩
    unfold Hid; rw [HHH.out]; exact HE.out.push HP1.out HP2.out
   ·have hd : decide (placeN its key < k) = false := by simp; omega
    have hd' : decide (placeN its key < k + 1) = true := by simp; omega
    rw [decide_eq_false (by omega)] at HRP
    have hth := heq hp
    cases ht : thereB its key with
    | true =>
     rw [ht] at hth
     obtain rfl : xk = key := by simpa using hth.symm
     have HH := HA2.out hp ht
     have HHH : Hid _ := HH
     clear hne heq HH HA1 HA2 HA3 HA4 hth hp
     rw [hd]
     go_wp2_with (first
      | (at_builtin; have HBe4 : Hid (Below (wr.alloc (.cells #[.slice s1.a s1.n s1.cap, .slice s2.a s2.n s2.cap] 37)).heap.size (wr.alloc (.cells #[.slice s1.a s1.n s1.cap, .slice s2.a s2.n s2.cap] 37)) ((wr.alloc (.cells #[.slice s1.a s1.n s1.cap, .slice s2.a s2.n s2.cap] 37)).alloc (.cells #[.slice sk.a sk.n sk.cap, .slice sv.a sv.n sv.cap] 37))) := (Below.refl _ _).alloc (Nat.le_refl _) _; refine wp_appendV (by rfl) (.tmp 38) (.tmp 42) 27 (by rfl) w.heap.size 37 _ 2 48 Try.underlying27 Try.infoEnt rfl (by decide) (.slice v.a v.n v.cap) es.length (entsC es) (by rfl) (owns_below HOX.out HBe4.out) (some ⟨wr.heap.size + 1, 0, none⟩) 1 1 (entsC [(sk, sv)]) (by rfl) rfl (by have h := SlV.alloc_new (wr.alloc (.cells #[.slice s1.a s1.n s1.cap, .slice s2.a s2.n s2.cap] 37)) (entsC [(sk, sv)]) 37; (try simp only [World.size_alloc] at h); exact h) (fun h => by cases h) (entsC_one _) (by have := HEL.out; unfold maxLen; omega) (by have := HEL.out; omega) (Nat.le_trans HBA.out.size HBe4.out.size) ?_; intro v4 w4 ho4 hf4 hat4; obtain ⟨a4, c4, hv4, _⟩ := owns_form ho4; subst hv4; have HB4 : Hid (Below w.heap.size w w4) := (HBA.out.trans (HBe4.out.mono HBA.out.size)).trans (hf4.below (Nat.le_trans HBA.out.size HBe4.out.size) (fun q hq => (World.ownsRow.lt HOX.out q hq).1)); have HO4 : Hid (w4.ownsRow w.heap.size 37 2 (.slice a4 (es.length + 1) c4) (es ++ [(sk, sv)]).length (entsC (es ++ [(sk, sv)]))) := by { unfold Hid; rw [entsC_append, show (es ++ [(sk, sv)]).length = es.length + 1 from List.length_append]; exact ho4 }; have HEM : Hid ((es ++ [(sk, sv)]).length ≤ 62) := by { unfold Hid; have := HEL.out; simp; omega }; have HX4 : Hid (RowV w4 wr.heap.size 37 [.slice s1.a s1.n s1.cap, .slice s2.a s2.n s2.cap]) := RowV.of_block (RowV.below HX.out HX.out.lt HBe4.out) (hf4.block _ (by have := HX.out.lt; have := HBe4.out.size; omega) (fun e => Nat.lt_irrefl _ (HVL.out _ e))); have y0 : w4.cell? ⟨wr.heap.size, 0, none⟩ = some (.slice s1.a s1.n s1.cap) := RowV.cell? HX4.out 0; have y1 : w4.cell? ⟨wr.heap.size, 1, none⟩ = some (.slice s2.a s2.n s2.cap) := RowV.cell? HX4.out 1; have e1' := bs_run HP1.out HB4.out; have e2' := bs_run HKK.out HB4.out))
     refine ⟨⟨k + 1, ⟨a4, es.length + 1, c4⟩, es ++ [(sk, sv)], by omega, by go_num, by rw [hd'], rfl, HB4, HO4, ?_, memP HM.out (Or.inr rfl)⟩, by simp [intOf]; omega⟩
     unfold Hid; rw [HHH.out]; exact HE.out.push HKK.out HVV.out
    | false =>
     rw [ht] at hth
     have hnk : ¬ xk = key := fun e => by rw [e] at hth; simp at hth
     have hnk' : ¬ key = xk := fun e => hnk e.symm
     have hl1 : Op.bytesLess key xk = true := less_total _ _ HRP hnk
     have hb1 : (key == xk) = false := by simpa using hnk'
     have hb2 : (xk == key) = false := by simpa using hnk
     have HH := HA3.out hp ht
     have HHH : Hid _ := HH
     clear hne heq HH HA1 HA2 HA3 HA4 hth hp
     rw [hd]
     go_wp2_with (first
      | (at_builtin; have HBe4 : Hid (Below (wr.alloc (.cells #[.slice s1.a s1.n s1.cap, .slice s2.a s2.n s2.cap] 37)).heap.size (wr.alloc (.cells #[.slice s1.a s1.n s1.cap, .slice s2.a s2.n s2.cap] 37)) ((wr.alloc (.cells #[.slice s1.a s1.n s1.cap, .slice s2.a s2.n s2.cap] 37)).alloc (.cells #[.slice sk.a sk.n sk.cap, .slice sv.a sv.n sv.cap] 37))) := (Below.refl _ _).alloc (Nat.le_refl _) _; refine wp_appendV (by rfl) (.tmp 38) (.tmp 42) 27 (by rfl) w.heap.size 37 _ 2 48 Try.underlying27 Try.infoEnt rfl (by decide) (.slice v.a v.n v.cap) es.length (entsC es) (by rfl) (owns_below HOX.out HBe4.out) (some ⟨wr.heap.size + 1, 0, none⟩) 1 1 (entsC [(sk, sv)]) (by rfl) rfl (by have h := SlV.alloc_new (wr.alloc (.cells #[.slice s1.a s1.n s1.cap, .slice s2.a s2.n s2.cap] 37)) (entsC [(sk, sv)]) 37; (try simp only [World.size_alloc] at h); exact h) (fun h => by cases h) (entsC_one _) (by have := HEL.out; unfold maxLen; omega) (by have := HEL.out; omega) (Nat.le_trans HBA.out.size HBe4.out.size) ?_; intro v4 w4 ho4 hf4 hat4; obtain ⟨a4, c4, hv4, _⟩ := owns_form ho4; subst hv4; have HB4 : Hid (Below w.heap.size w w4) := (HBA.out.trans (HBe4.out.mono HBA.out.size)).trans (hf4.below (Nat.le_trans HBA.out.size HBe4.out.size) (fun q hq => (World.ownsRow.lt HOX.out q hq).1)); have HO4 : Hid (w4.ownsRow w.heap.size 37 2 (.slice a4 (es.length + 1) c4) (es ++ [(sk, sv)]).length (entsC (es ++ [(sk, sv)]))) := by { unfold Hid; rw [entsC_append, show (es ++ [(sk, sv)]).length = es.length + 1 from List.length_append]; exact ho4 }; have HEM : Hid ((es ++ [(sk, sv)]).length ≤ 62) := by { unfold Hid; have := HEL.out; simp; omega }; have HX4 : Hid (RowV w4 wr.heap.size 37 [.slice s1.a s1.n s1.cap, .slice s2.a s2.n s2.cap]) := RowV.of_block (RowV.below HX.out HX.out.lt HBe4.out) (hf4.block _ (by have := HX.out.lt; have := HBe4.out.size; omega) (fun e => Nat.lt_irrefl _ (HVL.out _ e))); have y0 : w4.cell? ⟨wr.heap.size, 0, none⟩ = some (.slice s1.a s1.n s1.cap) := RowV.cell? HX4.out 0; have y1 : w4.cell? ⟨wr.heap.size, 1, none⟩ = some (.slice s2.a s2.n s2.cap) := RowV.cell? HX4.out 1; have e1' := bs_run HP1.out HB4.out; have e2' := bs_run HKK.out HB4.out)
      | (at_builtin; have HBe5 : Hid (Below w4.heap.size w4 (w4.alloc (.cells #[.slice s1.a s1.n s1.cap, .slice s2.a s2.n s2.cap] 37))) := (Below.refl _ _).alloc (Nat.le_refl _) _; refine wp_appendV (by rfl) (.tmp 50) (.tmp 52) 27 (by rfl) w.heap.size 37 _ 2 48 Try.underlying27 Try.infoEnt rfl (by decide) (.slice a4 (es.length + 1) c4) (es ++ [(sk, sv)]).length (entsC (es ++ [(sk, sv)])) (by rfl) (owns_below HO4.out HBe5.out) (some ⟨w4.heap.size, 0, none⟩) 1 1 (entsC [(s1, s2)]) (by rfl) rfl (by have h := SlV.alloc_new w4 (entsC [(s1, s2)]) 37; (try simp only [World.size_alloc] at h); exact h) (fun h => by cases h) (entsC_one _) (by have := HEM.out; unfold maxLen; omega) (by have := HEM.out; omega) (Nat.le_trans HB4.out.size HBe5.out.size) ?_; intro v5 w5 ho5 hf5 hat5; obtain ⟨a5, c5, hv5, _⟩ := owns_form ho5; subst hv5; have HB5 : Hid (Below w.heap.size w w5) := (HB4.out.trans (HBe5.out.mono HB4.out.size)).trans (hf5.below (Nat.le_trans HB4.out.size HBe5.out.size) (fun q hq => (World.ownsRow.lt HO4.out q hq).1)); have HO5 : Hid (w5.ownsRow w.heap.size 37 2 (.slice a5 ((es ++ [(sk, sv)]).length + 1) c5) ((es ++ [(sk, sv)]) ++ [(s1, s2)]).length (entsC ((es ++ [(sk, sv)]) ++ [(s1, s2)]))) := by { unfold Hid; rw [entsC_append, show ((es ++ [(sk, sv)]) ++ [(s1, s2)]).length = (es ++ [(sk, sv)]).length + 1 from List.length_append]; exact ho5 }))
     refine ⟨⟨k + 1, ⟨a5, es.length + 1 + 1, c5⟩, es ++ [(sk, sv)] ++ [(s1, s2)], by omega, by go_num, by rw [hd'], rfl, HB5, by unfold Hid; have h := HO5.out; rw [show (es ++ [(sk, sv)]).length + 1 = es.length + 1 + 1 by simp] at h; exact h, ?_, memP (memP HM.out (Or.inr rfl)) (Or.inl HMN.out)⟩, by simp [intOf]; omega⟩
     unfold Hid; rw [HHH.out]; exact (BsL.push (e := (sk, sv)) HE.out HKK.out HVV.out).push HP1.out HP2.out
   ·have hd : decide (placeN its key < k) = true := by simp; omega
    have hd' : decide (placeN its key < k + 1) = true := by simp; omega
    have hnk : ¬ xk = key := hne (by omega)
    have hb2 : (xk == key) = false := by simpa using hnk
    have HH := HA4.out hp
    have HHH : Hid _ := HH
    clear hne heq HH HA1 HA2 HA3 HA4
    rw [hd]
    go_wp2_with (first
     | (at_builtin; have HBe4 : Hid (Below (wr.alloc (.cells #[.slice s1.a s1.n s1.cap, .slice s2.a s2.n s2.cap] 37)).heap.size (wr.alloc (.cells #[.slice s1.a s1.n s1.cap, .slice s2.a s2.n s2.cap] 37)) ((wr.alloc (.cells #[.slice s1.a s1.n s1.cap, .slice s2.a s2.n s2.cap] 37)).alloc (.cells #[.slice s1.a s1.n s1.cap, .slice s2.a s2.n s2.cap] 37))) := (Below.refl _ _).alloc (Nat.le_refl _) _; refine wp_appendV (by rfl) (.tmp 50) (.tmp 52) 27 (by rfl) w.heap.size 37 _ 2 48 Try.underlying27 Try.infoEnt rfl (by decide) (.slice v.a v.n v.cap) es.length (entsC es) (by rfl) (owns_below HOX.out HBe4.out) (some ⟨wr.heap.size + 1, 0, none⟩) 1 1 (entsC [(s1, s2)]) (by rfl) rfl (by have h := SlV.alloc_new (wr.alloc (.cells #[.slice s1.a s1.n s1.cap, .slice s2.a s2.n s2.cap] 37)) (entsC [(s1, s2)]) 37; (try simp only [World.size_alloc] at h); exact h) (fun h => by cases h) (entsC_one _) (by have := HEL.out; unfold maxLen; omega) (by have := HEL.out; omega) (Nat.le_trans HBA.out.size HBe4.out.size) ?_; intro v4 w4 ho4 hf4 hat4; obtain ⟨a4, c4, hv4, _⟩ := owns_form ho4; subst hv4; have HB4 : Hid (Below w.heap.size w w4) := (HBA.out.trans (HBe4.out.mono HBA.out.size)).trans (hf4.below (Nat.le_trans HBA.out.size HBe4.out.size) (fun q hq => (World.ownsRow.lt HOX.out q hq).1)); have HO4 : Hid (w4.ownsRow w.heap.size 37 2 (.slice a4 (es.length + 1) c4) (es ++ [(s1, s2)]).length (entsC (es ++ [(s1, s2)]))) := by { unfold Hid; rw [entsC_append, show (es ++ [(s1, s2)]).length = es.length + 1 from List.length_append]; exact ho4 }))
    refine ⟨⟨k + 1, ⟨a4, es.length + 1, c4⟩, es ++ [(s1, s2)], by omega, by go_num, by rw [hd'], rfl, HB4, HO4, ?_, memP HM.out (Or.inl HMN.out)⟩, by simp [intOf]; omega⟩
    unfold Hid; rw [HHH.out]; exact HE.out.push HP1.out HP2.out
  ·have hltI : ¬ (k : Int) < its.length := by omega
   obtain rfl : k = its.length := by omega
   have HEL : Hid (es.length ≤ 61) := (show es.length ≤ 61 by have h1 := HE.out.1; have h2 := hpA_len key value its.length (Nat.le_refl _); omega)
   have HDD : Hid (∃ dd, decide (placeN its key < its.length) = dd) := ⟨_, rfl⟩
   obtain ⟨dd, hdd⟩ := HDD.out
   rw [hdd]
   have HDD : Hid (decide (placeN its key < its.length) = dd) := hdd
   clear hdd
   go_upto_if 55 with fail
   go_cut [7] (fun lv wx => ∃ (v2 : SlR) (es2 : List (SlR × SlR)), lv = .slice v2.a v2.n v2.cap ∧ Hid (Below w.heap.size w wx) ∧ Hid (wx.ownsRow w.heap.size 37 2 (.slice v2.a v2.n v2.cap) es2.length (entsC es2)) ∧ Hid (BsL w es2 (putN its key value)) ∧ Hid (∀ e ∈ es2, e ∈ nes ∨ e = (sk, sv)))
   case first =>
    cases dd with
    | true =>
     have HEE : Hid (BsL w es (putN its key value)) := by unfold Hid; rw [← hpA_end value (by simpa using HDD.out)]; exact HE.out
     go_wp2
     go_meet
     exact ⟨v, es, rfl, HB, HO, HEE, HM⟩
    | false =>
     have HEE : Hid (BsL w (es ++ [(sk, sv)]) (putN its key value)) := by unfold Hid; rw [← hpA_last value (by simpa using HDD.out)]; exact HE.out.push HKK.out HVV.out
     go_wp2_with (first
      | (at_builtin; have HBe4 : Hid (Below wr.heap.size wr (wr.alloc (.cells #[.slice sk.a sk.n sk.cap, .slice sv.a sv.n sv.cap] 37))) := (Below.refl _ _).alloc (Nat.le_refl _) _; refine wp_appendV (by rfl) (.tmp 56) (.tmp 60) 27 (by rfl) w.heap.size 37 _ 2 48 Try.underlying27 Try.infoEnt rfl (by decide) (.slice v.a v.n v.cap) es.length (entsC es) (by rfl) (owns_below HO.out HBe4.out) (some ⟨wr.heap.size, 0, none⟩) 1 1 (entsC [(sk, sv)]) (by rfl) rfl (by have h := SlV.alloc_new wr (entsC [(sk, sv)]) 37; (try simp only [World.size_alloc] at h); exact h) (fun h => by cases h) (entsC_one _) (by have := HEL.out; unfold maxLen; omega) (by have := HEL.out; omega) (Nat.le_trans HB.out.size HBe4.out.size) ?_; intro v4 w4 ho4 hf4 hat4; obtain ⟨a4, c4, hv4, _⟩ := owns_form ho4; subst hv4; have HB4 : Hid (Below w.heap.size w w4) := (HB.out.trans (HBe4.out.mono HB.out.size)).trans (hf4.below (Nat.le_trans HB.out.size HBe4.out.size) (fun q hq => (World.ownsRow.lt HO.out q hq).1)); have HO4 : Hid (w4.ownsRow w.heap.size 37 2 (.slice a4 (es.length + 1) c4) (es ++ [(sk, sv)]).length (entsC (es ++ [(sk, sv)]))) := by { unfold Hid; rw [entsC_append, show (es ++ [(sk, sv)]).length = es.length + 1 from List.length_append]; exact ho4 }))
     go_meet
     exact ⟨⟨a4, es.length + 1, c4⟩, es ++ [(sk, sv)], rfl, HB4, HO4, HEE, memP HM.out (Or.inr rfl)⟩
   case rest =>
    obtain ⟨⟨va2, vn2, vc2⟩, es2, rfl, HBc, HOc, HEc, HMc⟩ := hcut
    simp only at HOc
    obtain rfl : vn2 = es2.length := (owns_cap (a := va2) (n' := vn2) (cap := vc2) HOc.out).1
    have hE2 : es2.length = (putN its key value).length := HEc.out.1
    rw [putN_len] at hE2
    have hsbw : sb < w.heap.size := HS.out.row.lt
    have r0 : wc.cell? ⟨hb, 0, none⟩ = some (.pointer (some ⟨sb, 0, none⟩)) := by rw [HBc.out.cell (p := ⟨hb, 0, none⟩) hhb]; exact RowV.cell? HR.out 0
    have HPUT : Hid (Calls _ _ _ _ _) := sto_put sb N en tr mp ms xs its tds sk sv key value wc (HS.out.below HBc.out) (HKK.out.below HBc.out) (HVV.out.below HBc.out) (by have h := HKO.out.1; unfold keyOk at h; simp at h; unfold maxLen; omega) (by have h := HKO.out.2; unfold maxLen; omega)
    unfold SlR.val at HPUT
    have hpe := putE_ok its HKO.out.1 HKO.out.2
    have HRc : Hid (RowV wc hb 32 [.pointer (some ⟨sb, 0, none⟩), .slice na' its.length nc, past, done]) := RowV.below HR.out hhb HBc.out
    by_cases hfull : thereB its key = false ∧ its.length = 60
    ·rw [if_pos hfull] at hpe
     have HPL : Hid (putL its key value = its) := by unfold Hid putL; rw [hpe]; rfl
     rw [hfull.1, hfull.2] at hE2
     have hgt : (60 : Int) < es2.length := by simp at hE2; omega
     have hgtm : (es2.length : Int) ≤ 61 := by simp at hE2; omega
     clear hE2 hfull
     go_wp2_with (first
      | (go_at_call 32; refine HPUT.out.mono ?_; rintro e w6 ⟨rfl, en', xs', hS6, hf6, hF6⟩; rw [hpe]))
     go_ret
     rw [HPL.out] at hS6
     unfold hpost
     rw [HPL.out]
     refine ⟨rfl, en', xs', ⟨na', its.length, nc⟩, nes, hS6, ⟨owns_frame (owns_below HEK.out.own HBc.out) hf6 (fun k hk e => (HS1.out k (Or.inl (Or.inl hk))).1 e), HEK.out.len, ((HBS.out.below HBc.out).frame hf6 (fun k hk e => (HS1.out k (Or.inl (Or.inr hk))).1 e)).2⟩, HRc.out.of_block (hf6.block _ HRc.out.lt HS3.out), (Frame.of_below_all HBc.out).inside hf6 (fun x _ e => Or.inl e), fun k hk hlt => hF6 k hk (Nat.lt_of_lt_of_le hlt HBc.out.size), fun k hk _ => Or.inl hk⟩
    ·rw [if_neg hfull] at hpe
     have HPL : Hid (putL its key value = putN its key value) := by unfold Hid putL; rw [hpe]; rfl
     have hle : (es2.length : Int) ≤ 60 := by
      cases ht : thereB its key with
      | true => rw [ht] at hE2; simp at hE2; omega
      | false =>
       rw [ht] at hE2 hfull
       simp at hE2
       have : ¬ its.length = 60 := fun e => hfull ⟨rfl, e⟩
       omega
     have hngt : ¬ (60 : Int) < es2.length := by omega
     clear hE2 hfull
     go_wp2_with (first
      | (go_at_call 32; refine HPUT.out.mono ?_; rintro e w6 ⟨rfl, en', xs', hS6, hf6, hF6⟩; rw [hpe]; have HR6 : Hid (RowV w6 hb 32 [.pointer (some ⟨sb, 0, none⟩), .slice na' its.length nc, past, done]) := HRc.out.of_block (hf6.block _ HRc.out.lt HS3.out); have g1 : w6.cell? ⟨hb, 1, none⟩ = some (.slice na' its.length nc) := RowV.cell? HR6.out 1; have g2 : w6.frozen? ⟨hb, 1, none⟩ = false := RowV.frozen HR6.out 1))
     go_ret
     rw [HPL.out] at hS6
     unfold hpost
     rw [HPL.out]
     have hfs : Frame (fun k => k = hb) w6 (w6.setCell ⟨hb, 1, none⟩ (.slice va2 es2.length vc2)) := Frame.setCell (S := fun k => k = hb) (Frame.refl _ _) (p := ⟨hb, 1, none⟩) rfl _
     have hbl : ∀ k, (∃ e ∈ es2, blkOf e.1 k ∨ blkOf e.2 k) → ensF ⟨na', its.length, nc⟩ nes k ∨ blkOf sk k ∨ blkOf sv k := fun k ⟨e, he, hk⟩ => by
      rcases HMc.out e he with h | rfl
      ·exact Or.inl (Or.inr ⟨e, h, hk⟩)
      ·exact Or.inr hk
     refine ⟨rfl, en', xs', ⟨va2, es2.length, vc2⟩, es2, hS6.frame hfs (fun k hk e => ?_), ⟨owns_base (owns_frame (owns_frame HOc.out hf6 (fun k hk e => ?_)) hfs (fun k hk e => ?_)) (fun k _ => Nat.zero_le _), HEc.out.1, (((HEc.out.below HBc.out).frame hf6 (fun k hk e => (HS1.out k (hbl k hk)).1 e)).frame hfs (fun k hk e => (HS1.out k (hbl k hk)).2 e)).2⟩, HR6.out.set 1 _, ((Frame.of_below_all HBc.out).inside hf6 (fun x _ e => Or.inl e)).inside hfs (fun x _ e => Or.inr e), fun k hk hlt => hF6 k hk (Nat.lt_of_lt_of_le hlt HBc.out.size), fun k hk hlt => ?_⟩
     ·subst e; exact HS2.out (hF6 _ hk (Nat.lt_of_lt_of_le hhb HBc.out.size))
     ·have := (HOc.out.lt k hk).1; omega
     ·have := (HOc.out.lt k hk).1; omega
     ·rcases hk with hk | hk
      ·have := (HOc.out.lt k hk).1; omega
      ·exact hbl k hk
end Go.Proofs.Ytekegfbjbainhaa
