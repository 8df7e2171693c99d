import Derived.Test.YtekegfbjbainhaaKJoin9
import Derived.Deep.RegionLaw
set_option linter.unusedVariables false
set_option linter.unusedSimpArgs false

namespace Go.Proofs.Ytekegfbjbainhaa
open Go.RowKit
def keyF (xs : List EnP) (k : Nat) : Prop := ∃ x ∈ xs, ∃ y, x.k.a = some y ∧ y.block = k
theorem PageIn.part {w : World} {sb : Nat} {mp : Option Nat} {es : List MEn} {en : SlR} {xs : List EnP} {its : List ItR} (hE : EntAt w en xs its) (h60 : its.length ≤ 60) (hok : ∀ x ∈ its, ItOk x) (hnm : ∀ x ∈ its, x.below = 0) (hf : ∀ k, entF en xs k → ¬ KMut sb mp es k) (c : Nat × Nat) (hc : c.1 + c.2 ≤ its.length) :
  PageIn w sb mp es 0 (cutS en.a en.cap c.1 10) c.2 ((xs.drop c.1).take c.2) (partOf its c) ⟨none, 0, 0⟩ [] := by
 obtain ⟨hen, hnc, hcm, _⟩ := owns_cap (a := en.a) (n' := en.n) (cap := en.cap) hE.own
 have hsl := (SlV.ofOwn (s := en) hE.own).1
 have hl := hE.len
 have hd8 : ∀ x ∈ xs.drop c.1, x.d.length = 8 := fun x hx => hE.d8 x (List.mem_of_mem_drop hx)
 have hlen : ((xs.drop c.1).take c.2).length = c.2 := by rw [List.length_take, List.length_drop]; omega
 refine ⟨?_, hlen.symm, ?_, ?_, ⟨?_, fun h => absurd rfl h, ?_, ?_, by omega⟩, SlV.nil _ _, rfl, fun _ => rfl, by simp, (fun b hb => by cases hb), ?_, (fun b hb => by cases hb)⟩
 ·have h1 := SlV.cut (n := en.n) (cap := en.cap) (i := c.1) (size := 10) hsl (by rw [ensC_length _ hE.d8, hen]) (by omega) (by omega)
  rw [← ensC_drop xs hE.d8 c.1 (by omega)] at h1
  have h2 := h1.take (c.2 * 10)
  rw [← ensC_take (xs.drop c.1) hd8 c.2 (by rw [List.length_drop]; omega)] at h2
  exact h2
 ·rw [hlen]; unfold partOf; rw [List.length_take, List.length_drop]; omega
 ·intro i h1 h2
  have hi : i < c.2 := by rw [hlen] at h1; exact h1
  have e1 : ((xs.drop c.1).take c.2)[i] = xs[c.1 + i]'(by omega) := by rw [List.getElem_take, List.getElem_drop]
  have e2 : (partOf its c)[i] = its[c.1 + i]'(by omega) := by
   have h3 : (partOf its c)[i]? = its[c.1 + i]? := by unfold partOf; rw [List.getElem?_take_of_lt hi, List.getElem?_drop]
   rw [List.getElem?_eq_getElem h2, List.getElem?_eq_getElem (by omega)] at h3
   exact Option.some.inj h3
  rw [e1, e2]
  exact (hE.ok _ (by omega) (by omega)).toL
 ·intro x hx; exact hok x (List.mem_of_mem_drop (List.mem_of_mem_take hx))
 ·intro x hx; exact hnm x (List.mem_of_mem_drop (List.mem_of_mem_take hx))
 ·unfold partOf; rw [List.length_take, List.length_drop]; omega
 ·intro x hx y hy
  exact hf _ (Or.inr ⟨x, List.mem_of_mem_drop (List.mem_of_mem_take hx), Or.inl ⟨y, hy, rfl⟩⟩)
set_option maxRecDepth 100000 in
set_option maxHeartbeats 4000000 in
theorem lowest_any (sb N : Nat) (en tr : SlR) (mp : Option Nat) (es : List MEn) (xs : List EnP) (its : List ItR) (w : World) (hR : StoRow w sb en mp tr) (K : KnownAt w sb mp es N) (hN : N ≤ 900000) (hE : EntAt w en xs its) (h60 : its.length ≤ 60) (hok : ∀ x ∈ its, ItOk x) (hnm : ∀ x ∈ its, x.below = 0) (hf : ∀ k, entF en xs k → ¬ KMut sb mp es k) :
  Calls Try.prog 76 #[.pointer (some ⟨sb, 1, none⟩), en.val] w fun e w' => ∃ (o : SlR) (nds : List Nd) (M : Nat) (mp' : Option Nat) (es' : List MEn), e = .returned o.val ∧ TrSt w sb en tr mp es (keyF xs) w' M mp' es' o nds ∧ M ≤ N + 61 ∧ nds.map (·.its) = partedN 0 its ∧ (∀ nd ∈ nds, nd.level = 0 ∧ nd.bl = []) := by
 obtain ⟨hen, hnc, hcm, had⟩ := owns_cap (a := en.a) (n' := en.n) (cap := en.cap) hE.own
 have hst := TrSt.start (InF := keyF xs) hR K
 by_cases hne : its = []
 ·subst hne
  have hx0 : xs = [] := List.eq_nil_of_length_eq_zero (by have := hE.len; simp at this; omega)
  subst hx0
  have hn0 : en.n = 0 := by simpa using hen
  have hpg : PageIn w sb mp es 0 none 0 [] [] ⟨none, 0, 0⟩ [] := ⟨SlV.nil _ _, rfl, rfl, (fun i h1 => absurd h1 (Nat.not_lt_zero _)), ⟨(fun x hx => by cases hx), fun h => absurd rfl h, (fun x hx => by cases hx), by simp, by omega⟩, SlV.nil _ _, rfl, fun _ => rfl, by simp, (fun b hb => by cases hb), (fun x hx => by cases hx), (fun b hb => by cases hb)⟩
  have HC : Hid (Calls _ _ _ _ _) := node_any sb N en tr mp es 0 none 0 0 [] [] ⟨none, 0, 0⟩ [] w hR K (by omega) hpg
  have HST : Hid (TrSt w sb en tr mp es (keyF []) w N mp es ⟨none, 0, 0⟩ []) := hst
  have hnI : ((en.n : Int) == 0) = true := by simp [hn0]
  clear hE hf hst hpg hen hnc hcm had hn0
  unfold SlR.val at HC ⊢
  go_enter Try.func76, Try.ntmps76
  go_wp2_with (go_at_call 89; refine HC.out.mono ?_; rintro e w1 ⟨nd, rfl, hout⟩)
  go_ret
  have hlv := hout
  obtain ⟨_, _, _, _, _, h1, h2, h3, _⟩ := hlv
  have ho := owns_built w1 w.heap.size 96 1 1 [ptrV nd.b] (by obtain ⟨_, _, _, _, _, _, _, _, _, _, g, _⟩ := hout; exact g.size) rfl (by simp [maxLen])
  obtain ⟨mp', es', hst2⟩ := HST.out.step (o' := ⟨some ⟨w1.heap.size, 0, none⟩, 1, 1⟩) hout (fun k hk => by rcases hk with ⟨x, hx, _⟩ | hk; cases hx; cases hk) (fun k hk => by rcases hk with ⟨x, hx, _⟩ | hk; cases hx; cases hk) ho (Below.refl _ _) ((Frame.refl _ _).alloc _) (Or.inr rfl)
  exact ⟨⟨some ⟨w1.heap.size, 0, none⟩, 1, 1⟩, [nd], N + 1, mp', es', rfl, hst2, by omega, by simp [h2, partedN, partF], fun x hx => by simp only [List.mem_singleton] at hx; subst hx; exact ⟨h1, h3⟩⟩
 ·have hpos := List.length_pos_iff.2 hne
  have hlx := hE.len
  have HPC : Hid (Calls _ _ _ _ _) := partedE_any 0 en.a en.n en.cap xs its w (by rw [hen, hE.len]) hE.len (by omega) (by omega) (by omega) hcm hok (SlV.ofOwn (s := en) hE.own).1 hE.ok
  have HCP : Hid ((cutsN 0 its).map (partOf its) = partedN 0 its) := cuts_parted 0 its hne
  have HCO : Hid (∀ c ∈ cutsN 0 its, c.1 + c.2 ≤ its.length) := fun c hc => cuts_ok 0 its its.length (Nat.le_refl _) c hc
  have HCL : Hid ((cutsN 0 its).length ≤ 60) := by have := (cutAt_le 0 its its.length).2; unfold Hid cutsN; omega
  generalize cutsN 0 its = cs at *
  have hnI : ((en.n : Int) == 0) = false := by simp; omega
  have HNODE : Hid (∀ (wr : World) (M : Nat) (mp1 : Option Nat) (es1 : List MEn) (o : SlR) (nds : List Nd) (c : Nat × Nat), TrSt w sb en tr mp es (keyF xs) wr M mp1 es1 o nds → M ≤ 1000000 → c ∈ cs → Calls Try.prog 89 #[.pointer (some ⟨sb, 1, none⟩), .agg #[.int .i64 0, .slice (cutS en.a en.cap c.1 10) c.2 (en.cap - c.1)], .slice none 0 0] wr fun e w' => ∃ nd, e = .returned (.pointer (some ⟨nd.b, 0, none⟩)) ∧ NodeOut wr sb M en tr mp1 es1 0 ((xs.drop c.1).take c.2) (partOf its c) [] nd w') := fun wr M mp1 es1 o nds c h hM hc => by
   have hEr := hE.frame h.frame hf
   refine node_any sb M en tr mp1 es1 0 _ c.2 _ _ _ ⟨none, 0, 0⟩ [] wr h.row h.known hM (PageIn.part hEr h60 hok hnm (fun k hk hm => hf k hk (h.muts k hm ?_)) c (HCO.out c hc))
   rcases hk with hk | ⟨x, hx, ⟨y, hy, rfl⟩ | ⟨y, hy, rfl⟩⟩
   ·exact (hE.own.lt k hk).2
   ·obtain ⟨i, hi, rfl⟩ := List.getElem_of_mem hx
    exact (hE.ok i hi (by omega)).key.lt y hy
   ·obtain ⟨i, hi, rfl⟩ := List.getElem_of_mem hx
    exact (hE.ok i hi (by omega)).val.lt y hy
  have HKL : Hid (∀ k, keyF xs k → k < w.heap.size) := fun k ⟨x, hx, y, hy, hk⟩ => by
   obtain ⟨i, hi, rfl⟩ := List.getElem_of_mem hx
   rw [← hk]; exact (hE.ok i hi (by omega)).key.lt y hy
  have HST : Hid (TrSt w sb en tr mp es (keyF xs) w N mp es ⟨none, 0, 0⟩ []) := hst
  clear hE hf hst had hcm hnc hen hok hnm h60 hpos hlx
  unfold SlR.val at HPC ⊢
  go_enter Try.func76, Try.ntmps76
  go_wp2_with (go_at_call 90; refine HPC.out.mono ?_; rintro e w1 ⟨p, rfl, hop, hbp⟩)
  have hpn : p.n = cs.length := (owns_cap (a := p.a) (n' := p.n) (cap := p.cap) hop).1
  have HPN : Hid (p.n = cs.length) := hpn
  have hpnI : (p.n : Int) ≤ 60 := by have := HCL.out; omega
  have hp60 : p.n ≤ 60 := by have := HCL.out; omega
  have HOP : Hid (w1.ownsRow w.heap.size 83 1 (.slice p.a p.n p.cap) cs.length (cs.map (cutV en.a en.cap 10))) := hop
  have HST1 : Hid (TrSt w sb en tr mp es (keyF xs) w1 N mp es ⟨none, 0, 0⟩ []) := HST.out.below hbp
  clear hpn hop
  go_loopw [5, 7, 18] (fun nv _ ix wr => ∃ (k M : Nat) (mp1 : Option Nat) (es1 : List MEn) (o : SlR) (nds : List Nd), k ≤ p.n ∧ ix = .int .i64 k ∧ nv = o.val ∧ M ≤ N + k ∧ Hid (TrSt w sb en tr mp es (keyF xs) wr M mp1 es1 o nds) ∧ Hid (nds.map (·.its) = (cs.take k).map (partOf its)) ∧ Hid (∀ nd ∈ nds, nd.level = 0 ∧ nd.bl = []) ∧ Hid (wr.ownsRow w.heap.size 83 1 (.slice p.a p.n p.cap) cs.length (cs.map (cutV en.a en.cap 10)))) (fun _ _ ix _ => p.n - (intOf ix).toNat)
  case atStart => exact ⟨0, N, mp, es, ⟨none, 0, 0⟩, [], by omega, by simp, rfl, by omega, HST1, rfl, (fun nd hnd => by cases hnd), HOP⟩
  case round =>
   obtain ⟨k, M, mp1, es1, o, nds, hk, rfl, rfl, hM, HT, HI, HL, HPA⟩ := hrel
   by_cases hlt : k < p.n
   ·have hltI : (k : Int) < p.n := by omega
    have hkc : k < cs.length := by have := HPN.out; omega
    obtain ⟨b, q, hpa, hb, hcell⟩ := (SlV.ofOwn (s := p) HPA.out).1 k (by simpa using hkc)
    have hc2 : wr.cell? ⟨b, q + k, none⟩ = some (.slice (cutS en.a en.cap cs[k].1 10) cs[k].2 (en.cap - cs[k].1)) := by rw [hcell]; simp [cutV]
    have HC : Hid (Calls _ _ _ _ _) := HNODE.out wr M mp1 es1 o nds cs[k] HT.out (by omega) (List.getElem_mem hkc)
    have HTK : Hid ((cs.take (k + 1)).map (partOf its) = (cs.take k).map (partOf its) ++ [partOf its cs[k]]) := by unfold Hid; rw [List.take_succ_eq_append_getElem hkc, List.map_append]; rfl
    have HIN : Hid (∀ k', ((∃ x ∈ (xs.drop cs[k].1).take cs[k].2, ∃ y, x.k.a = some y ∧ y.block = k') ∨ k' ∈ ([] : List Nat)) → keyF xs k') := fun k' h => by
     rcases h with ⟨x, hx, h⟩ | h
     ·exact ⟨x, List.mem_of_mem_drop (List.mem_of_mem_take hx), h⟩
     ·cases h
    obtain ⟨pa, pn, pc⟩ := p
    simp only at hpa hltI hlt hk hp60 hpnI HPN HPA HOP
    subst hpa
    generalize cs[k] = c at *
    have HNK : Hid (nds.length ≤ k) := by
     have := congrArg List.length HI.out
     simp at this
     unfold Hid; omega
    have HOW : Hid (∀ (w2 : World) (nd : Nd), NodeOut wr sb M en tr mp1 es1 0 ((xs.drop c.1).take c.2) (partOf its c) [] nd w2 → (w2.alloc (.cells #[.pointer (some ⟨nd.b, 0, none⟩)] 96)).ownsRow w.heap.size 96 1 (.slice o.a o.n o.cap) nds.length (nds.map (fun x => ptrV x.b)) ∧ w.heap.size ≤ (w2.alloc (.cells #[.pointer (some ⟨nd.b, 0, none⟩)] 96)).heap.size ∧ w2.ownsRow w.heap.size 83 1 (.slice (some ⟨b, q, none⟩) pn pc) cs.length (cs.map (cutV en.a en.cap 10))) := fun w2 nd hout => by
     obtain ⟨_, _, _, _, _, _, _, _, _, _, r6, _⟩ := hout
     have h1 := owns_frame HT.out.own r6 (fun k hk => (HT.out.onew k hk).1)
     refine ⟨h1.alloc _, ?_, owns_frame HPA.out r6 (KMut.ne HT.out.row HT.out.known HPA.out (by decide) (by decide))⟩
     have := HT.out.frame.size
     have := r6.size
     simp; omega
    have H1 : Hid (∀ nd : Nd, ∀ u ∈ [Value.pointer (some ⟨nd.b, 0, none⟩)], u.oneCell' = true) := fun nd u hu => by simp at hu; subst hu; rfl
    clear hcell
    unfold SlR.val
    go_wp2_with (first
     | (go_at_call 89; refine HC.out.mono ?_; rintro e w2 ⟨nd, rfl, hout⟩; obtain ⟨hox, hwx, hpx⟩ := HOW.out w2 nd hout)
     | (at_builtin; refine wp_appendV (by rfl) (.tmp 22) (.tmp 27) 87 (by rfl) w.heap.size 96 _ 1 8 Try.underlying87 Try.infoNodeP rfl (by decide) (.slice o.a o.n o.cap) nds.length (nds.map (fun x => ptrV x.b)) (by rfl) hox (some ⟨w2.heap.size, 0, none⟩) 1 1 [.pointer (some ⟨nd.b, 0, none⟩)] (by rfl) rfl (SlV.alloc_new w2 _ _) (fun h => by cases h) (H1.out nd) (by have := HNK.out; unfold maxLen; omega) (by have := HNK.out; omega) hwx ?_; intro v3 w3 ho3 hf3 hat3; obtain ⟨a3, c3, hv3, _⟩ := owns_form ho3; subst hv3))
    have hlv := hout
    obtain ⟨_, _, _, _, _, g1, g2, g3, _⟩ := hlv
    obtain ⟨mp2, es2, hst2⟩ := HT.out.step (o' := ⟨a3, nds.length + 1, c3⟩) hout (fun k' hk' _ => Or.inr (HIN.out k' hk')) (fun k' hk' e => by have := HKL.out k' (HIN.out k' hk'); have := (HT.out.own.lt k' e).1; omega) ho3 ((Below.refl _ _).alloc (Nat.le_refl _) _) hf3 hat3
    refine ⟨⟨k + 1, M + 1, mp2, es2, ⟨a3, nds.length + 1, c3⟩, nds ++ [nd], by omega, by go_num, rfl, by omega, hst2, ?_, ?_, ?_⟩, by simp [intOf]; omega⟩
    ·unfold Hid; rw [HTK.out, List.map_append, HI.out]; simp [g2]
    ·intro x hx
     rcases List.mem_append.1 hx with hx | hx
     ·exact HL.out x hx
     ·simp only [List.mem_singleton] at hx; subst hx; exact ⟨g1, g3⟩
    ·exact owns_frame (hpx.alloc _) hf3 (fun k' hk' e => owns_ne2 (hpx.alloc _) hox (by decide) k' hk' e)
   ·obtain rfl : k = p.n := by omega
    have HKE : Hid (cs.take p.n = cs) := by unfold Hid; rw [HPN.out, List.take_length]
    unfold SlR.val
    go_wp2
    go_ret
    exact ⟨o, nds, M, mp1, es1, rfl, HT.out, by omega, by rw [HI.out, HKE.out, HCP.out], HL.out⟩
end Go.Proofs.Ytekegfbjbainhaa


namespace Go.Proofs.Ytekegfbjbainhaa
open Go.RowKit
theorem TrSt.compose {w0 w w' : World} {sb N M : Nat} {en tr : SlR} {mp0 mp mp' : Option Nat} {es0 es es' : List MEn} {InF : Nat → Prop} {o o' : SlR} {nds nds' : List Nd} (h : TrSt w0 sb en tr mp0 es0 InF w N mp es o nds) (g : TrSt w sb en tr mp es (fun k => ∃ nd ∈ nds, ndF nd k) w' M mp' es' o' nds') : TrSt w0 sb en tr mp0 es0 InF w' M mp' es' o' nds' := by
 have hz := h.frame.size
 have key : ∀ k, (KFoot es k ∨ ∃ nd ∈ nds, ndF nd k) → k < w0.heap.size → KFoot es0 k ∨ InF k := fun k hk hlt => by
  rcases hk with hk | ⟨nd, hnd, hk⟩
  ·exact h.kfoot k hk hlt
  ·exact h.nfoot nd hnd k hk hlt
 exact ⟨g.row, g.known, h.frame.inside g.frame (fun k hlt hk => h.muts k hk hlt), fun k hk hlt => h.muts k (g.muts k hk (by omega)) hlt, owns_base g.own (fun k hk => by have := (g.own.lt k hk).1; omega), g.onew, g.nodes, fun k hk hlt => key k (g.kfoot k hk (by omega)) hlt, fun nd hnd k hk hlt => key k (g.nfoot nd hnd k hk (by omega)) hlt⟩
def upE (nd : Nd) : EnP := ⟨nd.la, ⟨none, 0, 0⟩, digB (codeB nd.level nd.its)⟩
def upI (nd : Nd) : ItR := upOf nd.level nd.its
theorem PageIn.up {w : World} {sb : Nat} {mp : Option Nat} {es : List MEn} {level : Nat} {a : Option Addr} {bs : SlR} {nds : List Nd} (hlv : level ≠ 0) (hl6 : level ≤ 6) (h60 : nds.length ≤ 60) (hnd : ∀ nd ∈ nds, NdOk w nd ∧ (∀ k, ndF nd k → ¬ KMut sb mp es k)) (hs : SlE w a (nds.map upE))
  (hb : SlV w bs.a ((nds.map (·.b)).map ptrV)) (hbn : bs.n = nds.length) (hbnil : bs.a = none → bs.cap = 0) : PageIn w sb mp es level a nds.length (nds.map upE) (nds.map upI) bs (nds.map (·.b)) := by
 refine ⟨hs, by simp, by simp, ?_, ⟨?_, ?_, ?_, by simp; omega, hl6⟩, hb, by simp [hbn], hbnil, by simp; omega, ?_, ?_, ?_⟩
 ·intro i h1 h2
  have hi : i < nds.length := by simpa using h1
  simp only [List.getElem_map]
  have h := (hnd nds[i] (List.getElem_mem hi)).1
  exact ⟨h.la, fun e => absurd e hlv, fun _ => rfl, rfl⟩
 ·intro x hx
  obtain ⟨nd, hn, rfl⟩ := List.mem_map.1 hx
  exact ⟨lastK_le (hnd nd hn).1.pg.ok, by show (digB _).length ≤ 12; rw [digB_length]; omega⟩
 ·intro _ x hx
  obtain ⟨nd, hn, rfl⟩ := List.mem_map.1 hx
  rfl
 ·intro x hx
  obtain ⟨nd, hn, rfl⟩ := List.mem_map.1 hx
  rfl
 ·intro b hb
  obtain ⟨nd, hn, rfl⟩ := List.mem_map.1 hb
  exact ⟨_, (hnd nd hn).1.row⟩
 ·intro x hx y hy
  obtain ⟨nd, hn, rfl⟩ := List.mem_map.1 hx
  exact (hnd nd hn).2 _ (Or.inr (Or.inl ⟨y, hy, rfl⟩))
 ·intro b hb
  obtain ⟨nd, hn, rfl⟩ := List.mem_map.1 hb
  exact (hnd nd hn).2 _ (Or.inl rfl)
structure BoxSt (w wr : World) (pb level : Nat) (v : SlR) (xs : List EnP) : Prop where
 bel : Below w.heap.size w wr
 row : RowV wr pb 128 [.int .i64 (level : Int), v.val]
 own : wr.ownsRow w.heap.size 103 10 v.val xs.length (ensC xs)
theorem BoxSt.push {w wr W w3 : World} {pb level : Nat} {v v' : SlR} {xs : List EnP} {x : EnP} (h : BoxSt w wr pb level v xs) (hpb : w.heap.size ≤ pb) (hW : Below wr.heap.size wr W) (ho : w3.ownsRow w.heap.size 103 10 v'.val (xs.length + 1) (ensC xs ++ enC x)) (hf : Frame (fun k => v.val.ownBlock = some k) W w3) : BoxSt w (w3.setCell ⟨pb, 1, none⟩ v'.val) pb level v' (xs ++ [x]) ∧ w3.cell? ⟨pb, 1, none⟩ = some v.val ∧ w3.frozen? ⟨pb, 1, none⟩ = false := by
 have hoW := owns_below h.own hW
 have hrW := h.row.below h.row.lt hW
 have hr3 : RowV w3 pb 128 [.int .i64 (level : Int), v.val] := hrW.of_block (hf.block pb hrW.lt (fun e => owns_ne hoW hrW (by decide) e))
 have hbW : Below w.heap.size w W := h.bel.trans (hW.mono h.bel.size)
 have hb3 : Below w.heap.size w w3 := hbW.trans (hf.below hbW.size (fun k hk => (hoW.lt k hk).1))
 refine ⟨⟨hb3.setCell (p := ⟨pb, 1, none⟩) hpb _, by simpa using hr3.set 1 v'.val, ?_⟩, hr3.cell 1 (by simp), hr3.frozen 1⟩
 have e1 : ensC (xs ++ [x]) = ensC xs ++ enC x := by simp [ensC]
 rw [List.length_append, e1]
 exact owns_frame ho ((Frame.refl (fun k => k = pb) _).setCell (p := ⟨pb, 1, none⟩) rfl _) (fun k hk e => owns_ne ho hr3 (by decide) (by rw [hk, e]))
end Go.Proofs.Ytekegfbjbainhaa
