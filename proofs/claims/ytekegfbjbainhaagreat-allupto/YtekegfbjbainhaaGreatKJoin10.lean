import Derived.Test.YtekegfbjbainhaaGreatKJoin9
set_option linter.unusedVariables false
set_option linter.unusedSimpArgs false

namespace Go.Proofs.YtekegfbjbainhaaGreat
open Go.RowKit
theorem map_part (nds : List Nd) (c : Nat × Nat) : ((nds.drop c.1).take c.2).map upI = partOf (nds.map upI) c := by
 unfold partOf; rw [← List.map_drop, ← List.map_take]
set_option maxRecDepth 100000 in
set_option maxHeartbeats 8000000 in
theorem above_any (sb N level : Nat) (en tr : SlR) (mp : Option Nat) (es : List MEn) (o : SlR) (nds : List Nd) (w : World) (hR : StoRow w sb en mp tr) (K : KnownAt w sb mp es N) (hN : N ≤ 900000) (hlv : level ≠ 0) (hl6 : level ≤ 6) (hne : nds ≠ []) (h60 : nds.length ≤ 60)
  (ho : w.ownsRow 0 138 1 o.val nds.length (nds.map (fun x => ptrV x.b))) (hom : ∀ k, o.val.ownBlock = some k → ¬ KMut sb mp es k) (hnd : ∀ nd ∈ nds, NdOk w nd ∧ (∀ k, ndF nd k → ¬ KMut sb mp es k)) :
  Calls Tryz.prog 117 #[.pointer (some ⟨sb, 1, none⟩), .int .i64 (level : Int), o.val] w fun e w' => ∃ (o' : SlR) (nds' : List Nd) (M : Nat) (mp' : Option Nat) (es' : List MEn), e = .returned o'.val ∧ TrSt w sb en tr mp es (fun k => ∃ nd ∈ nds, ndF nd k) w' M mp' es' o' nds' ∧ M ≤ N + 61 ∧ nds'.map (·.its) = partedN level (nds.map upI) ∧ (∀ nd ∈ nds', nd.level = level) ∧ nds'.map (·.bl) = (cutsN level (nds.map upI)).map (fun c => ((nds.drop c.1).take c.2).map (·.b)) := by
 obtain ⟨hon, hoc, hcm, had⟩ := owns_cap (a := o.a) (n' := o.n) (cap := o.cap) ho
 have hos := (SlV.ofOwn (s := o) ho).1
 have hos2 : SlV w o.a ((nds.map (·.b)).map ptrV) := by rw [List.map_map]; exact hos
 have hst := TrSt.start (InF := fun k => ∃ nd ∈ nds, ndF nd k) hR K
 have hup : nds.map upI ≠ [] := by simpa using hne
 have hiok : ∀ x ∈ nds.map upI, ItOk x := fun x hx => by
  obtain ⟨nd, hn, rfl⟩ := List.mem_map.1 hx
  exact ⟨lastK_le (hnd nd hn).1.pg.ok, by show (digB _).length ≤ 12; rw [digB_length]; omega⟩
 have HPC : Hid (Calls _ _ _ _ _) := partedN_any level o.a o.n o.cap (nds.map (·.b)) (nds.map upI) w (by simp [hon]) (by simp) (by simp; omega) (by omega) (by omega) hcm hiok hos2 (fun i h1 h2 => by
  have hi : i < nds.length := by simpa using h1
  have h := (hnd nds[i] (List.getElem_mem hi)).1
  refine ⟨nds[i].la, ?_, ?_, ?_⟩
  ·simp only [List.getElem_map]; exact h.row.cell 0 (by simp [ndC])
  ·simp only [List.getElem_map]; exact h.row.lt
  ·simp only [List.getElem_map]; exact h.la)
 have HCP : Hid ((cutsN level (nds.map upI)).map (partOf (nds.map upI)) = partedN level (nds.map upI)) := cuts_parted level _ hup
 have HCO : Hid (∀ c ∈ cutsN level (nds.map upI), c.1 + c.2 ≤ nds.length) := fun c hc => by have := cuts_ok level (nds.map upI) (nds.map upI).length (Nat.le_refl _) c hc; simpa using this
 have HCL : Hid ((cutsN level (nds.map upI)).length ≤ 60) := by have := (cutAt_le level (nds.map upI) (nds.map upI).length).2; unfold Hid cutsN; simp at this ⊢; omega
 generalize cutsN level (nds.map upI) = cs at *
 have hlvI : (level : Int) ≤ 6 := by omega
 -- the nodes of the level below, while nothing but what may be written changes
 have HOLD : Hid (∀ (wr : World) (M : Nat) (mp1 : Option Nat) (es1 : List MEn) (o2 : SlR) (nds2 : List Nd), TrSt w sb en tr mp es (fun k => ∃ nd ∈ nds, ndF nd k) wr M mp1 es1 o2 nds2 → SlV wr o.a ((nds.map (·.b)).map ptrV) ∧ (∀ nd ∈ nds, NdOk wr nd ∧ (∀ k, ndF nd k → ¬ KMut sb mp1 es1 k))) := fun wr M mp1 es1 o2 nds2 h => by
  refine ⟨hos2.frame h.frame (fun x hx => ?_), fun nd hn => ⟨(hnd nd hn).1.frame h.frame (hnd nd hn).2, fun k hk hm => (hnd nd hn).2 k hk (h.muts k hm ((hnd nd hn).1.lt k hk))⟩⟩
  refine hom x.block ?_
  show (Value.slice o.a o.n o.cap).ownBlock = _
  rw [hx]; rfl
 have HONIL : Hid (o.a = none → nds = [] ∧ o.cap = 0) := fun e => by
  rcases had with ⟨_, h1, h2⟩ | ⟨g, h1, _⟩
  ·exact ⟨List.eq_nil_of_length_eq_zero (by omega), h2⟩
  ·rw [e] at h1; cases h1
 have HOC : Hid (nds.length ≤ o.cap) := by unfold Hid; omega
 have HNDL : Hid (∀ k, (∃ nd ∈ nds, ndF nd k) → k < w.heap.size) := fun k ⟨nd, hn, hk⟩ => (hnd nd hn).1.lt k hk
 have HST : Hid (TrSt w sb en tr mp es (fun k => ∃ nd ∈ nds, ndF nd k) w N mp es ⟨none, 0, 0⟩ []) := hst
 have HL0 : Hid (level ≠ 0) := hlv
 have HL6 : Hid (level ≤ 6) := hl6
 have HN60 : Hid (nds.length ≤ 60) := h60
 clear hst hup hiok hos hos2 had hcm hoc hon hom ho hnd hlv hl6 h60 hne
 unfold SlR.val at HPC ⊢
 go_enter Tryz.func117, Tryz.ntmps117
 go_wp2_with (go_at_call 140; refine HPC.out.mono ?_; rintro e w1 ⟨p, rfl, hop, hbp⟩)
 have hpn : p.n = cs.length := (owns_cap (a := p.a) (n' := p.n) (cap := p.cap) hop).1
 have HPN : Hid (p.n = cs.length) := hpn
 have hpnI : (p.n : Int) ≤ 60 := by have := HCL.out; omega
 have hp60 : p.n ≤ 60 := by have := HCL.out; omega
 have HOP : Hid (w1.ownsRow w.heap.size 128 1 (.slice p.a p.n p.cap) cs.length (cs.map (cutV o.a o.cap 1))) := hop
 have HST1 : Hid (TrSt w sb en tr mp es (fun k => ∃ nd ∈ nds, ndF nd k) w1 N mp es ⟨none, 0, 0⟩ []) := HST.out.below hbp
 clear hpn hop
 go_loopw [7, 9, 10, 12, 17] (fun nv _ _ _ ix wr => ∃ (k M : Nat) (mp1 : Option Nat) (es1 : List MEn) (o2 : SlR) (nds2 : List Nd), k ≤ p.n ∧ ix = .int .i64 k ∧ nv = o2.val ∧ M ≤ N + k ∧ Hid (TrSt w sb en tr mp es (fun k => ∃ nd ∈ nds, ndF nd k) wr M mp1 es1 o2 nds2) ∧ Hid (nds2.map (·.its) = (cs.take k).map (partOf (nds.map upI))) ∧ Hid (∀ nd ∈ nds2, nd.level = level) ∧ Hid (nds2.map (·.bl) = (cs.take k).map (fun c => ((nds.drop c.1).take c.2).map (·.b))) ∧ Hid (wr.ownsRow w.heap.size 128 1 (.slice p.a p.n p.cap) cs.length (cs.map (cutV o.a o.cap 1)))) (fun _ _ _ _ ix _ => p.n - (intOf ix).toNat)
 case atStart => exact ⟨0, N, mp, es, ⟨none, 0, 0⟩, [], by omega, by simp, rfl, by omega, HST1, rfl, (fun nd hnd => by cases hnd), rfl, HOP⟩
 case round =>
  rename World => wo
  obtain ⟨k, M, mp1, es1, o2, nds2, hk, rfl, rfl, hM, HT, HI, HL, HBL, HPA⟩ := hrel
  by_cases hlt : k < p.n
  ·have hltI : (k : Int) < p.n := by omega
   have hkc : k < cs.length := by have := HPN.out; omega
   obtain ⟨b, q, hpa, hb, hcell⟩ := (SlV.ofOwn (s := p) HPA.out).1 k (by simpa using hkc)
   have hc2 : wo.cell? ⟨b, q + k, none⟩ = some (.slice (cutS o.a o.cap cs[k].1 1) cs[k].2 (o.cap - cs[k].1)) := by rw [hcell]; simp [cutV]
   have HTK : Hid ((cs.take (k + 1)).map (partOf (nds.map upI)) = (cs.take k).map (partOf (nds.map upI)) ++ [partOf (nds.map upI) cs[k]]) := by unfold Hid; rw [List.take_succ_eq_append_getElem hkc, List.map_append]; rfl
   have HTB : Hid ((cs.take (k + 1)).map (fun c => ((nds.drop c.1).take c.2).map (·.b)) = (cs.take k).map (fun c => ((nds.drop c.1).take c.2).map (·.b)) ++ [((nds.drop cs[k].1).take cs[k].2).map (·.b)]) := by unfold Hid; rw [List.take_succ_eq_append_getElem hkc, List.map_append]; rfl
   have HCK : Hid (cs[k].1 + cs[k].2 ≤ nds.length) := HCO.out _ (List.getElem_mem hkc)
   obtain ⟨pa, pn, pc⟩ := p
   simp only at hpa hltI hlt hk hp60 hpnI HPN HPA HOP
   subst hpa
   generalize cs[k] = c at *
   obtain ⟨hol, hnw⟩ := HOLD.out wo M mp1 es1 o2 nds2 HT.out
   -- the nodes of this part
   obtain ⟨ps, hps⟩ : ∃ ps, ps = (nds.drop c.1).take c.2 := ⟨_, rfl⟩
   have hpl : ps.length = c.2 := by rw [hps, List.length_take, List.length_drop]; have := HCK.out; omega
   have hpm : ∀ nd ∈ ps, nd ∈ nds := fun nd h => by rw [hps] at h; exact List.mem_of_mem_drop (List.mem_of_mem_take h)
   have hsp : SlV wo (cutS o.a o.cap c.1 1) ((ps.map (·.b)).map ptrV) := by
    have h1 := SlV.cut (n := nds.length) (cap := o.cap) (i := c.1) (size := 1) hol (by simp) (by have := HCK.out; omega) HOC.out
    have h2 := h1.take c.2
    rw [Nat.mul_one, ← List.map_drop, ← List.map_take, ← List.map_drop, ← List.map_take, ← hps] at h2
    exact h2
   have HPS : Hid (ps.map upI = partOf (nds.map upI) c) := by unfold Hid; rw [hps]; exact map_part nds c
   have HPL : Hid (c.2 = ps.length) := hpl.symm
   have HPX : Hid (((nds.drop c.1).take c.2).map (·.b) = ps.map (·.b)) := by unfold Hid; rw [hps]
   have HPM : Hid (∀ nd ∈ ps, nd ∈ nds) := hpm
   have HSP : Hid (SlV wo (cutS o.a o.cap c.1 1) ((ps.map (·.b)).map ptrV)) := hsp
   have HNW : Hid (∀ nd ∈ ps, NdOk wo nd ∧ (∀ k, ndF nd k → ¬ KMut sb mp1 es1 k)) := fun nd h => hnw nd (hpm nd h)
   have HP60 : Hid (ps.length ≤ 60) := by have := HCK.out; have := HN60.out; unfold Hid; omega
   have HBNIL : Hid (cutS o.a o.cap c.1 1 = none → o.cap - c.1 = 0) := fun e => by have := (HONIL.out (cutS_none e)).2; omega
   have HNK : Hid (nds2.length ≤ k) := by
    have := congrArg List.length HI.out
    simp at this
    unfold Hid; omega
   have hc2I : (c.2 : Int) ≤ 60 := by have := HPL.out; have := HP60.out; omega
   have HB0 : Hid (BoxSt wo (wo.alloc (.cells #[.int .i64 (level : Int), .slice none 0 0] 171)) wo.heap.size level ⟨none, 0, 0⟩ []) := ⟨(Below.refl _ _).alloc (Nat.le_refl _) _, RowV.new wo _ _, World.ownsRow_nil _ _ _ _⟩
   clear hps hpl hpm hsp hol hnw hcell
   unfold SlR.val
   go_wp2
   go_loopw [12, 25] (fun _ jx wr => ∃ (j : Nat) (v : SlR), j ≤ c.2 ∧ jx = .int .i64 j ∧ Hid (BoxSt wo wr wo.heap.size level v ((ps.take j).map upE))) (fun _ jx _ => c.2 - (intOf jx).toNat)
   case atStart => exact ⟨0, ⟨none, 0, 0⟩, by omega, by simp, by simpa using HB0⟩
   case round =>
    obtain ⟨j, v, hj, rfl, HBX⟩ := hrel
    by_cases hjlt : j < c.2
    ·have hjI : (j : Int) < c.2 := by omega
     have hjp : j < ps.length := by have := HPL.out; omega
     have hbx := HBX.out
     obtain ⟨b2, q2, hca, hb2, hcj⟩ := SlV.ptr (l := ps.map (·.b)) (HSP.out.below_all hbx.bel) j (by simpa using hjp)
     have hcj2 : wr.cell? ⟨b2, q2 + j, none⟩ = some (.pointer (some ⟨ps[j].b, 0, none⟩)) := by rw [hcj]; simp
     have hndj := (HNW.out ps[j] (List.getElem_mem hjp)).1.below hbx.bel
     have HTJ : Hid ((ps.take (j + 1)).map upE = (ps.take j).map upE ++ [upE ps[j]]) := by unfold Hid; rw [List.take_succ_eq_append_getElem hjp, List.map_append]; rfl
     have HJL : Hid (((ps.take j).map upE).length ≤ 60) := by have := HP60.out; unfold Hid; rw [List.length_map, List.length_take]; omega
     generalize ps[j] = nd at *
     rw [hca]
     obtain ⟨x0, x1, x2, x3, x4, x5, x6, x7, hy⟩ := list8 (digB (codeB nd.level nd.its)) rfl
     have hrw := hndj.row
     rw [ndC_list nd hy] at hrw
     have hl0 : wr.cell? ⟨nd.b, 0, none⟩ = some (.slice nd.la.a nd.la.n nd.la.cap) := hrw.cell 0 (by simp)
     have g0 : wr.cell? ⟨nd.b, 2, none⟩ = some (.int .u8 (x0.toNat : Int)) := hrw.cell 2 (by simp)
     have g1 : wr.cell? ⟨nd.b, 3, none⟩ = some (.int .u8 (x1.toNat : Int)) := hrw.cell 3 (by simp)
     have g2 : wr.cell? ⟨nd.b, 4, none⟩ = some (.int .u8 (x2.toNat : Int)) := hrw.cell 4 (by simp)
     have g3 : wr.cell? ⟨nd.b, 5, none⟩ = some (.int .u8 (x3.toNat : Int)) := hrw.cell 5 (by simp)
     have g4 : wr.cell? ⟨nd.b, 6, none⟩ = some (.int .u8 (x4.toNat : Int)) := hrw.cell 6 (by simp)
     have g5 : wr.cell? ⟨nd.b, 7, none⟩ = some (.int .u8 (x5.toNat : Int)) := hrw.cell 7 (by simp)
     have g6 : wr.cell? ⟨nd.b, 8, none⟩ = some (.int .u8 (x6.toNat : Int)) := hrw.cell 8 (by simp)
     have g7 : wr.cell? ⟨nd.b, 9, none⟩ = some (.int .u8 (x7.toNat : Int)) := hrw.cell 9 (by simp)
     have hp1 : wr.cell? ⟨wo.heap.size, 1, none⟩ = some (.slice v.a v.n v.cap) := hbx.row.cell 1 (by simp)
     have hAB : Below wr.heap.size wr (wr.alloc (.cells #[.slice nd.la.a nd.la.n nd.la.cap, .slice none 0 0, .int .u8 (x0.toNat : Int), .int .u8 (x1.toNat : Int), .int .u8 (x2.toNat : Int), .int .u8 (x3.toNat : Int), .int .u8 (x4.toNat : Int), .int .u8 (x5.toNat : Int), .int .u8 (x6.toNat : Int), .int .u8 (x7.toNat : Int)] 74)) := (Below.refl _ _).alloc (Nat.le_refl _) _
     have ga0 : (wr.alloc (.cells #[.slice nd.la.a nd.la.n nd.la.cap, .slice none 0 0, .int .u8 (x0.toNat : Int), .int .u8 (x1.toNat : Int), .int .u8 (x2.toNat : Int), .int .u8 (x3.toNat : Int), .int .u8 (x4.toNat : Int), .int .u8 (x5.toNat : Int), .int .u8 (x6.toNat : Int), .int .u8 (x7.toNat : Int)] 74)).cell? ⟨nd.b, 2, none⟩ = some (.int .u8 (x0.toNat : Int)) := by rw [hAB.cell (p := ⟨nd.b, 2, none⟩) hrw.lt]; exact g0
     have ga1 : (wr.alloc (.cells #[.slice nd.la.a nd.la.n nd.la.cap, .slice none 0 0, .int .u8 (x0.toNat : Int), .int .u8 (x1.toNat : Int), .int .u8 (x2.toNat : Int), .int .u8 (x3.toNat : Int), .int .u8 (x4.toNat : Int), .int .u8 (x5.toNat : Int), .int .u8 (x6.toNat : Int), .int .u8 (x7.toNat : Int)] 74)).cell? ⟨nd.b, 3, none⟩ = some (.int .u8 (x1.toNat : Int)) := by rw [hAB.cell (p := ⟨nd.b, 3, none⟩) hrw.lt]; exact g1
     have ga2 : (wr.alloc (.cells #[.slice nd.la.a nd.la.n nd.la.cap, .slice none 0 0, .int .u8 (x0.toNat : Int), .int .u8 (x1.toNat : Int), .int .u8 (x2.toNat : Int), .int .u8 (x3.toNat : Int), .int .u8 (x4.toNat : Int), .int .u8 (x5.toNat : Int), .int .u8 (x6.toNat : Int), .int .u8 (x7.toNat : Int)] 74)).cell? ⟨nd.b, 4, none⟩ = some (.int .u8 (x2.toNat : Int)) := by rw [hAB.cell (p := ⟨nd.b, 4, none⟩) hrw.lt]; exact g2
     have ga3 : (wr.alloc (.cells #[.slice nd.la.a nd.la.n nd.la.cap, .slice none 0 0, .int .u8 (x0.toNat : Int), .int .u8 (x1.toNat : Int), .int .u8 (x2.toNat : Int), .int .u8 (x3.toNat : Int), .int .u8 (x4.toNat : Int), .int .u8 (x5.toNat : Int), .int .u8 (x6.toNat : Int), .int .u8 (x7.toNat : Int)] 74)).cell? ⟨nd.b, 5, none⟩ = some (.int .u8 (x3.toNat : Int)) := by rw [hAB.cell (p := ⟨nd.b, 5, none⟩) hrw.lt]; exact g3
     have ga4 : (wr.alloc (.cells #[.slice nd.la.a nd.la.n nd.la.cap, .slice none 0 0, .int .u8 (x0.toNat : Int), .int .u8 (x1.toNat : Int), .int .u8 (x2.toNat : Int), .int .u8 (x3.toNat : Int), .int .u8 (x4.toNat : Int), .int .u8 (x5.toNat : Int), .int .u8 (x6.toNat : Int), .int .u8 (x7.toNat : Int)] 74)).cell? ⟨nd.b, 6, none⟩ = some (.int .u8 (x4.toNat : Int)) := by rw [hAB.cell (p := ⟨nd.b, 6, none⟩) hrw.lt]; exact g4
     have ga5 : (wr.alloc (.cells #[.slice nd.la.a nd.la.n nd.la.cap, .slice none 0 0, .int .u8 (x0.toNat : Int), .int .u8 (x1.toNat : Int), .int .u8 (x2.toNat : Int), .int .u8 (x3.toNat : Int), .int .u8 (x4.toNat : Int), .int .u8 (x5.toNat : Int), .int .u8 (x6.toNat : Int), .int .u8 (x7.toNat : Int)] 74)).cell? ⟨nd.b, 7, none⟩ = some (.int .u8 (x5.toNat : Int)) := by rw [hAB.cell (p := ⟨nd.b, 7, none⟩) hrw.lt]; exact g5
     have ga6 : (wr.alloc (.cells #[.slice nd.la.a nd.la.n nd.la.cap, .slice none 0 0, .int .u8 (x0.toNat : Int), .int .u8 (x1.toNat : Int), .int .u8 (x2.toNat : Int), .int .u8 (x3.toNat : Int), .int .u8 (x4.toNat : Int), .int .u8 (x5.toNat : Int), .int .u8 (x6.toNat : Int), .int .u8 (x7.toNat : Int)] 74)).cell? ⟨nd.b, 8, none⟩ = some (.int .u8 (x6.toNat : Int)) := by rw [hAB.cell (p := ⟨nd.b, 8, none⟩) hrw.lt]; exact g6
     have ga7 : (wr.alloc (.cells #[.slice nd.la.a nd.la.n nd.la.cap, .slice none 0 0, .int .u8 (x0.toNat : Int), .int .u8 (x1.toNat : Int), .int .u8 (x2.toNat : Int), .int .u8 (x3.toNat : Int), .int .u8 (x4.toNat : Int), .int .u8 (x5.toNat : Int), .int .u8 (x6.toNat : Int), .int .u8 (x7.toNat : Int)] 74)).cell? ⟨nd.b, 9, none⟩ = some (.int .u8 (x7.toNat : Int)) := by rw [hAB.cell (p := ⟨nd.b, 9, none⟩) hrw.lt]; exact g7
     have hl0a : (wr.alloc (.cells #[.slice nd.la.a nd.la.n nd.la.cap, .slice none 0 0, .int .u8 (x0.toNat : Int), .int .u8 (x1.toNat : Int), .int .u8 (x2.toNat : Int), .int .u8 (x3.toNat : Int), .int .u8 (x4.toNat : Int), .int .u8 (x5.toNat : Int), .int .u8 (x6.toNat : Int), .int .u8 (x7.toNat : Int)] 74)).cell? ⟨nd.b, 0, none⟩ = some (.slice nd.la.a nd.la.n nd.la.cap) := by rw [hAB.cell (p := ⟨nd.b, 0, none⟩) hrw.lt]; exact hl0
     have hp1a : (wr.alloc (.cells #[.slice nd.la.a nd.la.n nd.la.cap, .slice none 0 0, .int .u8 (x0.toNat : Int), .int .u8 (x1.toNat : Int), .int .u8 (x2.toNat : Int), .int .u8 (x3.toNat : Int), .int .u8 (x4.toNat : Int), .int .u8 (x5.toNat : Int), .int .u8 (x6.toNat : Int), .int .u8 (x7.toNat : Int)] 74)).cell? ⟨wo.heap.size, 1, none⟩ = some (.slice v.a v.n v.cap) := by rw [hAB.cell (p := ⟨wo.heap.size, 1, none⟩) hbx.row.lt]; exact hp1
     have HEC : Hid (enC (upE nd) = [.slice nd.la.a nd.la.n nd.la.cap, .slice none 0 0, .int .u8 (x0.toNat : Int), .int .u8 (x1.toNat : Int), .int .u8 (x2.toNat : Int), .int .u8 (x3.toNat : Int), .int .u8 (x4.toNat : Int), .int .u8 (x5.toNat : Int), .int .u8 (x6.toNat : Int), .int .u8 (x7.toNat : Int)]) := by
      unfold Hid enC upE; simp only [hy]; rfl
     have hABd : Below wr.heap.size wr ((wr.alloc (.cells #[.slice nd.la.a nd.la.n nd.la.cap, .slice none 0 0, .int .u8 (x0.toNat : Int), .int .u8 (x1.toNat : Int), .int .u8 (x2.toNat : Int), .int .u8 (x3.toNat : Int), .int .u8 (x4.toNat : Int), .int .u8 (x5.toNat : Int), .int .u8 (x6.toNat : Int), .int .u8 (x7.toNat : Int)] 74)).drew) := ⟨hAB.os, hAB.tape, hAB.output, hAB.size, hAB.block⟩
     have HOX : Hid (((wr.alloc (.cells #[.slice nd.la.a nd.la.n nd.la.cap, .slice none 0 0, .int .u8 (x0.toNat : Int), .int .u8 (x1.toNat : Int), .int .u8 (x2.toNat : Int), .int .u8 (x3.toNat : Int), .int .u8 (x4.toNat : Int), .int .u8 (x5.toNat : Int), .int .u8 (x6.toNat : Int), .int .u8 (x7.toNat : Int)] 74)).drew).ownsRow wo.heap.size 74 10 (.slice v.a v.n v.cap) ((ps.take j).map upE).length (ensC ((ps.take j).map upE))) := owns_below hbx.own hABd
     have HSX : Hid (SlV ((wr.alloc (.cells #[.slice nd.la.a nd.la.n nd.la.cap, .slice none 0 0, .int .u8 (x0.toNat : Int), .int .u8 (x1.toNat : Int), .int .u8 (x2.toNat : Int), .int .u8 (x3.toNat : Int), .int .u8 (x4.toNat : Int), .int .u8 (x5.toNat : Int), .int .u8 (x6.toNat : Int), .int .u8 (x7.toNat : Int)] 74)).drew) (some ⟨wr.heap.size, 0, none⟩) (enC (upE nd))) := by
      unfold Hid; rw [HEC.out]; exact SlV.alloc_new wr _ _
     have H1X : Hid (∀ u ∈ enC (upE nd), u.oneCell' = true) := enC_one _
     have HLX : Hid ((enC (upE nd)).length = 1 * 10) := enC_length (upE nd) rfl
     have HBSZ : Hid (wo.heap.size ≤ ((wr.alloc (.cells #[.slice nd.la.a nd.la.n nd.la.cap, .slice none 0 0, .int .u8 (x0.toNat : Int), .int .u8 (x1.toNat : Int), .int .u8 (x2.toNat : Int), .int .u8 (x3.toNat : Int), .int .u8 (x4.toNat : Int), .int .u8 (x5.toNat : Int), .int .u8 (x6.toNat : Int), .int .u8 (x7.toNat : Int)] 74)).drew).heap.size) := Nat.le_trans hbx.bel.size hABd.size
     have HBXB : Hid (Below wr.heap.size wr ((wr.alloc (.cells #[.slice nd.la.a nd.la.n nd.la.cap, .slice none 0 0, .int .u8 (x0.toNat : Int), .int .u8 (x1.toNat : Int), .int .u8 (x2.toNat : Int), .int .u8 (x3.toNat : Int), .int .u8 (x4.toNat : Int), .int .u8 (x5.toNat : Int), .int .u8 (x6.toNat : Int), .int .u8 (x7.toNat : Int)] 74)).drew)) := hABd
     clear hAB hABd hrw hndj hbx hcj hy hb2
     go_wp2
     go_region_law ((refine step_appendV (by rfl) (.tmp 30) (.tmp 40) 67 (by rfl) wo.heap.size 74 _ 10 56 Tryz.underlying67 Tryz.infoEntry rfl (by decide) (.slice v.a v.n v.cap) ((ps.take j).map upE).length (ensC ((ps.take j).map upE)) (by rfl) HOX.out ⟨wr.heap.size, 0, none⟩ 1 1 (enC (upE nd)) (by rfl) HLX.out HSX.out H1X.out (by have := HJL.out; unfold maxLen; omega) (by have := HJL.out; omega) HBSZ.out ?_; intro a3 n3 c3 w3 ho3 hf3 hat3; obtain ⟨hpush, hcp, hfp⟩ := BoxSt.push (v' := ⟨a3, n3, c3⟩) HBX.out (Nat.le_refl _) HBXB.out ho3 hf3; unfold SlR.val at hcp))
     all_goals
      go_wp2
      refine ⟨⟨j + 1, ⟨a3, n3, c3⟩, by omega, by go_num, ?_⟩, by simp [intOf]; omega⟩
      unfold Hid; rw [HTJ.out]; exact hpush
    ·have hjI : ¬ (j : Int) < c.2 := by omega
     have HTE : Hid ((ps.take j).map upE = ps.map upE) := by unfold Hid; rw [List.take_of_length_le (by have := HPL.out; omega)]
     rw [HTE.out] at HBX
     have hbx := HBX.out
     have hT2 := HT.out.below hbx.bel
     obtain ⟨hvs, hvn⟩ := SlV.ofOwn (s := v) hbx.own
     obtain ⟨va, vn, vc⟩ := v
     simp only at hvs hvn
     rw [List.length_map] at hvn
     subst hvn
     have hp0 : wr.cell? ⟨wo.heap.size, 0, none⟩ = some (.int .i64 (level : Int)) := hbx.row.cell 0 (by simp)
     have hp1 : wr.cell? ⟨wo.heap.size, 1, none⟩ = some (.slice va ps.length vc) := hbx.row.cell 1 (by simp)
     have hpg : PageIn wr sb mp1 es1 level va ps.length (ps.map upE) (ps.map upI) ⟨cutS o.a o.cap c.1 1, c.2, o.cap - c.1⟩ (ps.map (·.b)) := PageIn.up HL0.out HL6.out HP60.out (fun nd h => ⟨(HNW.out nd h).1.below hbx.bel, (HNW.out nd h).2⟩) hvs (HSP.out.below_all hbx.bel) HPL.out HBNIL.out
     have HC : Hid (Calls _ _ _ _ _) := node_any sb M en tr mp1 es1 level va ps.length vc (ps.map upE) (ps.map upI) ⟨cutS o.a o.cap c.1 1, c.2, o.cap - c.1⟩ (ps.map (·.b)) wr hT2.row hT2.known (by omega) hpg
     have HT2 : Hid (TrSt w sb en tr mp es (fun k => ∃ nd ∈ nds, ndF nd k) wr M mp1 es1 o2 nds2) := hT2
     have HPA2 : Hid (wr.ownsRow w.heap.size 128 1 (.slice (some ⟨b, q, none⟩) pn pc) cs.length (cs.map (cutV o.a o.cap 1))) := owns_below HPA.out hbx.bel
     have HIN : Hid (∀ k', ((∃ x ∈ ps.map upE, ∃ y, x.k.a = some y ∧ y.block = k') ∨ k' ∈ ps.map (·.b)) → ∃ nd ∈ nds, ndF nd k') := fun k' h => by
      rcases h with ⟨x, hx, y, hy, h⟩ | h
      ·obtain ⟨nd, hn, rfl⟩ := List.mem_map.1 hx
       exact ⟨nd, HPM.out nd hn, Or.inr (Or.inl ⟨y, hy, h⟩)⟩
      ·obtain ⟨nd, hn, rfl⟩ := List.mem_map.1 h
       exact ⟨nd, HPM.out nd hn, Or.inl rfl⟩
     have HOW : Hid (∀ (w2 : World) (nd : Nd), NodeOut wr sb M en tr mp1 es1 level (ps.map upE) (ps.map upI) (ps.map (·.b)) nd w2 → (w2.alloc (.cells #[.pointer (some ⟨nd.b, 0, none⟩)] 138)).ownsRow w.heap.size 138 1 (.slice o2.a o2.n o2.cap) nds2.length (nds2.map (fun x => ptrV x.b)) ∧ w.heap.size ≤ (w2.alloc (.cells #[.pointer (some ⟨nd.b, 0, none⟩)] 138)).heap.size ∧ w2.ownsRow w.heap.size 128 1 (.slice (some ⟨b, q, none⟩) pn pc) cs.length (cs.map (cutV o.a o.cap 1))) := fun w2 nd hout => by
      obtain ⟨_, _, _, _, _, _, _, _, _, _, r6, _⟩ := hout
      have h1 := owns_frame HT2.out.own r6 (fun k hk => (HT2.out.onew k hk).1)
      refine ⟨h1.alloc _, ?_, owns_frame HPA2.out r6 (KMut.ne HT2.out.row HT2.out.known HPA2.out (by decide) (by decide))⟩
      have := HT2.out.frame.size
      have := r6.size
      simp; omega
     have H1 : Hid (∀ nd : Nd, ∀ u ∈ [Value.pointer (some ⟨nd.b, 0, none⟩)], u.oneCell' = true) := fun nd u hu => by simp at hu; subst hu; rfl
     clear hbx hT2 hvs hpg hjI
     unfold SlR.val at HC
     go_wp2_with (first
      | (go_at_call 137; refine HC.out.mono ?_; rintro e w2 ⟨nd, rfl, hout⟩; obtain ⟨hox, hwx, hpx⟩ := HOW.out w2 nd hout)
      | (at_builtin; refine wp_appendV (by rfl) (.tmp 44) (.tmp 49) 128 (by rfl) w.heap.size 138 _ 1 8 Tryz.underlying128 Tryz.infoNodeP rfl (by decide) (.slice o2.a o2.n o2.cap) nds2.length (nds2.map (fun x => ptrV x.b)) (by rfl) hox (some ⟨w2.heap.size, 0, none⟩) 1 1 [.pointer (some ⟨nd.b, 0, none⟩)] (by rfl) rfl (SlV.alloc_new w2 _ _) (fun h => by cases h) (H1.out nd) (by have := HNK.out; unfold maxLen; omega) (by have := HNK.out; omega) hwx ?_; intro v3 w3 ho3 hf3 hat3; obtain ⟨a3, c3, hv3, _⟩ := owns_form ho3; subst hv3))
     have hlv := hout
     obtain ⟨_, _, _, _, _, g1, g2, g3, _⟩ := hlv
     obtain ⟨mp2, es2, hst2⟩ := HT2.out.step (o' := ⟨a3, nds2.length + 1, c3⟩) hout (fun k' hk' _ => Or.inr (HIN.out k' hk')) (fun k' hk' e => by have := HNDL.out k' (HIN.out k' hk'); have := (HT2.out.own.lt k' e).1; omega) ho3 ((Below.refl _ _).alloc (Nat.le_refl _) _) hf3 hat3
     refine ⟨⟨k + 1, M + 1, mp2, es2, ⟨a3, nds2.length + 1, c3⟩, nds2 ++ [nd], by omega, by go_num, rfl, by omega, hst2, ?_, ?_, ?_, ?_⟩, by simp [intOf]; omega⟩
     ·unfold Hid; rw [HTK.out, List.map_append, HI.out]; simp [g2, HPS.out]
     ·intro x hx
      rcases List.mem_append.1 hx with hx | hx
      ·exact HL.out x hx
      ·simp only [List.mem_singleton] at hx; subst hx; exact g1
     ·unfold Hid; rw [HTB.out, List.map_append, HBL.out, HPX.out]; simp [g3]
     ·exact owns_frame (hpx.alloc _) hf3 (fun k' hk' e => owns_ne2 (hpx.alloc _) hox (by decide) k' hk' e)
  ·obtain rfl : k = p.n := by omega
   have HKE : Hid (cs.take p.n = cs) := by unfold Hid; rw [HPN.out, List.take_length]
   unfold SlR.val
   go_wp2
   go_ret
   exact ⟨o2, nds2, M, mp1, es1, rfl, HT.out, by omega, by rw [HI.out, HKE.out, HCP.out], HL.out, by rw [HBL.out, HKE.out]⟩
end Go.Proofs.YtekegfbjbainhaaGreat


namespace Go.Proofs.YtekegfbjbainhaaGreat
open Go.RowKit
structure TreeRep (lvls : List (List (List ItR))) (L : List (List Nd)) : Prop where
 its : L.map (fun nds => nds.map (·.its)) = lvls.map (fun ps => ps.map normL)
 lev : ∀ (ℓ : Nat) (nds : List Nd), L[ℓ]? = some nds → ∀ x ∈ nds, x.level = ℓ
 low : ∀ (nds : List Nd), L[0]? = some nds → ∀ x ∈ nds, x.bl = []
 bel : ∀ (ℓ : Nat) (nds up : List Nd) (ps : List (List ItR)), L[ℓ]? = some nds → L[ℓ + 1]? = some up → lvls[ℓ + 1]? = some ps → up.map (·.bl) = ps.map (fun p => p.map (fun it => ((nds[it.below]?).map (·.b)).getD 0))
theorem cutAt_norm (level : Nat) (l : List ItR) : ∀ k, cutAt level (normL l) k = cutAt level l k
 | 0 => rfl
 | k + 1 => by
  have e1 : ((normL l)[k]?.map (·.key)).getD [] = (l[k]?.map (·.key)).getD [] := by
   unfold normL
   rw [List.getElem?_map]
   cases l[k]? <;> rfl
  have e2 : (normL l).length = l.length := by simp [normL]
  unfold cutAt
  rw [e1, e2, cutAt_norm level l k]
theorem cutsN_norm (level : Nat) (l : List ItR) : cutsN level (normL l) = cutsN level l := by
 unfold cutsN
 rw [cutAt_norm]
 simp [normL]
theorem next_length (level : Nat) : ∀ (i : Nat) (ps : List (List ItR)), (nextF level i ps).length = ps.length
 | _, [] => rfl
 | i, p :: r => by simp [nextF, next_length level (i + 1) r]
theorem next_below {α : Type} (level : Nat) (f : Nat → α) : ∀ (ps : List (List ItR)) (i : Nat), (nextF level i ps).map (fun it => f it.below) = (List.range' i ps.length).map f
 | [], _ => rfl
 | p :: r, i => by
  have := next_below level f r (i + 1)
  simp only [nextF, List.map_cons, List.length_cons, List.range'_succ]
  rw [this]
theorem next_blocks (level : Nat) (ps : List (List ItR)) (nds : List Nd) (h : nds.length = ps.length) : (nextF level 0 ps).map (fun it => ((nds[it.below]?).map (·.b)).getD 0) = nds.map (·.b) := by
 rw [next_below level (fun i => ((nds[i]?).map (·.b)).getD 0) ps 0, ← h]
 apply List.ext_getElem
 ·simp
 ·intro i h1 h2
  have hi : i < nds.length := by simpa using h2
  simp [hi]
theorem up_blocks (level : Nat) (lr : List ItR) (nds : List Nd) (f : ItR → Nat) (hf : lr.map f = nds.map (·.b)) (hne : lr ≠ []) :
  (partedN level lr).map (fun p => p.map f) = (cutsN level lr).map (fun c => ((nds.drop c.1).take c.2).map (·.b)) := by
 rw [← cuts_parted level lr hne, List.map_map]
 apply List.map_congr_left
 intro c _
 show ((lr.drop c.1).take c.2).map f = _
 rw [List.map_take, List.map_drop, hf, List.map_take, List.map_drop]
structure LvInv (its : List ItR) (ℓ : Nat) (nds : List Nd) (L : List (List Nd)) (lr : List ItR) (pre : List (List (List ItR))) : Prop where
 gr : grownN its = pre ++ grownF (7 - ℓ) ℓ lr
 pl : pre.length = ℓ
 rep : TreeRep (pre ++ [partedN ℓ lr]) L
 ll : L.length = ℓ + 1
 top : L[ℓ]? = some nds
theorem LvInv.start {its : List ItR} {nds : List Nd} (h : nds.map (·.its) = partedN 0 its) (hnm : ∀ x ∈ its, x.below = 0) (hl : ∀ nd ∈ nds, nd.level = 0 ∧ nd.bl = []) : LvInv its 0 nds [nds] its [] := by
 have e : (partedN 0 its).map normL = partedN 0 its := by rw [← parted_norm, normL_id hnm]
 refine ⟨rfl, rfl, ⟨?_, ?_, ?_, ?_⟩, rfl, rfl⟩
 ·simp [h, e]
 ·intro ℓ nds' h' x hx
  cases ℓ with
  | zero => simp at h'; subst h'; exact (hl x hx).1
  | succ n => simp at h'
 ·intro nds' h' x hx
  simp at h'; subst h'; exact (hl x hx).2
 ·intro ℓ nds' up ps h1 h2 h3
  simp at h2
theorem LvInv.its' {its : List ItR} {ℓ : Nat} {nds : List Nd} {L : List (List Nd)} {lr : List ItR} {pre : List (List (List ItR))} (h : LvInv its ℓ nds L lr pre) : nds.map (·.its) = (partedN ℓ lr).map normL := by
 have e := congrArg (fun l => l[ℓ]?) h.rep.its
 simp only [List.getElem?_map, h.top] at e
 rw [List.getElem?_append_right (by rw [h.pl]; exact Nat.le_refl _), h.pl, Nat.sub_self] at e
 simpa using e
theorem LvInv.up {its : List ItR} {ℓ : Nat} {nds : List Nd} {L : List (List Nd)} {lr : List ItR} {pre : List (List (List ItR))} (h : LvInv its ℓ nds L lr pre) : nds.map upI = normL (nextF ℓ 0 (partedN ℓ lr)) := by
 rw [next_norm]
 have e1 : nds.map upI = (nds.map (·.its)).map (upOf ℓ) := by
  rw [List.map_map]
  apply List.map_congr_left
  intro x hx
  show upOf x.level x.its = upOf ℓ x.its
  rw [h.rep.lev ℓ nds h.top x hx]
 rw [e1, h.its', List.map_map]
 apply List.map_congr_left
 intro p _
 exact up_norm ℓ p
theorem LvInv.next {its : List ItR} {ℓ : Nat} {nds nds' : List Nd} {L : List (List Nd)} {lr : List ItR} {pre : List (List (List ItR))} (h : LvInv its ℓ nds L lr pre) (h1 : nds.length ≠ 1) (hℓ : ℓ < 6) (g2 : nds'.map (·.its) = partedN (ℓ + 1) (nds.map upI)) (g3 : ∀ nd ∈ nds', nd.level = ℓ + 1)
  (g4 : nds'.map (·.bl) = (cutsN (ℓ + 1) (nds.map upI)).map (fun c => ((nds.drop c.1).take c.2).map (·.b))) : LvInv its (ℓ + 1) nds' (L ++ [nds']) (nextF ℓ 0 (partedN ℓ lr)) (pre ++ [partedN ℓ lr]) := by
 have hlen : nds.length = (partedN ℓ lr).length := by simpa using congrArg List.length h.its'
 have hpos := partedN_pos ℓ lr
 have hnn : nextF ℓ 0 (partedN ℓ lr) ≠ [] := fun e => by have := congrArg List.length e; rw [next_length] at this; simp at this; rw [this] at hpos; simp at hpos
 rw [h.up] at g2 g4
 rw [parted_norm] at g2
 rw [cutsN_norm] at g4
 refine ⟨?_, by simp [h.pl], ⟨?_, ?_, ?_, ?_⟩, by simp [h.ll], ?_⟩
 ·rw [h.gr]
  obtain ⟨f, hf⟩ : ∃ f, 7 - ℓ = f + 1 := ⟨6 - ℓ, by omega⟩
  rw [hf, grownF, if_neg (by rw [← hlen]; exact h1), show 7 - (ℓ + 1) = f by omega]
  simp
 ·rw [List.map_append, List.map_append, h.rep.its]
  simp [g2]
 ·intro k nds2 hk x hx
  by_cases hlt : k < L.length
  ·rw [List.getElem?_append_left hlt] at hk
   exact h.rep.lev k nds2 hk x hx
  ·rw [List.getElem?_append_right (by omega)] at hk
   obtain ⟨z1, z2⟩ := List.getElem?_eq_some_iff.1 hk
   simp at z1 z2
   subst z2
   rw [g3 x hx]
   have := h.ll; omega
 ·intro nds2 h0 x hx
  rw [List.getElem?_append_left (by have := h.ll; omega)] at h0
  exact h.rep.low nds2 h0 x hx
 ·intro k n2 up ps e1 e2 e3
  by_cases hlt : k + 1 < L.length
  ·rw [List.getElem?_append_left (by omega)] at e1
   rw [List.getElem?_append_left hlt] at e2
   rw [List.getElem?_append_left (by have := h.ll; simp [h.pl]; omega)] at e3
   exact h.rep.bel k n2 up ps e1 e2 e3
  ·have hk1 : k + 1 ≤ L.length := by
    have := (List.getElem?_eq_some_iff.1 e2).1
    simp at this; omega
   have hk : k = ℓ := by have := h.ll; omega
   subst hk
   rw [List.getElem?_append_left (by have := h.ll; omega), h.top] at e1
   cases e1
   rw [List.getElem?_append_right (by have := h.ll; omega), h.ll, Nat.sub_self] at e2
   simp at e2; subst e2
   rw [List.getElem?_append_right (by simp [h.pl])] at e3
   simp [h.pl] at e3
   subst e3
   rw [g4]
   exact (up_blocks (k + 1) _ nds _ (next_blocks k _ nds hlen) hnn).symm
 ·rw [List.getElem?_append_right (by have := h.ll; omega), h.ll]; simp
theorem LvInv.fin {its : List ItR} {ℓ : Nat} {nd : Nd} {L : List (List Nd)} {lr : List ItR} {pre : List (List (List ItR))} (h : LvInv its ℓ [nd] L lr pre) (hℓ : ℓ ≤ 6) : TreeRep (grownN its) L ∧ L.length = ℓ + 1 ∧ L[ℓ]? = some [nd] := by
 have hlen : 1 = (partedN ℓ lr).length := by simpa using congrArg List.length h.its'
 have e := h.gr
 obtain ⟨f, hf⟩ : ∃ f, 7 - ℓ = f + 1 := ⟨6 - ℓ, by omega⟩
 rw [hf, grownF, if_pos hlen.symm] at e
 rw [e]
 exact ⟨h.rep, h.ll, h.top⟩
structure LvSt (es0 : List MEn) (InF : Nat → Prop) (n0 : Nat) (M : Nat → Prop) (w : World) (L : List (List Nd)) : Prop where
 good : ∀ nds ∈ L, ∀ x ∈ nds, NdOk w x ∧ ∀ k, ndF x k → ¬ M k
 foot : ∀ nds ∈ L, ∀ x ∈ nds, ∀ k, ndF x k → k < n0 → KFoot es0 k ∨ InF k
theorem LvSt.next {es0 : List MEn} {InF : Nat → Prop} {n0 : Nat} {M M' S : Nat → Prop} {w w' : World} {L : List (List Nd)} (h : LvSt es0 InF n0 M w L) (hf : Frame S w w') (hS : ∀ k, S k → M k) (hM : ∀ k, M' k → k < w.heap.size → M k) : LvSt es0 InF n0 M' w' L :=
 ⟨fun nds hn x hx => ⟨(h.good nds hn x hx).1.frame hf (fun k hk e => (h.good nds hn x hx).2 k hk (hS k e)), fun k hk e => (h.good nds hn x hx).2 k hk (hM k e ((h.good nds hn x hx).1.lt k hk))⟩, h.foot⟩
theorem LvSt.frame {es0 : List MEn} {InF : Nat → Prop} {n0 : Nat} {M S : Nat → Prop} {w w' : World} {L : List (List Nd)} (h : LvSt es0 InF n0 M w L) (hf : Frame S w w') (hS : ∀ nds ∈ L, ∀ x ∈ nds, ∀ k, ndF x k → ¬ S k) : LvSt es0 InF n0 M w' L :=
 ⟨fun nds hn x hx => ⟨(h.good nds hn x hx).1.frame hf (hS nds hn x hx), (h.good nds hn x hx).2⟩, h.foot⟩
theorem LvSt.below {es0 : List MEn} {InF : Nat → Prop} {n0 : Nat} {M : Nat → Prop} {w w' : World} {L : List (List Nd)} (h : LvSt es0 InF n0 M w L) (hb : Below w.heap.size w w') : LvSt es0 InF n0 M w' L := h.frame (Frame.of_below_all (S := fun _ => False) hb) (fun _ _ _ _ _ _ e => e)
theorem LvSt.less {es0 : List MEn} {InF : Nat → Prop} {n0 n1 : Nat} {M : Nat → Prop} {w : World} {L : List (List Nd)} (h : LvSt es0 InF n0 M w L) (hn : n1 ≤ n0) : LvSt es0 InF n1 M w L := ⟨h.good, fun nds hn' x hx k hk hlt => h.foot nds hn' x hx k hk (by omega)⟩
theorem LvSt.snoc {es0 : List MEn} {InF : Nat → Prop} {n0 : Nat} {M : Nat → Prop} {w : World} {L : List (List Nd)} {nds : List Nd} (h : LvSt es0 InF n0 M w L) (h1 : ∀ x ∈ nds, NdOk w x ∧ ∀ k, ndF x k → ¬ M k) (h2 : ∀ x ∈ nds, ∀ k, ndF x k → k < n0 → KFoot es0 k ∨ InF k) : LvSt es0 InF n0 M w (L ++ [nds]) := by
 refine ⟨fun n hn x hx => ?_, fun n hn x hx => ?_⟩
 all_goals
  rcases List.mem_append.1 hn with hn | hn
 ·exact h.good n hn x hx
 ·simp only [List.mem_singleton] at hn; subst hn; exact h1 x hx
 ·exact h.foot n hn x hx
 ·simp only [List.mem_singleton] at hn; subst hn; exact h2 x hx
end Go.Proofs.YtekegfbjbainhaaGreat


namespace Go.Proofs.YtekegfbjbainhaaGreat
open Go.RowKit
set_option maxRecDepth 100000 in
set_option maxHeartbeats 4000000 in
theorem tree_any (sb N : Nat) (en tr : SlR) (mp : Option Nat) (es : List MEn) (xs : List EnP) (its : List ItR) (w : World) (hR : StoRow w sb en mp tr) (K : KnownAt w sb mp es N) (hN : N ≤ 800000) (hE : EntAt w en xs its) (h60 : its.length ≤ 60) (hok : ∀ x ∈ its, ItOk x) (hnm : ∀ x ∈ its, x.below = 0) (hf : ∀ k, entF en xs k → ¬ KMut sb mp es k) :
  Calls Tryz.prog 81 #[.pointer (some ⟨sb, 1, none⟩), en.val] w fun e w' => ∃ (o : SlR) (nd : Nd) (M : Nat) (mp' : Option Nat) (es' : List MEn), e = .returned (.pointer (some ⟨nd.b, 0, none⟩)) ∧ TrSt w sb en tr mp es (keyF xs) w' M mp' es' o [nd] ∧ M ≤ N + 500 ∧ (nd.level, nd.its) = growP 7 0 its ∧ ∃ (L : List (List Nd)) (ℓ : Nat), TreeRep (grownN its) L ∧ L.length = ℓ + 1 ∧ L[ℓ]? = some [nd] ∧ LvSt es (keyF xs) w.heap.size (KMut sb mp' es') w' L := by
 have HLOW : Hid (Calls _ _ _ _ _) := lowest_any sb N en tr mp es xs its w hR K (by omega) hE h60 hok hnm hf
 have HP0 : Hid ((partedN 0 its).length ≤ 60) := by
  unfold Hid
  by_cases he : its = []
  ·subst he; simp [partedN, partF]
  ·have := partF_bound 0 its [] he; unfold partedN; omega
 have HNM : Hid (∀ x ∈ its, x.below = 0) := hnm
 clear hE hf hnm hok h60
 unfold SlR.val at HLOW ⊢
 go_enter Tryz.func81, Tryz.ntmps81
 go_wp2_with (go_at_call 116; refine HLOW.out.mono ?_; rintro e w1 ⟨o, nds, M, mp1, es1, rfl, hst, hM, hits, hlev⟩)
 have H0 : Hid (TrSt w sb en tr mp es (keyF xs) w1 M mp1 es1 o nds ∧ nds.map (·.its) = partedN 0 its ∧ (∀ nd ∈ nds, nd.level = 0) ∧ nds.length ≤ 60 ∧ LvInv its 0 nds [nds] its [] ∧ LvSt es (keyF xs) w.heap.size (KMut sb mp1 es1) w1 [nds]) := ⟨hst, hits, fun nd h => (hlev nd h).1, by have e1 := congrArg List.length hits; have e2 := HP0.out; rw [List.length_map] at e1; omega, LvInv.start hits HNM.out hlev, LvSt.snoc (L := []) ⟨fun n hn => (by cases hn), fun n hn => (by cases hn)⟩ hst.nodes hst.nfoot⟩
 clear hst hits hlev
 go_loopw [5, 6] (fun nv lv wr => ∃ (ℓ M : Nat) (mp1 : Option Nat) (es1 : List MEn) (o : SlR) (nds : List Nd), ℓ ≤ 6 ∧ lv = .int .i64 ((ℓ : Int) + 1) ∧ nv = o.val ∧ M ≤ N + 61 * (ℓ + 1) ∧ Hid (∃ l, TrSt w sb en tr mp es (keyF xs) wr M mp1 es1 o nds ∧ nds.map (·.its) = partedN ℓ l ∧ (∀ nd ∈ nds, nd.level = ℓ) ∧ nds.length ≤ 60 ∧ growP (7 - ℓ) ℓ l = growP 7 0 its ∧ ∃ L lr pre, LvInv its ℓ nds L lr pre ∧ LvSt es (keyF xs) w.heap.size (KMut sb mp1 es1) wr L)) (fun _ lv _ => 8 - (intOf lv).toNat)
 case atStart => exact ⟨0, M, mp1, es1, o, nds, by omega, by simp, rfl, by omega, its, H0.out.1, H0.out.2.1, H0.out.2.2.1, H0.out.2.2.2.1, rfl, [nds], its, [], H0.out.2.2.2.2.1, H0.out.2.2.2.2.2⟩
 case round =>
  clear H0
  obtain ⟨ℓ, M2, mp2, es2, o2, nds2, hℓ, rfl, rfl, hM2, HX⟩ := hrel
  obtain ⟨l, hT, hI, hL, hlen, hG, L, lr, pre, hLI, hLS⟩ := HX.out
  have hon := (owns_cap (a := o2.a) (n' := o2.n) (cap := o2.cap) hT.own).1
  have hpl : nds2.length = (partedN ℓ l).length := by have := congrArg List.length hI; simpa using this
  have hpos := partedN_pos ℓ l
  by_cases h1 : nds2.length = 1
  ·obtain ⟨nd, rfl⟩ : ∃ nd, nds2 = [nd] := by
    match nds2, h1 with
    | [nd], _ => exact ⟨nd, rfl⟩
   obtain ⟨b, q, hoa, hb, hc⟩ := (SlV.ofOwn (s := o2) hT.own).1 0 (by simp)
   obtain ⟨oa, on, oc⟩ := o2
   simp only at hoa hon
   subst hoa hon
   have hc0 : wr.cell? ⟨b, q, none⟩ = some (.pointer (some ⟨nd.b, 0, none⟩)) := by simpa [ptrV] using hc
   have HG : Hid ((nd.level, nd.its) = growP 7 0 its) := by
    unfold Hid
    rw [← hG]
    obtain ⟨f, hf⟩ : ∃ f, 7 - ℓ = f + 1 := ⟨6 - ℓ, by omega⟩
    rw [hf, growP, if_pos (by rw [← hpl]; rfl), ← hI, hL nd (by simp)]
    rfl
   have HT : Hid (TrSt w sb en tr mp es (keyF xs) wr M2 mp2 es2 ⟨some ⟨b, q, none⟩, 1, oc⟩ [nd]) := hT
   have HLF : Hid (∃ (L : List (List Nd)) (ℓ : Nat), TreeRep (grownN its) L ∧ L.length = ℓ + 1 ∧ L[ℓ]? = some [nd] ∧ LvSt es (keyF xs) w.heap.size (KMut sb mp2 es2) wr L) := ⟨L, ℓ, (hLI.fin hℓ).1, (hLI.fin hℓ).2.1, (hLI.fin hℓ).2.2, hLS⟩
   clear hT hI hL hlen hG hpl hpos HX hc h1 hb hLI hLS
   unfold SlR.val
   go_wp2
   go_ret
   exact ⟨_, nd, M2, mp2, es2, rfl, HT.out, by omega, HG.out, HLF.out⟩
  ·have hgt : 1 < nds2.length := by omega
   have hℓ6 : ℓ < 6 := by
    by_cases h : ℓ < 6
    ·exact h
    ·exfalso
     have := partF_six ℓ h l []
     unfold partedN at hpl
     rw [this] at hpl
     simp at hpl; omega
   have hgI : (1 : Int) < (o2.n : Int) := by omega
   have HUP : Hid (nds2.map upI = (partedN ℓ l).map (upOf ℓ)) := by
    unfold Hid
    rw [← hI, List.map_map]
    apply List.map_congr_left
    intro nd hn
    show upOf nd.level nd.its = upOf ℓ nd.its
    rw [hL nd hn]
   have HC : Hid (Calls _ _ _ _ _) := above_any sb M2 (ℓ + 1) en tr mp2 es2 o2 nds2 wr hT.row hT.known (by omega) (by omega) (by omega) (by intro e; rw [e] at hgt; simp at hgt) hlen (owns_base hT.own (fun k _ => Nat.zero_le _)) (fun k hk => (hT.onew k hk).1) hT.nodes
   have HNEXT : Hid (∀ (w' : World) (o' : SlR) (nds' : List Nd) (M' : Nat) (mp' : Option Nat) (es' : List MEn), TrSt wr sb en tr mp2 es2 (fun k => ∃ nd ∈ nds2, ndF nd k) w' M' mp' es' o' nds' → nds'.map (·.its) = partedN (ℓ + 1) (nds2.map upI) → (∀ nd ∈ nds', nd.level = ℓ + 1) → nds'.map (·.bl) = (cutsN (ℓ + 1) (nds2.map upI)).map (fun c => ((nds2.drop c.1).take c.2).map (·.b)) → ∃ l, TrSt w sb en tr mp es (keyF xs) w' M' mp' es' o' nds' ∧ nds'.map (·.its) = partedN (ℓ + 1) l ∧ (∀ nd ∈ nds', nd.level = ℓ + 1) ∧ nds'.length ≤ 60 ∧ growP (7 - (ℓ + 1)) (ℓ + 1) l = growP 7 0 its ∧ ∃ L lr pre, LvInv its (ℓ + 1) nds' L lr pre ∧ LvSt es (keyF xs) w.heap.size (KMut sb mp' es') w' L) := fun w' o' nds' M' mp' es' g1 g2 g3 g4 => by
    refine ⟨nds2.map upI, hT.compose g1, g2, g3, ?_, ?_, L ++ [nds'], _, _, hLI.next h1 hℓ6 g2 g3 g4, (hLS.next g1.frame (fun k hk => hk) g1.muts).snoc (hT.compose g1).nodes (hT.compose g1).nfoot⟩
    ·have e1 := congrArg List.length g2
     have e2 := partF_bound (ℓ + 1) (nds2.map upI) [] (by intro e; have := congrArg List.length e; simp at this; subst this; simp at hgt)
     unfold partedN at e1
     simp at e1 e2
     omega
    ·rw [HUP.out, ← hG]
     obtain ⟨f, hf⟩ : ∃ f, 7 - ℓ = f + 1 := ⟨6 - ℓ, by omega⟩
     rw [hf, growP, if_neg (by rw [← hpl]; exact h1), show 7 - (ℓ + 1) = f by omega]
   clear hT hI hL hlen hG hpl hpos HX hon hLI hLS
   have hℓI : (ℓ : Int) ≤ 6 := by omega
   have HE1 : Hid (((ℓ + 1 : Nat) : Int) = (ℓ : Int) + 1) := by unfold Hid; omega
   rw [HE1.out] at HC
   unfold SlR.val at HC ⊢
   go_wp2_with (go_at_call 117; refine HC.out.mono ?_; rintro e w' ⟨o', nds', M', mp', es', rfl, g1, gM, g2, g3, g4⟩)
   refine ⟨⟨ℓ + 1, M', mp', es', o', nds', by omega, by go_num, rfl, by omega, HNEXT.out w' o' nds' M' mp' es' g1 g2 g3 g4⟩, by simp [intOf]; omega⟩
end Go.Proofs.YtekegfbjbainhaaGreat
