
import Derived.Test.YtekegfbjbainhaaKJoin9
set_option linter.unusedVariables false
set_option linter.unusedSimpArgs false
namespace Go.Proofs.Ytekegfbjbainhaa
open Go.RowKit
theorem map_part (nds : List Nd) (c : Nat × Nat) : ((nds.drop c.1).take c.2).map upI = partOf (nds.map upI) c := by
 unfold partOf; rw [← List.map_drop, ← List.map_take]
set_option maxRecDepth 100000 in
set_option maxHeartbeats 8000000 in
theorem above_any (sb N level : Nat) (en tr : SlR) (mp : Option Nat) (es : List MEn) (o : SlR) (nds : List Nd) (w : World) (hR : StoRow w sb en mp tr) (K : KnownAt w sb mp es N) (hN : N ≤ 900000) (hlv : level ≠ 0) (hl6 : level ≤ 6) (hne : nds ≠ []) (h60 : nds.length ≤ 60)
  (ho : w.ownsRow 0 96 1 o.val nds.length (nds.map (fun x => ptrV x.b))) (hom : ∀ k, o.val.ownBlock = some k → ¬ KMut sb mp es k) (hnd : ∀ nd ∈ nds, NdOk w nd ∧ (∀ k, ndF nd k → ¬ KMut sb mp es k)) :
  Calls Try.prog 77 #[.pointer (some ⟨sb, 1, none⟩), .int .i64 (level : Int), o.val] w fun e w' => ∃ (o' : SlR) (nds' : List Nd) (M : Nat) (mp' : Option Nat) (es' : List MEn), e = .returned o'.val ∧ TrSt w sb en tr mp es (fun k => ∃ nd ∈ nds, ndF nd k) w' M mp' es' o' nds' ∧ M ≤ N + 61 ∧ nds'.map (·.its) = partedN level (nds.map upI) ∧ (∀ nd ∈ nds', nd.level = level) ∧ nds'.map (·.bl) = (cutsN level (nds.map upI)).map (fun c => ((nds.drop c.1).take c.2).map (·.b)) := by
 obtain ⟨hon, hoc, hcm, had⟩ := owns_cap (a := o.a) (n' := o.n) (cap := o.cap) ho
 have hos := (SlV.ofOwn (s := o) ho).1
 have hos2 : SlV w o.a ((nds.map (·.b)).map ptrV) := by rw [List.map_map]; exact hos
 have hst := TrSt.start (InF := fun k => ∃ nd ∈ nds, ndF nd k) hR K
 have hup : nds.map upI ≠ [] := by simpa using hne
 have hiok : ∀ x ∈ nds.map upI, ItOk x := fun x hx => by
  obtain ⟨nd, hn, rfl⟩ := List.mem_map.1 hx
  exact ⟨lastK_le (hnd nd hn).1.pg.ok, by show (digB _).length ≤ 12; rw [digB_length]; omega⟩
 have HPC : Hid (Calls _ _ _ _ _) := partedN_any level o.a o.n o.cap (nds.map (·.b)) (nds.map upI) w (by simp [hon]) (by simp) (by simp; omega) (by omega) (by omega) hcm hiok hos2 (fun i h1 h2 => by
  have hi : i < nds.length := by simpa using h1
  have h := (hnd nds[i] (List.getElem_mem hi)).1
  refine ⟨nds[i].la, ?_, ?_, ?_⟩
  ·simp only [List.getElem_map]; exact h.row.cell 0 (by simp [ndC])
  ·simp only [List.getElem_map]; exact h.row.lt
  ·simp only [List.getElem_map]; exact h.la)
 have HCP : Hid ((cutsN level (nds.map upI)).map (partOf (nds.map upI)) = partedN level (nds.map upI)) := cuts_parted level _ hup
 have HCO : Hid (∀ c ∈ cutsN level (nds.map upI), c.1 + c.2 ≤ nds.length) := fun c hc => by have := cuts_ok level (nds.map upI) (nds.map upI).length (Nat.le_refl _) c hc; simpa using this
 have HCL : Hid ((cutsN level (nds.map upI)).length ≤ 60) := by have := (cutAt_le level (nds.map upI) (nds.map upI).length).2; unfold Hid cutsN; simp at this ⊢; omega
 generalize cutsN level (nds.map upI) = cs at *
 have hlvI : (level : Int) ≤ 6 := by omega
 -- the nodes of the level below, while nothing but what may be written changes
 have HOLD : Hid (∀ (wr : World) (M : Nat) (mp1 : Option Nat) (es1 : List MEn) (o2 : SlR) (nds2 : List Nd), TrSt w sb en tr mp es (fun k => ∃ nd ∈ nds, ndF nd k) wr M mp1 es1 o2 nds2 → SlV wr o.a ((nds.map (·.b)).map ptrV) ∧ (∀ nd ∈ nds, NdOk wr nd ∧ (∀ k, ndF nd k → ¬ KMut sb mp1 es1 k))) := fun wr M mp1 es1 o2 nds2 h => by
  refine ⟨hos2.frame h.frame (fun x hx => ?_), fun nd hn => ⟨(hnd nd hn).1.frame h.frame (hnd nd hn).2, fun k hk hm => (hnd nd hn).2 k hk (h.muts k hm ((hnd nd hn).1.lt k hk))⟩⟩
  refine hom x.block ?_
  show (Value.slice o.a o.n o.cap).ownBlock = _
  rw [hx]; rfl
 have HONIL : Hid (o.a = none → nds = [] ∧ o.cap = 0) := fun e => by
  rcases had with ⟨_, h1, h2⟩ | ⟨g, h1, _⟩
  ·exact ⟨List.eq_nil_of_length_eq_zero (by omega), h2⟩
  ·rw [e] at h1; cases h1
 have HOC : Hid (nds.length ≤ o.cap) := by unfold Hid; omega
 have HNDL : Hid (∀ k, (∃ nd ∈ nds, ndF nd k) → k < w.heap.size) := fun k ⟨nd, hn, hk⟩ => (hnd nd hn).1.lt k hk
 have HST : Hid (TrSt w sb en tr mp es (fun k => ∃ nd ∈ nds, ndF nd k) w N mp es ⟨none, 0, 0⟩ []) := hst
 have HL0 : Hid (level ≠ 0) := hlv
 have HL6 : Hid (level ≤ 6) := hl6
 have HN60 : Hid (nds.length ≤ 60) := h60
 clear hst hup hiok hos hos2 had hcm hoc hon hom ho hnd hlv hl6 h60 hne
 unfold SlR.val at HPC ⊢
 go_enter Try.func77, Try.ntmps77
 go_wp2_with (go_at_call 92; refine HPC.out.mono ?_; rintro e w1 ⟨p, rfl, hop, hbp⟩)
 have hpn : p.n = cs.length := (owns_cap (a := p.a) (n' := p.n) (cap := p.cap) hop).1
 have HPN : Hid (p.n = cs.length) := hpn
 have hpnI : (p.n : Int) ≤ 60 := by have := HCL.out; omega
 have hp60 : p.n ≤ 60 := by have := HCL.out; omega
 have HOP : Hid (w1.ownsRow w.heap.size 87 1 (.slice p.a p.n p.cap) cs.length (cs.map (cutV o.a o.cap 1))) := hop
 have HST1 : Hid (TrSt w sb en tr mp es (fun k => ∃ nd ∈ nds, ndF nd k) w1 N mp es ⟨none, 0, 0⟩ []) := HST.out.below hbp
 clear hpn hop
 go_loopw [7, 9, 10, 12, 17] (fun nv _ _ _ ix wr => ∃ (k M : Nat) (mp1 : Option Nat) (es1 : List MEn) (o2 : SlR) (nds2 : List Nd), k ≤ p.n ∧ ix = .int .i64 k ∧ nv = o2.val ∧ M ≤ N + k ∧ Hid (TrSt w sb en tr mp es (fun k => ∃ nd ∈ nds, ndF nd k) wr M mp1 es1 o2 nds2) ∧ Hid (nds2.map (·.its) = (cs.take k).map (partOf (nds.map upI))) ∧ Hid (∀ nd ∈ nds2, nd.level = level) ∧ Hid (nds2.map (·.bl) = (cs.take k).map (fun c => ((nds.drop c.1).take c.2).map (·.b))) ∧ Hid (wr.ownsRow w.heap.size 87 1 (.slice p.a p.n p.cap) cs.length (cs.map (cutV o.a o.cap 1)))) (fun _ _ _ _ ix _ => p.n - (intOf ix).toNat)
 case atStart => exact ⟨0, N, mp, es, ⟨none, 0, 0⟩, [], by omega, by simp, rfl, by omega, HST1, rfl, (fun nd hnd => by cases hnd), rfl, HOP⟩
 case round =>
  rename World => wo
  obtain ⟨k, M, mp1, es1, o2, nds2, hk, rfl, rfl, hM, HT, HI, HL, HBL, HPA⟩ := hrel
  by_cases hlt : k < p.n
  ·have hltI : (k : Int) < p.n := by omega
   have hkc : k < cs.length := by have := HPN.out; omega
   obtain ⟨b, q, hpa, hb, hcell⟩ := (SlV.ofOwn (s := p) HPA.out).1 k (by simpa using hkc)
   have hc2 : wo.cell? ⟨b, q + k, none⟩ = some (.slice (cutS o.a o.cap cs[k].1 1) cs[k].2 (o.cap - cs[k].1)) := by rw [hcell]; simp [cutV]
   have HTK : Hid ((cs.take (k + 1)).map (partOf (nds.map upI)) = (cs.take k).map (partOf (nds.map upI)) ++ [partOf (nds.map upI) cs[k]]) := by unfold Hid; rw [List.take_succ_eq_append_getElem hkc, List.map_append]; rfl
   have HTB : Hid ((cs.take (k + 1)).map (fun c => ((nds.drop c.1).take c.2).map (·.b)) = (cs.take k).map (fun c => ((nds.drop c.1).take c.2).map (·.b)) ++ [((nds.drop cs[k].1).take cs[k].2).map (·.b)]) := by unfold Hid; rw [List.take_succ_eq_append_getElem hkc, List.map_append]; rfl
   have HCK : Hid (cs[k].1 + cs[k].2 ≤ nds.length) := HCO.out _ (List.getElem_mem hkc)
   obtain ⟨pa, pn, pc⟩ := p
   simp only at hpa hltI hlt hk hp60 hpnI HPN HPA HOP
   subst hpa
   generalize cs[k] = c at *
   obtain ⟨hol, hnw⟩ := HOLD.out wo M mp1 es1 o2 nds2 HT.out
   -- the nodes of this part
   obtain ⟨ps, hps⟩ : ∃ ps, ps = (nds.drop c.1).take c.2 := ⟨_, rfl⟩
   have hpl : ps.length = c.2 := by rw [hps, List.length_take, List.length_drop]; have := HCK.out; omega
   have hpm : ∀ nd ∈ ps, nd ∈ nds := fun nd h => by rw [hps] at h; exact List.mem_of_mem_drop (List.mem_of_mem_take h)
   have hsp : SlV wo (cutS o.a o.cap c.1 1) ((ps.map (·.b)).map ptrV) := by
    have h1 := SlV.cut (n := nds.length) (cap := o.cap) (i := c.1) (size := 1) hol (by simp) (by have := HCK.out; omega) HOC.out
    have h2 := h1.take c.2
    rw [Nat.mul_one, ← List.map_drop, ← List.map_take, ← List.map_drop, ← List.map_take, ← hps] at h2
    exact h2
   have HPS : Hid (ps.map upI = partOf (nds.map upI) c) := by unfold Hid; rw [hps]; exact map_part nds c
   have HPL : Hid (c.2 = ps.length) := hpl.symm
   have HPX : Hid (((nds.drop c.1).take c.2).map (·.b) = ps.map (·.b)) := by unfold Hid; rw [hps]
   have HPM : Hid (∀ nd ∈ ps, nd ∈ nds) := hpm
   have HSP : Hid (SlV wo (cutS o.a o.cap c.1 1) ((ps.map (·.b)).map ptrV)) := hsp
   have HNW : Hid (∀ nd ∈ ps, NdOk wo nd ∧ (∀ k, ndF nd k → ¬ KMut sb mp1 es1 k)) := fun nd h => hnw nd (hpm nd h)
   have HP60 : Hid (ps.length ≤ 60) := by have := HCK.out; have := HN60.out; unfold Hid; omega
   have HBNIL : Hid (cutS o.a o.cap c.1 1 = none → o.cap - c.1 = 0) := fun e => by have := (HONIL.out (cutS_none e)).2; omega
   have HNK : Hid (nds2.length ≤ k) := by
    have := congrArg List.length HI.out
    simp at this
    unfold Hid; omega
   have hc2I : (c.2 : Int) ≤ 60 := by have := HPL.out; have := HP60.out; omega
   have HB0 : Hid (BoxSt wo (wo.alloc (.cells #[.int .i64 (level : Int), .slice none 0 0] 128)) wo.heap.size level ⟨none, 0, 0⟩ []) := ⟨(Below.refl _ _).alloc (Nat.le_refl _) _, RowV.new wo _ _, World.ownsRow_nil _ _ _ _⟩
   clear hps hpl hpm hsp hol hnw hcell
   unfold SlR.val
   go_wp2
   go_loopw [12, 25] (fun _ jx wr => ∃ (j : Nat) (v : SlR), j ≤ c.2 ∧ jx = .int .i64 j ∧ Hid (BoxSt wo wr wo.heap.size level v ((ps.take j).map upE))) (fun _ jx _ => c.2 - (intOf jx).toNat)
   case atStart => exact ⟨0, ⟨none, 0, 0⟩, by omega, by simp, by simpa using HB0⟩
   case round =>
    obtain ⟨j, v, hj, rfl, HBX⟩ := hrel
    by_cases hjlt : j < c.2
    ·have hjI : (j : Int) < c.2 := by omega
     have hjp : j < ps.length := by have := HPL.out; omega
     have hbx := HBX.out
     obtain ⟨b2, q2, hca, hb2, hcj⟩ := SlV.ptr (l := ps.map (·.b)) (HSP.out.below_all hbx.bel) j (by simpa using hjp)
     have hcj2 : wr.cell? ⟨b2, q2 + j, none⟩ = some (.pointer (some ⟨ps[j].b, 0, none⟩)) := by rw [hcj]; simp
     have hndj := (HNW.out ps[j] (List.getElem_mem hjp)).1.below hbx.bel
     have HTJ : Hid ((ps.take (j + 1)).map upE = (ps.take j).map upE ++ [upE ps[j]]) := by unfold Hid; rw [List.take_succ_eq_append_getElem hjp, List.map_append]; rfl
     have HJL : Hid (((ps.take j).map upE).length ≤ 60) := by have := HP60.out; unfold Hid; rw [List.length_map, List.length_take]; omega
     generalize ps[j] = nd at *
     rw [hca]
     obtain ⟨x0, x1, x2, x3, x4, x5, x6, x7, hy⟩ := list8 (digB (codeB nd.level nd.its)) rfl
     have hrw := hndj.row
     rw [ndC_list nd hy] at hrw
     have hl0 : wr.cell? ⟨nd.b, 0, none⟩ = some (.slice nd.la.a nd.la.n nd.la.cap) := hrw.cell 0 (by simp)
     have g0 : wr.cell? ⟨nd.b, 2, none⟩ = some (.int .u8 (x0.toNat : Int)) := hrw.cell 2 (by simp)
     have g1 : wr.cell? ⟨nd.b, 3, none⟩ = some (.int .u8 (x1.toNat : Int)) := hrw.cell 3 (by simp)
     have g2 : wr.cell? ⟨nd.b, 4, none⟩ = some (.int .u8 (x2.toNat : Int)) := hrw.cell 4 (by simp)
     have g3 : wr.cell? ⟨nd.b, 5, none⟩ = some (.int .u8 (x3.toNat : Int)) := hrw.cell 5 (by simp)
     have g4 : wr.cell? ⟨nd.b, 6, none⟩ = some (.int .u8 (x4.toNat : Int)) := hrw.cell 6 (by simp)
     have g5 : wr.cell? ⟨nd.b, 7, none⟩ = some (.int .u8 (x5.toNat : Int)) := hrw.cell 7 (by simp)
     have g6 : wr.cell? ⟨nd.b, 8, none⟩ = some (.int .u8 (x6.toNat : Int)) := hrw.cell 8 (by simp)
     have g7 : wr.cell? ⟨nd.b, 9, none⟩ = some (.int .u8 (x7.toNat : Int)) := hrw.cell 9 (by simp)
     have hp1 : wr.cell? ⟨wo.heap.size, 1, none⟩ = some (.slice v.a v.n v.cap) := hbx.row.cell 1 (by simp)
     have hAB : Below wr.heap.size wr (wr.alloc (.cells #[.slice nd.la.a nd.la.n nd.la.cap, .slice none 0 0, .int .u8 (x0.toNat : Int), .int .u8 (x1.toNat : Int), .int .u8 (x2.toNat : Int), .int .u8 (x3.toNat : Int), .int .u8 (x4.toNat : Int), .int .u8 (x5.toNat : Int), .int .u8 (x6.toNat : Int), .int .u8 (x7.toNat : Int)] 103)) := (Below.refl _ _).alloc (Nat.le_refl _) _
     have ga0 : (wr.alloc (.cells #[.slice nd.la.a nd.la.n nd.la.cap, .slice none 0 0, .int .u8 (x0.toNat : Int), .int .u8 (x1.toNat : Int), .int .u8 (x2.toNat : Int), .int .u8 (x3.toNat : Int), .int .u8 (x4.toNat : Int), .int .u8 (x5.toNat : Int), .int .u8 (x6.toNat : Int), .int .u8 (x7.toNat : Int)] 103)).cell? ⟨nd.b, 2, none⟩ = some (.int .u8 (x0.toNat : Int)) := by rw [hAB.cell (p := ⟨nd.b, 2, none⟩) hrw.lt]; exact g0
     have ga1 : (wr.alloc (.cells #[.slice nd.la.a nd.la.n nd.la.cap, .slice none 0 0, .int .u8 (x0.toNat : Int), .int .u8 (x1.toNat : Int), .int .u8 (x2.toNat : Int), .int .u8 (x3.toNat : Int), .int .u8 (x4.toNat : Int), .int .u8 (x5.toNat : Int), .int .u8 (x6.toNat : Int), .int .u8 (x7.toNat : Int)] 103)).cell? ⟨nd.b, 3, none⟩ = some (.int .u8 (x1.toNat : Int)) := by rw [hAB.cell (p := ⟨nd.b, 3, none⟩) hrw.lt]; exact g1
     have ga2 : (wr.alloc (.cells #[.slice nd.la.a nd.la.n nd.la.cap, .slice none 0 0, .int .u8 (x0.toNat : Int), .int .u8 (x1.toNat : Int), .int .u8 (x2.toNat : Int), .int .u8 (x3.toNat : Int), .int .u8 (x4.toNat : Int), .int .u8 (x5.toNat : Int), .int .u8 (x6.toNat : Int), .int .u8 (x7.toNat : Int)] 103)).cell? ⟨nd.b, 4, none⟩ = some (.int .u8 (x2.toNat : Int)) := by rw [hAB.cell (p := ⟨nd.b, 4, none⟩) hrw.lt]; exact g2
     have ga3 : (wr.alloc (.cells #[.slice nd.la.a nd.la.n nd.la.cap, .slice none 0 0, .int .u8 (x0.toNat : Int), .int .u8 (x1.toNat : Int), .int .u8 (x2.toNat : Int), .int .u8 (x3.toNat : Int), .int .u8 (x4.toNat : Int), .int .u8 (x5.toNat : Int), .int .u8 (x6.toNat : Int), .int .u8 (x7.toNat : Int)] 103)).cell? ⟨nd.b, 5, none⟩ = some (.int .u8 (x3.toNat : Int)) := by rw [hAB.cell (p := ⟨nd.b, 5, none⟩) hrw.lt]; exact g3
     have ga4 : (wr.alloc (.cells #[.slice nd.la.a nd.la.n nd.la.cap, .slice none 0 0, .int .u8 (x0.toNat : Int), .int .u8 (x1.toNat : Int), .int .u8 (x2.toNat : Int), .int .u8 (x3.toNat : Int), .int .u8 (x4.toNat : Int), .int .u8 (x5.toNat : Int), .int .u8 (x6.toNat : Int), .int .u8 (x7.toNat : Int)] 103)).cell? ⟨nd.b, 6, none⟩ = some (.int .u8 (x4.toNat : Int)) := by rw [hAB.cell (p := ⟨nd.b, 6, none⟩) hrw.lt]; exact g4
     have ga5 : (wr.alloc (.cells #[.slice nd.la.a nd.la.n nd.la.cap, .slice none 0 0, .int .u8 (x0.toNat : Int), .int .u8 (x1.toNat : Int), .int .u8 (x2.toNat : Int), .int .u8 (x3.toNat : Int), .int .u8 (x4.toNat : Int), .int .u8 (x5.toNat : Int), .int .u8 (x6.toNat : Int), .int .u8 (x7.toNat : Int)] 103)).cell? ⟨nd.b, 7, none⟩ = some (.int .u8 (x5.toNat : Int)) := by rw [hAB.cell (p := ⟨nd.b, 7, none⟩) hrw.lt]; exact g5
     have ga6 : (wr.alloc (.cells #[.slice nd.la.a nd.la.n nd.la.cap, .slice none 0 0, .int .u8 (x0.toNat : Int), .int .u8 (x1.toNat : Int), .int .u8 (x2.toNat : Int), .int .u8 (x3.toNat : Int), .int .u8 (x4.toNat : Int), .int .u8 (x5.toNat : Int), .int .u8 (x6.toNat : Int), .int .u8 (x7.toNat : Int)] 103)).cell? ⟨nd.b, 8, none⟩ = some (.int .u8 (x6.toNat : Int)) := by rw [hAB.cell (p := ⟨nd.b, 8, none⟩) hrw.lt]; exact g6
     have ga7 : (wr.alloc (.cells #[.slice nd.la.a nd.la.n nd.la.cap, .slice none 0 0, .int .u8 (x0.toNat : Int), .int .u8 (x1.toNat : Int), .int .u8 (x2.toNat : Int), .int .u8 (x3.toNat : Int), .int .u8 (x4.toNat : Int), .int .u8 (x5.toNat : Int), .int .u8 (x6.toNat : Int), .int .u8 (x7.toNat : Int)] 103)).cell? ⟨nd.b, 9, none⟩ = some (.int .u8 (x7.toNat : Int)) := by rw [hAB.cell (p := ⟨nd.b, 9, none⟩) hrw.lt]; exact g7
     have hl0a : (wr.alloc (.cells #[.slice nd.la.a nd.la.n nd.la.cap, .slice none 0 0, .int .u8 (x0.toNat : Int), .int .u8 (x1.toNat : Int), .int .u8 (x2.toNat : Int), .int .u8 (x3.toNat : Int), .int .u8 (x4.toNat : Int), .int .u8 (x5.toNat : Int), .int .u8 (x6.toNat : Int), .int .u8 (x7.toNat : Int)] 103)).cell? ⟨nd.b, 0, none⟩ = some (.slice nd.la.a nd.la.n nd.la.cap) := by rw [hAB.cell (p := ⟨nd.b, 0, none⟩) hrw.lt]; exact hl0
     have hp1a : (wr.alloc (.cells #[.slice nd.la.a nd.la.n nd.la.cap, .slice none 0 0, .int .u8 (x0.toNat : Int), .int .u8 (x1.toNat : Int), .int .u8 (x2.toNat : Int), .int .u8 (x3.toNat : Int), .int .u8 (x4.toNat : Int), .int .u8 (x5.toNat : Int), .int .u8 (x6.toNat : Int), .int .u8 (x7.toNat : Int)] 103)).cell? ⟨wo.heap.size, 1, none⟩ = some (.slice v.a v.n v.cap) := by rw [hAB.cell (p := ⟨wo.heap.size, 1, none⟩) hbx.row.lt]; exact hp1
     have HEC : Hid (enC (upE nd) = [.slice nd.la.a nd.la.n nd.la.cap, .slice none 0 0, .int .u8 (x0.toNat : Int), .int .u8 (x1.toNat : Int), .int .u8 (x2.toNat : Int), .int .u8 (x3.toNat : Int), .int .u8 (x4.toNat : Int), .int .u8 (x5.toNat : Int), .int .u8 (x6.toNat : Int), .int .u8 (x7.toNat : Int)]) := by
      unfold Hid enC upE; simp only [hy]; rfl
     have hABd : Below wr.heap.size wr ((wr.alloc (.cells #[.slice nd.la.a nd.la.n nd.la.cap, .slice none 0 0, .int .u8 (x0.toNat : Int), .int .u8 (x1.toNat : Int), .int .u8 (x2.toNat : Int), .int .u8 (x3.toNat : Int), .int .u8 (x4.toNat : Int), .int .u8 (x5.toNat : Int), .int .u8 (x6.toNat : Int), .int .u8 (x7.toNat : Int)] 103)).drew) := ⟨hAB.os, hAB.tape, hAB.output, hAB.size, hAB.block⟩
     have HOX : Hid (((wr.alloc (.cells #[.slice nd.la.a nd.la.n nd.la.cap, .slice none 0 0, .int .u8 (x0.toNat : Int), .int .u8 (x1.toNat : Int), .int .u8 (x2.toNat : Int), .int .u8 (x3.toNat : Int), .int .u8 (x4.toNat : Int), .int .u8 (x5.toNat : Int), .int .u8 (x6.toNat : Int), .int .u8 (x7.toNat : Int)] 103)).drew).ownsRow wo.heap.size 103 10 (.slice v.a v.n v.cap) ((ps.take j).map upE).length (ensC ((ps.take j).map upE))) := owns_below hbx.own hABd
     have HSX : Hid (SlV ((wr.alloc (.cells #[.slice nd.la.a nd.la.n nd.la.cap, .slice none 0 0, .int .u8 (x0.toNat : Int), .int .u8 (x1.toNat : Int), .int .u8 (x2.toNat : Int), .int .u8 (x3.toNat : Int), .int .u8 (x4.toNat : Int), .int .u8 (x5.toNat : Int), .int .u8 (x6.toNat : Int), .int .u8 (x7.toNat : Int)] 103)).drew) (some ⟨wr.heap.size, 0, none⟩) (enC (upE nd))) := by
      unfold Hid; rw [HEC.out]; exact SlV.alloc_new wr _ _
     have H1X : Hid (∀ u ∈ enC (upE nd), u.oneCell' = true) := enC_one _
     have HLX : Hid ((enC (upE nd)).length = 1 * 10) := enC_length (upE nd) rfl
     have HBSZ : Hid (wo.heap.size ≤ ((wr.alloc (.cells #[.slice nd.la.a nd.la.n nd.la.cap, .slice none 0 0, .int .u8 (x0.toNat : Int), .int .u8 (x1.toNat : Int), .int .u8 (x2.toNat : Int), .int .u8 (x3.toNat : Int), .int .u8 (x4.toNat : Int), .int .u8 (x5.toNat : Int), .int .u8 (x6.toNat : Int), .int .u8 (x7.toNat : Int)] 103)).drew).heap.size) := Nat.le_trans hbx.bel.size hABd.size
     have HBXB : Hid (Below wr.heap.size wr ((wr.alloc (.cells #[.slice nd.la.a nd.la.n nd.la.cap, .slice none 0 0, .int .u8 (x0.toNat : Int), .int .u8 (x1.toNat : Int), .int .u8 (x2.toNat : Int), .int .u8 (x3.toNat : Int), .int .u8 (x4.toNat : Int), .int .u8 (x5.toNat : Int), .int .u8 (x6.toNat : Int), .int .u8 (x7.toNat : Int)] 103)).drew)) := hABd
     clear hAB hABd hrw hndj hbx hcj hy hb2
     go_wp2
     go_region_law ((refine step_appendV (by rfl) (.tmp 30) (.tmp 40) 83 (by rfl) wo.heap.size 103 _ 10 56 Try.underlying83 Try.infoEntry rfl (by decide) (.slice v.a v.n v.cap) ((ps.take j).map upE).length (ensC ((ps.take j).map upE)) (by rfl) HOX.out ⟨wr.heap.size, 0, none⟩ 1 1 (enC (upE nd)) (by rfl) HLX.out HSX.out H1X.out (by have := HJL.out; unfold maxLen; omega) (by have := HJL.out; omega) HBSZ.out ?_; intro a3 n3 c3 w3 ho3 hf3 hat3; obtain ⟨hpush, hcp, hfp⟩ := BoxSt.push (v' := ⟨a3, n3, c3⟩) HBX.out (Nat.le_refl _) HBXB.out ho3 hf3; unfold SlR.val at hcp))
     all_goals
      go_wp2
      refine ⟨⟨j + 1, ⟨a3, n3, c3⟩, by omega, by go_num, ?_⟩, by simp [intOf]; omega⟩
      unfold Hid; rw [HTJ.out]; exact hpush
    ·have hjI : ¬ (j : Int) < c.2 := by omega
     have HTE : Hid ((ps.take j).map upE = ps.map upE) := by unfold Hid; rw [List.take_of_length_le (by have := HPL.out; omega)]
     rw [HTE.out] at HBX
     have hbx := HBX.out
     have hT2 := HT.out.below hbx.bel
     obtain ⟨hvs, hvn⟩ := SlV.ofOwn (s := v) hbx.own
     obtain ⟨va, vn, vc⟩ := v
     simp only at hvs hvn
     rw [List.length_map] at hvn
     subst hvn
     have hp0 : wr.cell? ⟨wo.heap.size, 0, none⟩ = some (.int .i64 (level : Int)) := hbx.row.cell 0 (by simp)
     have hp1 : wr.cell? ⟨wo.heap.size, 1, none⟩ = some (.slice va ps.length vc) := hbx.row.cell 1 (by simp)
     have hpg : PageIn wr sb mp1 es1 level va ps.length (ps.map upE) (ps.map upI) ⟨cutS o.a o.cap c.1 1, c.2, o.cap - c.1⟩ (ps.map (·.b)) := PageIn.up HL0.out HL6.out HP60.out (fun nd h => ⟨(HNW.out nd h).1.below hbx.bel, (HNW.out nd h).2⟩) hvs (HSP.out.below_all hbx.bel) HPL.out HBNIL.out
     have HC : Hid (Calls _ _ _ _ _) := node_any sb M en tr mp1 es1 level va ps.length vc (ps.map upE) (ps.map upI) ⟨cutS o.a o.cap c.1 1, c.2, o.cap - c.1⟩ (ps.map (·.b)) wr hT2.row hT2.known (by omega) hpg
     have HT2 : Hid (TrSt w sb en tr mp es (fun k => ∃ nd ∈ nds, ndF nd k) wr M mp1 es1 o2 nds2) := hT2
     have HPA2 : Hid (wr.ownsRow w.heap.size 87 1 (.slice (some ⟨b, q, none⟩) pn pc) cs.length (cs.map (cutV o.a o.cap 1))) := owns_below HPA.out hbx.bel
     have HIN : Hid (∀ k', ((∃ x ∈ ps.map upE, ∃ y, x.k.a = some y ∧ y.block = k') ∨ k' ∈ ps.map (·.b)) → ∃ nd ∈ nds, ndF nd k') := fun k' h => by
      rcases h with ⟨x, hx, y, hy, h⟩ | h
      ·obtain ⟨nd, hn, rfl⟩ := List.mem_map.1 hx
       exact ⟨nd, HPM.out nd hn, Or.inr (Or.inl ⟨y, hy, h⟩)⟩
      ·obtain ⟨nd, hn, rfl⟩ := List.mem_map.1 h
       exact ⟨nd, HPM.out nd hn, Or.inl rfl⟩
     have HOW : Hid (∀ (w2 : World) (nd : Nd), NodeOut wr sb M en tr mp1 es1 level (ps.map upE) (ps.map upI) (ps.map (·.b)) nd w2 → (w2.alloc (.cells #[.pointer (some ⟨nd.b, 0, none⟩)] 96)).ownsRow w.heap.size 96 1 (.slice o2.a o2.n o2.cap) nds2.length (nds2.map (fun x => ptrV x.b)) ∧ w.heap.size ≤ (w2.alloc (.cells #[.pointer (some ⟨nd.b, 0, none⟩)] 96)).heap.size ∧ w2.ownsRow w.heap.size 87 1 (.slice (some ⟨b, q, none⟩) pn pc) cs.length (cs.map (cutV o.a o.cap 1))) := fun w2 nd hout => by
      obtain ⟨_, _, _, _, _, _, _, _, _, _, r6, _⟩ := hout
      have h1 := owns_frame HT2.out.own r6 (fun k hk => (HT2.out.onew k hk).1)
      refine ⟨h1.alloc _, ?_, owns_frame HPA2.out r6 (KMut.ne HT2.out.row HT2.out.known HPA2.out (by decide) (by decide))⟩
      have := HT2.out.frame.size
      have := r6.size
      simp; omega
     have H1 : Hid (∀ nd : Nd, ∀ u ∈ [Value.pointer (some ⟨nd.b, 0, none⟩)], u.oneCell' = true) := fun nd u hu => by simp at hu; subst hu; rfl
     clear hbx hT2 hvs hpg hjI
     unfold SlR.val at HC
     go_wp2_with (first
      | (go_at_call 89; refine HC.out.mono ?_; rintro e w2 ⟨nd, rfl, hout⟩; obtain ⟨hox, hwx, hpx⟩ := HOW.out w2 nd hout)
      | (at_builtin; refine wp_appendV (by rfl) (.tmp 44) (.tmp 49) 87 (by rfl) w.heap.size 96 _ 1 8 Try.underlying87 Try.infoNodeP rfl (by decide) (.slice o2.a o2.n o2.cap) nds2.length (nds2.map (fun x => ptrV x.b)) (by rfl) hox (some ⟨w2.heap.size, 0, none⟩) 1 1 [.pointer (some ⟨nd.b, 0, none⟩)] (by rfl) rfl (SlV.alloc_new w2 _ _) (fun h => by cases h) (H1.out nd) (by have := HNK.out; unfold maxLen; omega) (by have := HNK.out; omega) hwx ?_; intro v3 w3 ho3 hf3 hat3; obtain ⟨a3, c3, hv3, _⟩ := owns_form ho3; subst hv3))
     have hlv := hout
     obtain ⟨_, _, _, _, _, g1, g2, g3, _⟩ := hlv
     obtain ⟨mp2, es2, hst2⟩ := HT2.out.step (o' := ⟨a3, nds2.length + 1, c3⟩) hout (fun k' hk' _ => Or.inr (HIN.out k' hk')) (fun k' hk' e => by have := HNDL.out k' (HIN.out k' hk'); have := (HT2.out.own.lt k' e).1; omega) ho3 ((Below.refl _ _).alloc (Nat.le_refl _) _) hf3 hat3
     refine ⟨⟨k + 1, M + 1, mp2, es2, ⟨a3, nds2.length + 1, c3⟩, nds2 ++ [nd], by omega, by go_num, rfl, by omega, hst2, ?_, ?_, ?_, ?_⟩, by simp [intOf]; omega⟩
     ·unfold Hid; rw [HTK.out, List.map_append, HI.out]; simp [g2, HPS.out]
     ·intro x hx
      rcases List.mem_append.1 hx with hx | hx
      ·exact HL.out x hx
      ·simp only [List.mem_singleton] at hx; subst hx; exact g1
     ·unfold Hid; rw [HTB.out, List.map_append, HBL.out, HPX.out]; simp [g3]
     ·exact owns_frame (hpx.alloc _) hf3 (fun k' hk' e => owns_ne2 (hpx.alloc _) hox (by decide) k' hk' e)
  ·obtain rfl : k = p.n := by omega
   have HKE : Hid (cs.take p.n = cs) := by unfold Hid; rw [HPN.out, List.take_length]
   unfold SlR.val
   go_wp2
   go_ret
   exact ⟨o2, nds2, M, mp1, es1, rfl, HT.out, by omega, by rw [HI.out, HKE.out, HCP.out], HL.out, by rw [HBL.out, HKE.out]⟩
end Go.Proofs.Ytekegfbjbainhaa
