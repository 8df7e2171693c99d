import Derived.Test.YtekegfbjbainhaaKJoin18
import Derived.Deep.DeepCutAuto
import Derived.Deep.CutBlock
import Derived.Test.YtekegfbjbainhaaKJoin15
import Derived.Deep.RegionHeld3
set_option linter.unusedVariables false
set_option linter.unusedSimpArgs false

namespace Go.Proofs.Ytekegfbjbainhaa
open Go.RowKit
attribute [local go_sem ↓] Go.wp_at_zero Go.wp_at_succ
def NoMet (ps : List (List UInt8)) (n : Nat) : Prop := ∀ i j (hi : i < ps.length) (hj : j < ps.length), i < j → j < n → digB ps[i] = digB ps[j] → ps[i] = ps[j]
theorem NoMet.met {A B : List (List UInt8)} (h : NoMet (A ++ B) (A ++ B).length) : ¬ Met A B := by
 rintro ⟨x, hx, y, hy, hne, hd⟩
 obtain ⟨i, hi, rfl⟩ := List.mem_iff_getElem.1 hx
 obtain ⟨j, hj, rfl⟩ := List.mem_iff_getElem.1 hy
 have h1 : (A ++ B)[i]'(by simp; omega) = A[i] := List.getElem_append_left hi
 have h2 : (A ++ B)[A.length + j]'(by simp; omega) = B[j] := by rw [List.getElem_append_right (by omega)]; simp
 have := h i (A.length + j) (by simp; omega) (by simp; omega) (by omega) (by simp; omega) (by rw [h1, h2]; exact hd)
 rw [h1, h2] at this
 exact hne this
def digsOf (ps : List (List UInt8)) : List (List UInt8) := ps.map digB
theorem digsOf_8 (ps : List (List UInt8)) : ∀ d ∈ digsOf ps, d.length = 8 := fun d hd => by
 obtain ⟨p, _, rfl⟩ := List.mem_map.1 hd
 exact digB_length p
theorem SlD.at {w : World} {a : Option Addr} {l : List (List UInt8)} (h : SlD w a l) (k : Nat) (hk : k < l.length) : ∃ b o, a = some ⟨b, o, none⟩ ∧ b < w.heap.size ∧ w.rangeAt b (o + k * 8) (l[k].map u8c) := by
 have hlen := digsC_length l h.2
 obtain ⟨b, o, ha, hb, _⟩ := h.1 (k * 8) (by omega)
 subst ha
 have hd := h.drop k (by omega)
 refine ⟨b, o, rfl, hb, fun j v hv => ?_⟩
 obtain ⟨hj, hv⟩ := List.getElem?_eq_some_iff.1 hv
 have h8 : l[k].length = 8 := h.2 _ (List.getElem_mem hk)
 have e : l.drop k = l[k] :: l.drop (k + 1) := List.drop_eq_getElem_cons hk
 rw [e] at hd
 have hj' : j < (digsC (l[k] :: l.drop (k + 1))).length := by
  rw [digsC_length _ hd.2]; simp at hj ⊢; omega
 obtain ⟨b', o', ha, hb', hc'⟩ := hd.1 j hj'
 cases ha
 rw [hc', ← hv]
 congr 1
 simp only [digsC, List.flatMap_cons]
 rw [List.getElem_append_left (by simpa using hj)]
set_option maxRecDepth 100000 in
set_option maxHeartbeats 4000000 in
theorem met_any (v : SlR) (ps : List (List UInt8)) (w : World) (h : SlV w v.a (ps.map strV)) (hn : v.n = ps.length) (hl : ps.length ≤ 1000000000) (hp : ∀ p ∈ ps, p.length ≤ 1000000000) :
  Calls Try.prog 25 #[v.val] w fun e w' => (e = .returned (.bool true) ∨ e = .returned (.bool false) ∧ NoMet ps ps.length) ∧ Below w.heap.size w w' := by
 have HV : Hid (SlV w v.a (ps.map strV)) := h
 have HP : Hid (∀ p ∈ ps, p.length ≤ 1000000000) := hp
 have hlI : (ps.length : Int) ≤ 1000000000 := by omega
 obtain ⟨va, vn, vc⟩ := v
 simp only at hn
 subst hn
 have HCE : Hid (∀ (k : Nat) (hk : k < ps.length), ∃ b o, va = some ⟨b, o, none⟩ ∧ ∀ W, Below w.heap.size w W → W.cell? ⟨b, o + k, none⟩ = some (.string ⟨ps[k].toArray⟩)) := fun k hk => by
  obtain ⟨b, o, e, hb, hc⟩ := HV.out k (by simpa using hk)
  refine ⟨b, o, e, fun W hW => (hW.cell (p := ⟨b, o + k, none⟩) hb).trans ?_⟩
  rw [hc]
  simp [strV]
 clear h hp
 unfold SlR.val
 go_enter Try.func25, Try.ntmps25
 go_wp2
 go_loopw [3, 4] (fun dv iv wr => ∃ (i : Nat) (u : SlR), i ≤ ps.length ∧ iv = .int .i64 (i : Int) ∧ dv = .slice u.a u.n u.cap ∧ Hid (wr.ownsRow w.heap.size 45 8 (.slice u.a u.n u.cap) (digsOf (ps.take i)).length (digsC (digsOf (ps.take i)))) ∧ Hid (NoMet ps i) ∧ Hid (Below w.heap.size w wr)) (fun _ iv _ => ps.length - (intOf iv).toNat)
 case atStart => exact ⟨0, ⟨none, 0, 0⟩, by omega, rfl, rfl, World.ownsRow_nil _ _ _ _, fun i j _ _ _ h => absurd h (Nat.not_lt_zero _), Below.refl _ _⟩
 case round =>
  obtain ⟨i, u, hi, rfl, rfl, HO, HNM, HB⟩ := hrel
  by_cases hlt : i < ps.length
  ·have hltI : (i : Int) < ps.length := by omega
   obtain ⟨b, o, hva, hcs⟩ := HCE.out i hlt
   subst hva
   have HCI : Hid (∀ W, Below w.heap.size w W → W.cell? ⟨b, o + i, none⟩ = some (.string ⟨ps[i].toArray⟩)) := hcs
   have c0 := hcs _ HB.out
   have HPL : Hid (ps[i].length ≤ 1000000000) := HP.out _ (List.getElem_mem hlt)
   obtain ⟨x0, x1, x2, x3, x4, x5, x6, x7, hxx⟩ := list8 (digB ps[i]) (digB_length _)
   have HDV : Hid (digV ps[i] = .agg #[.int .u8 (x0.toNat : Int), .int .u8 (x1.toNat : Int), .int .u8 (x2.toNat : Int), .int .u8 (x3.toNat : Int), .int .u8 (x4.toNat : Int), .int .u8 (x5.toNat : Int), .int .u8 (x6.toNat : Int), .int .u8 (x7.toNat : Int)]) := by unfold Hid; rw [digV_eq, hxx]; rfl
   have HXX : Hid (digB ps[i] = [x0, x1, x2, x3, x4, x5, x6, x7]) := hxx
   clear hcs hxx
   obtain ⟨pi, hpi⟩ : ∃ pi, pi = ps[i] := ⟨_, rfl⟩
   rw [← hpi] at c0 HDV HPL HCI HXX
   have HPI : Hid (pi = ps[i]) := hpi
   clear hpi
   go_wp2_with (first
    | (refine wp_toBytes (by rfl) (.tmp 16) (by rfl) pi (by rfl) ?_; intro s1 w3 hb3 hB3 hn3))
   refine (digest_any s1.a s1.n s1.cap pi w3 hb3.n (by have := HPL.out; unfold maxLen; omega) hb3.sl).mono ?_
   rintro r w4 ⟨rfl, hb4⟩
   rw [HDV.out]
   have HB4 : Hid (Below wr.heap.size wr w4) := hB3.trans (hb4.mono hB3.size)
   have HB5 : Hid (Below wr.heap.size wr (w4.alloc (.cells #[.int .u8 (x0.toNat : Int), .int .u8 (x1.toNat : Int), .int .u8 (x2.toNat : Int), .int .u8 (x3.toNat : Int), .int .u8 (x4.toNat : Int), .int .u8 (x5.toNat : Int), .int .u8 (x6.toNat : Int), .int .u8 (x7.toNat : Int)] 45))) := HB4.out.alloc HB4.out.size _
   have HR5 : Hid (RowV (w4.alloc (.cells #[.int .u8 (x0.toNat : Int), .int .u8 (x1.toNat : Int), .int .u8 (x2.toNat : Int), .int .u8 (x3.toNat : Int), .int .u8 (x4.toNat : Int), .int .u8 (x5.toNat : Int), .int .u8 (x6.toNat : Int), .int .u8 (x7.toNat : Int)] 45)) w4.heap.size 45 [.int .u8 (x0.toNat : Int), .int .u8 (x1.toNat : Int), .int .u8 (x2.toNat : Int), .int .u8 (x3.toNat : Int), .int .u8 (x4.toNat : Int), .int .u8 (x5.toNat : Int), .int .u8 (x6.toNat : Int), .int .u8 (x7.toNat : Int)]) := RowV.new w4 _ _
   clear hb3 hB3 hn3 hb4
   go_upto_block 2 with fail
   have HO5 : Hid ((w4.alloc (.cells #[.int .u8 (x0.toNat : Int), .int .u8 (x1.toNat : Int), .int .u8 (x2.toNat : Int), .int .u8 (x3.toNat : Int), .int .u8 (x4.toNat : Int), .int .u8 (x5.toNat : Int), .int .u8 (x6.toNat : Int), .int .u8 (x7.toNat : Int)] 45)).ownsRow w.heap.size 45 8 (.slice u.a u.n u.cap) (digsOf (ps.take i)).length (digsC (digsOf (ps.take i)))) := owns_below HO.out HB5.out
   have HB0 : Hid (Below w.heap.size w (w4.alloc (.cells #[.int .u8 (x0.toNat : Int), .int .u8 (x1.toNat : Int), .int .u8 (x2.toNat : Int), .int .u8 (x3.toNat : Int), .int .u8 (x4.toNat : Int), .int .u8 (x5.toNat : Int), .int .u8 (x6.toNat : Int), .int .u8 (x7.toNat : Int)] 45))) := HB.out.trans (HB5.out.mono HB.out.size)
   have HDL : Hid ((digsOf (ps.take i)).length = i) := by unfold Hid digsOf; simp; omega
   have hun : u.n = i := by rw [(SlV.ofOwn (s := u) HO.out).2]; exact HDL.out
   clear HB4 HB5 HO c0
   generalize w4.alloc (.cells #[.int .u8 (x0.toNat : Int), .int .u8 (x1.toNat : Int), .int .u8 (x2.toNat : Int), .int .u8 (x3.toNat : Int), .int .u8 (x4.toNat : Int), .int .u8 (x5.toNat : Int), .int .u8 (x6.toNat : Int), .int .u8 (x7.toNat : Int)] 45) = w5 at *
   generalize w4.heap.size = xb at *
   obtain ⟨ua, un, uc⟩ := u
   simp only at hun
   subst hun
   have hltI2 : (un : Int) ≤ 1000000000 := by omega
   go_cut [] (fun wx => Hid (Below w5.heap.size w5 wx) ∧ Hid (∀ q (hq : q < ps.length), q < un → digB ps[q] = digB pi → ps[q] = pi))
   case first =>
    go_wp2_with fail
    go_loopw [6] (fun kv wx => ∃ k : Nat, k ≤ un ∧ kv = .int .i64 (k : Int) ∧ Hid (Below w5.heap.size w5 wx) ∧ Hid (∀ q (hq : q < ps.length), q < k → digB ps[q] = digB pi → ps[q] = pi)) (fun kv _ => un - (intOf kv).toNat)
    case atStart => exact ⟨0, Nat.zero_le _, rfl, Below.refl _ _, fun q _ h => absurd h (Nat.not_lt_zero _)⟩
    case round =>
     obtain ⟨k, hk, rfl, HBR, HNO⟩ := hrel
     by_cases hki : k < un
     ·have hkiI : (k : Int) < un := by omega
      have hkl : k < ps.length := by omega
      have HBM : Hid (Below w.heap.size w wr) := HB0.out.trans (HBR.out.mono HB0.out.size)
      have HSD : Hid (SlD wr ua (digsOf (ps.take un))) := ⟨(SlV.ofOwn (s := ⟨ua, un, uc⟩) (owns_below HO5.out HBR.out)).1, digsOf_8 _⟩
      obtain ⟨db, dof, hda, _, hrg⟩ := HSD.out.at k (by rw [HDL.out]; exact hki)
      subst hda
      have hdk : (digsOf (ps.take un))[k]'(by rw [HDL.out]; exact hki) = digB ps[k] := by unfold digsOf; simp
      rw [hdk] at hrg
      obtain ⟨y0, y1, y2, y3, y4, y5, y6, y7, hyy⟩ := list8 (digB ps[k]) (digB_length _)
      rw [hyy] at hrg
      have d0 : wr.cell? ⟨db, dof + k * 8, none⟩ = some (.int .u8 (y0.toNat : Int)) := hrg 0 _ rfl
      have d1 : wr.cell? ⟨db, dof + k * 8 + 1, none⟩ = some (.int .u8 (y1.toNat : Int)) := hrg 1 _ rfl
      have d2 : wr.cell? ⟨db, dof + k * 8 + 2, none⟩ = some (.int .u8 (y2.toNat : Int)) := hrg 2 _ rfl
      have d3 : wr.cell? ⟨db, dof + k * 8 + 3, none⟩ = some (.int .u8 (y3.toNat : Int)) := hrg 3 _ rfl
      have d4 : wr.cell? ⟨db, dof + k * 8 + 4, none⟩ = some (.int .u8 (y4.toNat : Int)) := hrg 4 _ rfl
      have d5 : wr.cell? ⟨db, dof + k * 8 + 5, none⟩ = some (.int .u8 (y5.toNat : Int)) := hrg 5 _ rfl
      have d6 : wr.cell? ⟨db, dof + k * 8 + 6, none⟩ = some (.int .u8 (y6.toNat : Int)) := hrg 6 _ rfl
      have d7 : wr.cell? ⟨db, dof + k * 8 + 7, none⟩ = some (.int .u8 (y7.toNat : Int)) := hrg 7 _ rfl
      have c0 : wr.cell? ⟨xb, 0, none⟩ = some (.int .u8 (x0.toNat : Int)) := (HBR.out.cell (p := ⟨xb, 0, none⟩) HR5.out.lt).trans (RowV.cell? HR5.out 0)
      have c1 : wr.cell? ⟨xb, 1, none⟩ = some (.int .u8 (x1.toNat : Int)) := (HBR.out.cell (p := ⟨xb, 1, none⟩) HR5.out.lt).trans (RowV.cell? HR5.out 1)
      have c2 : wr.cell? ⟨xb, 2, none⟩ = some (.int .u8 (x2.toNat : Int)) := (HBR.out.cell (p := ⟨xb, 2, none⟩) HR5.out.lt).trans (RowV.cell? HR5.out 2)
      have c3 : wr.cell? ⟨xb, 3, none⟩ = some (.int .u8 (x3.toNat : Int)) := (HBR.out.cell (p := ⟨xb, 3, none⟩) HR5.out.lt).trans (RowV.cell? HR5.out 3)
      have c4 : wr.cell? ⟨xb, 4, none⟩ = some (.int .u8 (x4.toNat : Int)) := (HBR.out.cell (p := ⟨xb, 4, none⟩) HR5.out.lt).trans (RowV.cell? HR5.out 4)
      have c5 : wr.cell? ⟨xb, 5, none⟩ = some (.int .u8 (x5.toNat : Int)) := (HBR.out.cell (p := ⟨xb, 5, none⟩) HR5.out.lt).trans (RowV.cell? HR5.out 5)
      have c6 : wr.cell? ⟨xb, 6, none⟩ = some (.int .u8 (x6.toNat : Int)) := (HBR.out.cell (p := ⟨xb, 6, none⟩) HR5.out.lt).trans (RowV.cell? HR5.out 6)
      have c7 : wr.cell? ⟨xb, 7, none⟩ = some (.int .u8 (x7.toNat : Int)) := (HBR.out.cell (p := ⟨xb, 7, none⟩) HR5.out.lt).trans (RowV.cell? HR5.out 7)
      obtain ⟨b', o', hbo, hck⟩ := HCE.out k hkl
      cases hbo
      have s1 := hck _ HBM.out
      have s2 := HCI.out _ HBM.out
      obtain ⟨eqv, heqv⟩ : ∃ eqv, eqv = (digB ps[k] == digB pi) := ⟨_, rfl⟩
      have HEQV : Hid (eqv = (digB ps[k] == digB pi)) := heqv
      have heq : ∀ W, (Op.equalIn 10000 45 (Value.agg #[.int .u8 (y0.toNat : Int), .int .u8 (y1.toNat : Int), .int .u8 (y2.toNat : Int), .int .u8 (y3.toNat : Int), .int .u8 (y4.toNat : Int), .int .u8 (y5.toNat : Int), .int .u8 (y6.toNat : Int), .int .u8 (y7.toNat : Int)]) (Value.agg #[.int .u8 (x0.toNat : Int), .int .u8 (x1.toNat : Int), .int .u8 (x2.toNat : Int), .int .u8 (x3.toNat : Int), .int .u8 (x4.toNat : Int), .int .u8 (x5.toNat : Int), .int .u8 (x6.toNat : Int), .int .u8 (x7.toNat : Int)])).run Try.prog W = .ok eqv W := fun W => by
       have h := run_equalIn_bytes (P := Try.prog) W 9998 45 5 8 Try.underlying45 Try.underlying5 Try.sizeU8 (digB ps[k]) (digB pi) (digB_length _) (digB_length _)
       rw [← heqv, hyy, HXX.out] at h
       exact h
      have HNK : Hid (∀ q (hq : q < ps.length), q < k + 1 → (q = k → digB ps[k] = digB pi → ps[k] = pi) → digB ps[q] = digB pi → ps[q] = pi) := fun q hq h1 h2 h3 => by
       by_cases e : q = k
       ·subst e; exact h2 rfl h3
       ·exact HNO.out q hq (by omega) h3
      clear hrg hyy heqv hdk hck
      generalize ps[k] = pk at *
      cases eqv with
      | false =>
       go_wp2_with fail
       go_quiet (fail)
       go_wp2
       refine ⟨⟨k + 1, by omega, by go_num, HBR.out.trans ((bel_drewN wr nq).mono HBR.out.size), fun q hq h1 => HNK.out q hq h1 (fun _ e => ?_)⟩, by simp [intOf]; omega⟩
       have h := HEQV.out
       rw [e] at h
       simp at h
      | true =>
       by_cases hpp : pk = pi
       ·have hbb : (pk == pi) = true := by simpa using hpp
        have HPP : Hid (pk = pi) := hpp
        clear hpp
        go_wp2_with fail
        go_quiet (fail)
        go_wp2
        refine ⟨⟨k + 1, by omega, by go_num, HBR.out.trans ((bel_drewN wr nq).mono HBR.out.size), fun q hq h1 => HNK.out q hq h1 (fun _ _ => HPP.out)⟩, by simp [intOf]; omega⟩
       ·have hbb : (pk == pi) = false := by simpa using hpp
        clear hpp
        go_wp2_with fail
        go_quiet (fail)
        go_wp2
        go_ret
        exact ⟨Or.inl rfl, HBM.out.trans ((bel_drewN wr nq).mono HBM.out.size)⟩
     ·have hkiI : ¬ (k : Int) < un := by omega
      obtain rfl : k = un := by omega
      go_wp2
      go_meet
      exact ⟨HBR, HNO⟩
   case rest =>
    obtain ⟨HBR, HNO⟩ := hcut
    have HR6 : Hid (RowV wc xb 45 [.int .u8 (x0.toNat : Int), .int .u8 (x1.toNat : Int), .int .u8 (x2.toNat : Int), .int .u8 (x3.toNat : Int), .int .u8 (x4.toNat : Int), .int .u8 (x5.toNat : Int), .int .u8 (x6.toNat : Int), .int .u8 (x7.toNat : Int)]) := RowV.below HR5.out HR5.out.lt HBR.out
    have HO6 : Hid (wc.ownsRow w.heap.size 45 8 (.slice ua un uc) (digsOf (ps.take un)).length (digsC (digsOf (ps.take un)))) := owns_below HO5.out HBR.out
    have HB6 : Hid (Below w.heap.size w wc) := HB0.out.trans (HBR.out.mono HB0.out.size)
    generalize wc = w6 at *
    have c0 : w6.cell? ⟨xb, 0, none⟩ = some (.int .u8 (x0.toNat : Int)) := RowV.cell? HR6.out 0
    have c1 : w6.cell? ⟨xb, 1, none⟩ = some (.int .u8 (x1.toNat : Int)) := RowV.cell? HR6.out 1
    have c2 : w6.cell? ⟨xb, 2, none⟩ = some (.int .u8 (x2.toNat : Int)) := RowV.cell? HR6.out 2
    have c3 : w6.cell? ⟨xb, 3, none⟩ = some (.int .u8 (x3.toNat : Int)) := RowV.cell? HR6.out 3
    have c4 : w6.cell? ⟨xb, 4, none⟩ = some (.int .u8 (x4.toNat : Int)) := RowV.cell? HR6.out 4
    have c5 : w6.cell? ⟨xb, 5, none⟩ = some (.int .u8 (x5.toNat : Int)) := RowV.cell? HR6.out 5
    have c6 : w6.cell? ⟨xb, 6, none⟩ = some (.int .u8 (x6.toNat : Int)) := RowV.cell? HR6.out 6
    have c7 : w6.cell? ⟨xb, 7, none⟩ = some (.int .u8 (x7.toNat : Int)) := RowV.cell? HR6.out 7
    have HOX : Hid ((w6.alloc (.cells #[.int .u8 (x0.toNat : Int), .int .u8 (x1.toNat : Int), .int .u8 (x2.toNat : Int), .int .u8 (x3.toNat : Int), .int .u8 (x4.toNat : Int), .int .u8 (x5.toNat : Int), .int .u8 (x6.toNat : Int), .int .u8 (x7.toNat : Int)] 45)).ownsRow w.heap.size 45 8 (.slice ua un uc) (digsOf (ps.take un)).length (digsC (digsOf (ps.take un)))) := HO6.out.alloc _
    have HSX : Hid (SlV (w6.alloc (.cells #[.int .u8 (x0.toNat : Int), .int .u8 (x1.toNat : Int), .int .u8 (x2.toNat : Int), .int .u8 (x3.toNat : Int), .int .u8 (x4.toNat : Int), .int .u8 (x5.toNat : Int), .int .u8 (x6.toNat : Int), .int .u8 (x7.toNat : Int)] 45)) (some ⟨w6.heap.size, 0, none⟩) [.int .u8 (x0.toNat : Int), .int .u8 (x1.toNat : Int), .int .u8 (x2.toNat : Int), .int .u8 (x3.toNat : Int), .int .u8 (x4.toNat : Int), .int .u8 (x5.toNat : Int), .int .u8 (x6.toNat : Int), .int .u8 (x7.toNat : Int)]) := SlV.alloc_new w6 _ _
    have H1X : Hid (∀ u ∈ ([.int .u8 (x0.toNat : Int), .int .u8 (x1.toNat : Int), .int .u8 (x2.toNat : Int), .int .u8 (x3.toNat : Int), .int .u8 (x4.toNat : Int), .int .u8 (x5.toNat : Int), .int .u8 (x6.toNat : Int), .int .u8 (x7.toNat : Int)] : List Value), u.oneCell' = true) := digsC_one [[x0, x1, x2, x3, x4, x5, x6, x7]]
    have HBW : Hid (Below w.heap.size w (w6.alloc (.cells #[.int .u8 (x0.toNat : Int), .int .u8 (x1.toNat : Int), .int .u8 (x2.toNat : Int), .int .u8 (x3.toNat : Int), .int .u8 (x4.toNat : Int), .int .u8 (x5.toNat : Int), .int .u8 (x6.toNat : Int), .int .u8 (x7.toNat : Int)] 45))) := HB6.out.alloc HB6.out.size _
    have HSZ : Hid (w.heap.size ≤ (w6.alloc (.cells #[.int .u8 (x0.toNat : Int), .int .u8 (x1.toNat : Int), .int .u8 (x2.toNat : Int), .int .u8 (x3.toNat : Int), .int .u8 (x4.toNat : Int), .int .u8 (x5.toNat : Int), .int .u8 (x6.toNat : Int), .int .u8 (x7.toNat : Int)] 45)).heap.size) := HBW.out.size
    go_wp2_with (at_builtin; refine wp_appendV (by rfl) (.tmp 41) (.tmp 43) 73 (by rfl) w.heap.size 45 _ 8 8 Try.underlying73 Try.infoDigs rfl (by decide) (.slice ua un uc) (digsOf (ps.take un)).length (digsC (digsOf (ps.take un))) (by rfl) HOX.out (some ⟨w6.heap.size, 0, none⟩) 1 1 [.int .u8 (x0.toNat : Int), .int .u8 (x1.toNat : Int), .int .u8 (x2.toNat : Int), .int .u8 (x3.toNat : Int), .int .u8 (x4.toNat : Int), .int .u8 (x5.toNat : Int), .int .u8 (x6.toNat : Int), .int .u8 (x7.toNat : Int)] (by rfl) rfl HSX.out (fun h => by cases h) H1X.out (by have := HDL.out; unfold maxLen; omega) (by have := HDL.out; omega) HSZ.out ?_; intro v3 w7 ho7 hf7 hat7; obtain ⟨a7, c7, hv7, _⟩ := owns_form ho7; subst hv7; obtain ⟨n7, hn7⟩ : ∃ n7, n7 = (digsOf (ps.take un)).length + 1 := ⟨_, rfl⟩; rw [← hn7] at ho7 ⊢; have HN7 : Hid (n7 = (digsOf (ps.take un)).length + 1) := hn7; have HO7 : Hid (w7.ownsRow w.heap.size 45 8 (.slice a7 n7 c7) n7 (digsC (digsOf (ps.take un)) ++ [.int .u8 (x0.toNat : Int), .int .u8 (x1.toNat : Int), .int .u8 (x2.toNat : Int), .int .u8 (x3.toNat : Int), .int .u8 (x4.toNat : Int), .int .u8 (x5.toNat : Int), .int .u8 (x6.toNat : Int), .int .u8 (x7.toNat : Int)])) := ho7; have HF7 : Hid (Below w.heap.size w w7) := HBW.out.trans (hf7.below HBW.out.size (fun q hq => (HOX.out.lt q hq).1)); clear ho7 hf7 hat7 hn7)
    refine ⟨⟨un + 1, ⟨a7, n7, c7⟩, by omega, by go_num, rfl, ?_, ?_, HF7⟩, by simp [intOf]; omega⟩
    ·have e1 : digsOf (ps.take (un + 1)) = digsOf (ps.take un) ++ [digB pi] := by unfold digsOf; rw [List.take_succ_eq_append_getElem hlt, List.map_append, HPI.out]; rfl
     have e2 : digsC (digsOf (ps.take un) ++ [digB pi]) = digsC (digsOf (ps.take un)) ++ [.int .u8 (x0.toNat : Int), .int .u8 (x1.toNat : Int), .int .u8 (x2.toNat : Int), .int .u8 (x3.toNat : Int), .int .u8 (x4.toNat : Int), .int .u8 (x5.toNat : Int), .int .u8 (x6.toNat : Int), .int .u8 (x7.toNat : Int)] := by rw [HXX.out]; simp [digsC, u8c]
     have h := HO7.out
     unfold Hid
     rw [e1, e2, List.length_append, List.length_singleton, ← HN7.out]
     exact h
    ·intro p q hp hq hpq hqu hd
     by_cases e : q = un
     ·subst e
      have h := HNO.out p hp hpq (by rw [HPI.out]; exact hd)
      rw [h, HPI.out]
     ·exact HNM.out p q hp hq hpq (by omega) hd
  ·have hltI : ¬ (i : Int) < ps.length := by omega
   obtain rfl : i = ps.length := by omega
   go_wp2
   go_ret
   exact ⟨Or.inr ⟨rfl, HNM.out⟩, HB.out⟩
end Go.Proofs.Ytekegfbjbainhaa


namespace Go.Proofs.Ytekegfbjbainhaa
open Go.RowKit
attribute [local go_sem ↓] Go.wp_at_zero Go.wp_at_succ
theorem add_text (a b : List UInt8) (W : World) (ha : a.length ≤ 1000) (hb : b.length ≤ 1000) : (Op.stringOp .add (⟨a.toArray⟩ : ByteArray) ⟨b.toArray⟩).run Try.prog W = .ok (.string ⟨(a ++ b).toArray⟩) W := by
 have h := run_string_add_sum (P := Try.prog) (w := W) (⟨a.toArray⟩ : ByteArray) ⟨b.toArray⟩ (by simp [ByteArray.size]; omega)
 rw [h]
 (try congr 2)
 (try apply ByteArray.ext)
 (try simp)
theorem bs_dig (w : World) (d : List UInt8) (t : TypeId) (hd : d.length = 8) : BS (w.alloc (.cells (d.map u8c).toArray t)) ⟨some ⟨w.heap.size, 0, none⟩, 8, 8⟩ d :=
 ⟨(SlV.alloc_new w (d.map u8c) t).toB, hd.symm, fun h => (by cases h), fun x hx => (by cases hx; simp)⟩
set_option maxRecDepth 100000 in
set_option maxHeartbeats 1600000 in
theorem leaf_any (d : List UInt8) (w : World) (hd : d.length = 8) : Calls Try.prog 73 #[dV d] w fun e w' => e = .returned (.string ⟨(0 :: d).toArray⟩) ∧ Below w.heap.size w w' := by
 obtain ⟨x0, x1, x2, x3, x4, x5, x6, x7, rfl⟩ := list8 d hd
 have hB : Below w.heap.size w (w.alloc (.cells #[.int .u8 (x0.toNat : Int), .int .u8 (x1.toNat : Int), .int .u8 (x2.toNat : Int), .int .u8 (x3.toNat : Int), .int .u8 (x4.toNat : Int), .int .u8 (x5.toNat : Int), .int .u8 (x6.toNat : Int), .int .u8 (x7.toNat : Int)] 45)) := (Below.refl _ _).alloc (Nat.le_refl _) _
 have hc : (convert 35 9 (.slice (some ⟨w.heap.size, 0, none⟩) 8 8)).run Try.prog (w.alloc (.cells #[.int .u8 (x0.toNat : Int), .int .u8 (x1.toNat : Int), .int .u8 (x2.toNat : Int), .int .u8 (x3.toNat : Int), .int .u8 (x4.toNat : Int), .int .u8 (x5.toNat : Int), .int .u8 (x6.toNat : Int), .int .u8 (x7.toNat : Int)] 45)) = .ok (.string ⟨[x0, x1, x2, x3, x4, x5, x6, x7].toArray⟩) (w.alloc (.cells #[.int .u8 (x0.toNat : Int), .int .u8 (x1.toNat : Int), .int .u8 (x2.toNat : Int), .int .u8 (x3.toNat : Int), .int .u8 (x4.toNat : Int), .int .u8 (x5.toNat : Int), .int .u8 (x6.toNat : Int), .int .u8 (x7.toNat : Int)] 45)) := bs_run (bs_dig w [x0, x1, x2, x3, x4, x5, x6, x7] 45 rfl) (Below.refl _ _)
 have hs := fun W => add_text [0] [x0, x1, x2, x3, x4, x5, x6, x7] W (by simp) (by simp)
 have HB : Hid (Below w.heap.size w (w.alloc (.cells #[.int .u8 (x0.toNat : Int), .int .u8 (x1.toNat : Int), .int .u8 (x2.toNat : Int), .int .u8 (x3.toNat : Int), .int .u8 (x4.toNat : Int), .int .u8 (x5.toNat : Int), .int .u8 (x6.toNat : Int), .int .u8 (x7.toNat : Int)] 45))) := hB
 clear hB
 rw [show dV [x0, x1, x2, x3, x4, x5, x6, x7] = .agg #[.int .u8 (x0.toNat : Int), .int .u8 (x1.toNat : Int), .int .u8 (x2.toNat : Int), .int .u8 (x3.toNat : Int), .int .u8 (x4.toNat : Int), .int .u8 (x5.toNat : Int), .int .u8 (x6.toNat : Int), .int .u8 (x7.toNat : Int)] from rfl]
 go_enter Try.func73, Try.ntmps73
 go_wp2
 go_ret
 exact ⟨rfl, HB.out⟩
set_option maxRecDepth 100000 in
set_option maxHeartbeats 1600000 in
theorem pair_any (d c : List UInt8) (w : World) (hd : d.length = 8) (hc : c.length = 8) : Calls Try.prog 74 #[dV d, dV c] w fun e w' => e = .returned (.string ⟨(1 :: (d ++ c)).toArray⟩) ∧ Below w.heap.size w w' := by
 obtain ⟨x0, x1, x2, x3, x4, x5, x6, x7, rfl⟩ := list8 d hd
 obtain ⟨y0, y1, y2, y3, y4, y5, y6, y7, rfl⟩ := list8 c hc
 have hB : Below w.heap.size w ((w.alloc (.cells #[.int .u8 (x0.toNat : Int), .int .u8 (x1.toNat : Int), .int .u8 (x2.toNat : Int), .int .u8 (x3.toNat : Int), .int .u8 (x4.toNat : Int), .int .u8 (x5.toNat : Int), .int .u8 (x6.toNat : Int), .int .u8 (x7.toNat : Int)] 45)).alloc (.cells #[.int .u8 (y0.toNat : Int), .int .u8 (y1.toNat : Int), .int .u8 (y2.toNat : Int), .int .u8 (y3.toNat : Int), .int .u8 (y4.toNat : Int), .int .u8 (y5.toNat : Int), .int .u8 (y6.toNat : Int), .int .u8 (y7.toNat : Int)] 45)) := ((Below.refl _ _).alloc (Nat.le_refl _) _).alloc (by simp) _
 have HX : Hid (BS ((w.alloc (.cells #[.int .u8 (x0.toNat : Int), .int .u8 (x1.toNat : Int), .int .u8 (x2.toNat : Int), .int .u8 (x3.toNat : Int), .int .u8 (x4.toNat : Int), .int .u8 (x5.toNat : Int), .int .u8 (x6.toNat : Int), .int .u8 (x7.toNat : Int)] 45)).alloc (.cells #[.int .u8 (y0.toNat : Int), .int .u8 (y1.toNat : Int), .int .u8 (y2.toNat : Int), .int .u8 (y3.toNat : Int), .int .u8 (y4.toNat : Int), .int .u8 (y5.toNat : Int), .int .u8 (y6.toNat : Int), .int .u8 (y7.toNat : Int)] 45)) ⟨some ⟨w.heap.size, 0, none⟩, 8, 8⟩ [x0, x1, x2, x3, x4, x5, x6, x7]) := (bs_dig w [x0, x1, x2, x3, x4, x5, x6, x7] 45 rfl).below ((Below.refl _ _).alloc (Nat.le_refl _) _)
 have HY : Hid (BS ((w.alloc (.cells #[.int .u8 (x0.toNat : Int), .int .u8 (x1.toNat : Int), .int .u8 (x2.toNat : Int), .int .u8 (x3.toNat : Int), .int .u8 (x4.toNat : Int), .int .u8 (x5.toNat : Int), .int .u8 (x6.toNat : Int), .int .u8 (x7.toNat : Int)] 45)).alloc (.cells #[.int .u8 (y0.toNat : Int), .int .u8 (y1.toNat : Int), .int .u8 (y2.toNat : Int), .int .u8 (y3.toNat : Int), .int .u8 (y4.toNat : Int), .int .u8 (y5.toNat : Int), .int .u8 (y6.toNat : Int), .int .u8 (y7.toNat : Int)] 45)) ⟨some ⟨w.heap.size + 1, 0, none⟩, 8, 8⟩ [y0, y1, y2, y3, y4, y5, y6, y7]) := by
  have h := bs_dig (w.alloc (.cells #[.int .u8 (x0.toNat : Int), .int .u8 (x1.toNat : Int), .int .u8 (x2.toNat : Int), .int .u8 (x3.toNat : Int), .int .u8 (x4.toNat : Int), .int .u8 (x5.toNat : Int), .int .u8 (x6.toNat : Int), .int .u8 (x7.toNat : Int)] 45)) [y0, y1, y2, y3, y4, y5, y6, y7] 45 rfl
  unfold Hid
  simpa [u8c] using h
 have h1 := fun q => bs_string HX.out q
 have h2 := fun q => bs_string HY.out q
 have hs := fun W => add_text [1] [x0, x1, x2, x3, x4, x5, x6, x7] W (by simp) (by simp)
 have hs2 := fun W => add_text [1, x0, x1, x2, x3, x4, x5, x6, x7] [y0, y1, y2, y3, y4, y5, y6, y7] W (by simp) (by simp)
 have HB : Hid (Below w.heap.size w ((w.alloc (.cells #[.int .u8 (x0.toNat : Int), .int .u8 (x1.toNat : Int), .int .u8 (x2.toNat : Int), .int .u8 (x3.toNat : Int), .int .u8 (x4.toNat : Int), .int .u8 (x5.toNat : Int), .int .u8 (x6.toNat : Int), .int .u8 (x7.toNat : Int)] 45)).alloc (.cells #[.int .u8 (y0.toNat : Int), .int .u8 (y1.toNat : Int), .int .u8 (y2.toNat : Int), .int .u8 (y3.toNat : Int), .int .u8 (y4.toNat : Int), .int .u8 (y5.toNat : Int), .int .u8 (y6.toNat : Int), .int .u8 (y7.toNat : Int)] 45))) := hB
 clear hB
 rw [show dV [x0, x1, x2, x3, x4, x5, x6, x7] = .agg #[.int .u8 (x0.toNat : Int), .int .u8 (x1.toNat : Int), .int .u8 (x2.toNat : Int), .int .u8 (x3.toNat : Int), .int .u8 (x4.toNat : Int), .int .u8 (x5.toNat : Int), .int .u8 (x6.toNat : Int), .int .u8 (x7.toNat : Int)] from rfl, show dV [y0, y1, y2, y3, y4, y5, y6, y7] = .agg #[.int .u8 (y0.toNat : Int), .int .u8 (y1.toNat : Int), .int .u8 (y2.toNat : Int), .int .u8 (y3.toNat : Int), .int .u8 (y4.toNat : Int), .int .u8 (y5.toNat : Int), .int .u8 (y6.toNat : Int), .int .u8 (y7.toNat : Int)] from rfl]
 go_enter Try.func74, Try.ntmps74
 go_wp2_with fail
 go_quiet (fail)
 go_wp2
 go_ret
 exact ⟨rfl, HB.out.trans ((bel_drewN _ nq).mono HB.out.size)⟩
end Go.Proofs.Ytekegfbjbainhaa
