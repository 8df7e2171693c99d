import Derived.Test.YtekegfbjbainhaaKJoin26
import Derived.Deep.DeepCutAuto
import Derived.Deep.CutBlock
import Derived.Laws.CopyRow
import Derived.Laws.MakeOwn
import Derived.Deep.WholeRow
import Derived.Deep.RegionHeld3
import Derived.Deep.RegionWith
import Derived.OpenShut
set_option linter.unusedVariables false
set_option linter.unusedSimpArgs false

namespace Go.Proofs.Ytekegfbjbainhaa
open Go.RowKit
attribute [local go_sem ↓] Go.wp_at_zero Go.wp_at_succ
def NoMet (ps : List (List UInt8)) (n : Nat) : Prop := ∀ i j (hi : i < ps.length) (hj : j < ps.length), i < j → j < n → digB ps[i] = digB ps[j] → ps[i] = ps[j]
theorem NoMet.met {A B : List (List UInt8)} (h : NoMet (A ++ B) (A ++ B).length) : ¬ Met A B := by
 rintro ⟨x, hx, y, hy, hne, hd⟩
 obtain ⟨i, hi, rfl⟩ := List.mem_iff_getElem.1 hx
 obtain ⟨j, hj, rfl⟩ := List.mem_iff_getElem.1 hy
 have h1 : (A ++ B)[i]'(by simp; omega) = A[i] := List.getElem_append_left hi
 have h2 : (A ++ B)[A.length + j]'(by simp; omega) = B[j] := by rw [List.getElem_append_right (by omega)]; simp
 have := h i (A.length + j) (by simp; omega) (by simp; omega) (by omega) (by simp; omega) (by rw [h1, h2]; exact hd)
 rw [h1, h2] at this
 exact hne this
def digsOf (ps : List (List UInt8)) : List (List UInt8) := ps.map digB
theorem digsOf_8 (ps : List (List UInt8)) : ∀ d ∈ digsOf ps, d.length = 8 := fun d hd => by
 obtain ⟨p, _, rfl⟩ := List.mem_map.1 hd
 exact digB_length p
theorem SlD.at {w : World} {a : Option Addr} {l : List (List UInt8)} (h : SlD w a l) (k : Nat) (hk : k < l.length) : ∃ b o, a = some ⟨b, o, none⟩ ∧ b < w.heap.size ∧ w.rangeAt b (o + k * 8) (l[k].map u8c) := by
 have hlen := digsC_length l h.2
 obtain ⟨b, o, ha, hb, _⟩ := h.1 (k * 8) (by omega)
 subst ha
 have hd := h.drop k (by omega)
 refine ⟨b, o, rfl, hb, fun j v hv => ?_⟩
 obtain ⟨hj, hv⟩ := List.getElem?_eq_some_iff.1 hv
 have h8 : l[k].length = 8 := h.2 _ (List.getElem_mem hk)
 have e : l.drop k = l[k] :: l.drop (k + 1) := List.drop_eq_getElem_cons hk
 rw [e] at hd
 have hj' : j < (digsC (l[k] :: l.drop (k + 1))).length := by
  rw [digsC_length _ hd.2]; simp at hj ⊢; omega
 obtain ⟨b', o', ha, hb', hc'⟩ := hd.1 j hj'
 cases ha
 rw [hc', ← hv]
 congr 1
 simp only [digsC, List.flatMap_cons]
 rw [List.getElem_append_left (by simpa using hj)]
set_option maxRecDepth 100000 in
set_option maxHeartbeats 4000000 in
theorem met_any (v : SlR) (ps : List (List UInt8)) (w : World) (h : SlV w v.a (ps.map strV)) (hn : v.n = ps.length) (hl : ps.length ≤ 11000000000000) (hp : ∀ p ∈ ps, p.length ≤ 1000000000) :
  Calls Try.prog 25 #[v.val] w fun e w' => (e = .returned (.bool true) ∨ e = .returned (.bool false) ∧ NoMet ps ps.length) ∧ Below w.heap.size w w' := by
 have HV : Hid (SlV w v.a (ps.map strV)) := h
 have HP : Hid (∀ p ∈ ps, p.length ≤ 1000000000) := hp
 have hlI : (ps.length : Int) ≤ 11000000000000 := by omega
 obtain ⟨va, vn, vc⟩ := v
 simp only at hn
 subst hn
 have HCE : Hid (∀ (k : Nat) (hk : k < ps.length), ∃ b o, va = some ⟨b, o, none⟩ ∧ ∀ W, Below w.heap.size w W → W.cell? ⟨b, o + k, none⟩ = some (.string ⟨ps[k].toArray⟩)) := fun k hk => by
  obtain ⟨b, o, e, hb, hc⟩ := HV.out k (by simpa using hk)
  refine ⟨b, o, e, fun W hW => (hW.cell (p := ⟨b, o + k, none⟩) hb).trans ?_⟩
  rw [hc]
  simp [strV]
 clear h hp
 unfold SlR.val
 go_enter Try.func25, Try.ntmps25
 go_wp2
 go_loopw [3, 4] (fun dv iv wr => ∃ (i : Nat) (u : SlR), i ≤ ps.length ∧ iv = .int .i64 (i : Int) ∧ dv = .slice u.a u.n u.cap ∧ Hid (wr.ownsRow w.heap.size 45 8 (.slice u.a u.n u.cap) (digsOf (ps.take i)).length (digsC (digsOf (ps.take i)))) ∧ Hid (NoMet ps i) ∧ Hid (Below w.heap.size w wr)) (fun _ iv _ => ps.length - (intOf iv).toNat)
 case atStart => exact ⟨0, ⟨none, 0, 0⟩, by omega, rfl, rfl, World.ownsRow_nil _ _ _ _, fun i j _ _ _ h => absurd h (Nat.not_lt_zero _), Below.refl _ _⟩
 case round =>
  obtain ⟨i, u, hi, rfl, rfl, HO, HNM, HB⟩ := hrel
  by_cases hlt : i < ps.length
  ·have hltI : (i : Int) < ps.length := by omega
   obtain ⟨b, o, hva, hcs⟩ := HCE.out i hlt
   subst hva
   have HCI : Hid (∀ W, Below w.heap.size w W → W.cell? ⟨b, o + i, none⟩ = some (.string ⟨ps[i].toArray⟩)) := hcs
   have c0 := hcs _ HB.out
   have HPL : Hid (ps[i].length ≤ 1000000000) := HP.out _ (List.getElem_mem hlt)
   obtain ⟨x0, x1, x2, x3, x4, x5, x6, x7, hxx⟩ := list8 (digB ps[i]) (digB_length _)
   have HDV : Hid (digV ps[i] = .agg #[.int .u8 (x0.toNat : Int), .int .u8 (x1.toNat : Int), .int .u8 (x2.toNat : Int), .int .u8 (x3.toNat : Int), .int .u8 (x4.toNat : Int), .int .u8 (x5.toNat : Int), .int .u8 (x6.toNat : Int), .int .u8 (x7.toNat : Int)]) := by unfold Hid; rw [digV_eq, hxx]; rfl
   have HXX : Hid (digB ps[i] = [x0, x1, x2, x3, x4, x5, x6, x7]) := hxx
   clear hcs hxx
   obtain ⟨pi, hpi⟩ : ∃ pi, pi = ps[i] := ⟨_, rfl⟩
   rw [← hpi] at c0 HDV HPL HCI HXX
   have HPI : Hid (pi = ps[i]) := hpi
   clear hpi
   go_wp2_with (first
    | (refine wp_toBytes (by rfl) (.tmp 16) (by rfl) pi (by rfl) ?_; intro s1 w3 hb3 hB3 hn3))
   refine (digest_any s1.a s1.n s1.cap pi w3 hb3.n (by have := HPL.out; unfold maxLen; omega) hb3.sl).mono ?_
   rintro r w4 ⟨rfl, hb4⟩
   rw [HDV.out]
   have HB4 : Hid (Below wr.heap.size wr w4) := hB3.trans (hb4.mono hB3.size)
   have HB5 : Hid (Below wr.heap.size wr (w4.alloc (.cells #[.int .u8 (x0.toNat : Int), .int .u8 (x1.toNat : Int), .int .u8 (x2.toNat : Int), .int .u8 (x3.toNat : Int), .int .u8 (x4.toNat : Int), .int .u8 (x5.toNat : Int), .int .u8 (x6.toNat : Int), .int .u8 (x7.toNat : Int)] 45))) := HB4.out.alloc HB4.out.size _
   have HR5 : Hid (RowV (w4.alloc (.cells #[.int .u8 (x0.toNat : Int), .int .u8 (x1.toNat : Int), .int .u8 (x2.toNat : Int), .int .u8 (x3.toNat : Int), .int .u8 (x4.toNat : Int), .int .u8 (x5.toNat : Int), .int .u8 (x6.toNat : Int), .int .u8 (x7.toNat : Int)] 45)) w4.heap.size 45 [.int .u8 (x0.toNat : Int), .int .u8 (x1.toNat : Int), .int .u8 (x2.toNat : Int), .int .u8 (x3.toNat : Int), .int .u8 (x4.toNat : Int), .int .u8 (x5.toNat : Int), .int .u8 (x6.toNat : Int), .int .u8 (x7.toNat : Int)]) := RowV.new w4 _ _
   clear hb3 hB3 hn3 hb4
   go_upto_block 2 with fail
   have HO5 : Hid ((w4.alloc (.cells #[.int .u8 (x0.toNat : Int), .int .u8 (x1.toNat : Int), .int .u8 (x2.toNat : Int), .int .u8 (x3.toNat : Int), .int .u8 (x4.toNat : Int), .int .u8 (x5.toNat : Int), .int .u8 (x6.toNat : Int), .int .u8 (x7.toNat : Int)] 45)).ownsRow w.heap.size 45 8 (.slice u.a u.n u.cap) (digsOf (ps.take i)).length (digsC (digsOf (ps.take i)))) := owns_below HO.out HB5.out
   have HB0 : Hid (Below w.heap.size w (w4.alloc (.cells #[.int .u8 (x0.toNat : Int), .int .u8 (x1.toNat : Int), .int .u8 (x2.toNat : Int), .int .u8 (x3.toNat : Int), .int .u8 (x4.toNat : Int), .int .u8 (x5.toNat : Int), .int .u8 (x6.toNat : Int), .int .u8 (x7.toNat : Int)] 45))) := HB.out.trans (HB5.out.mono HB.out.size)
   have HDL : Hid ((digsOf (ps.take i)).length = i) := by unfold Hid digsOf; simp; omega
   have hun : u.n = i := by rw [(SlV.ofOwn (s := u) HO.out).2]; exact HDL.out
   clear HB4 HB5 HO c0
   generalize w4.alloc (.cells #[.int .u8 (x0.toNat : Int), .int .u8 (x1.toNat : Int), .int .u8 (x2.toNat : Int), .int .u8 (x3.toNat : Int), .int .u8 (x4.toNat : Int), .int .u8 (x5.toNat : Int), .int .u8 (x6.toNat : Int), .int .u8 (x7.toNat : Int)] 45) = w5 at *
   generalize w4.heap.size = xb at *
   obtain ⟨ua, un, uc⟩ := u
   simp only at hun
   subst hun
   have hltI2 : (un : Int) ≤ 11000000000000 := by omega
   go_cut [] (fun wx => Hid (Below w5.heap.size w5 wx) ∧ Hid (∀ q (hq : q < ps.length), q < un → digB ps[q] = digB pi → ps[q] = pi))
   case first =>
    go_wp2_with fail
    go_loopw [6] (fun kv wx => ∃ k : Nat, k ≤ un ∧ kv = .int .i64 (k : Int) ∧ Hid (Below w5.heap.size w5 wx) ∧ Hid (∀ q (hq : q < ps.length), q < k → digB ps[q] = digB pi → ps[q] = pi)) (fun kv _ => un - (intOf kv).toNat)
    case atStart => exact ⟨0, Nat.zero_le _, rfl, Below.refl _ _, fun q _ h => absurd h (Nat.not_lt_zero _)⟩
    case round =>
     obtain ⟨k, hk, rfl, HBR, HNO⟩ := hrel
     by_cases hki : k < un
     ·have hkiI : (k : Int) < un := by omega
      have hkl : k < ps.length := by omega
      have HBM : Hid (Below w.heap.size w wr) := HB0.out.trans (HBR.out.mono HB0.out.size)
      have HSD : Hid (SlD wr ua (digsOf (ps.take un))) := ⟨(SlV.ofOwn (s := ⟨ua, un, uc⟩) (owns_below HO5.out HBR.out)).1, digsOf_8 _⟩
      obtain ⟨db, dof, hda, _, hrg⟩ := HSD.out.at k (by rw [HDL.out]; exact hki)
      subst hda
      have hdk : (digsOf (ps.take un))[k]'(by rw [HDL.out]; exact hki) = digB ps[k] := by unfold digsOf; simp
      rw [hdk] at hrg
      obtain ⟨y0, y1, y2, y3, y4, y5, y6, y7, hyy⟩ := list8 (digB ps[k]) (digB_length _)
      rw [hyy] at hrg
      have d0 : wr.cell? ⟨db, dof + k * 8, none⟩ = some (.int .u8 (y0.toNat : Int)) := hrg 0 _ rfl
      have d1 : wr.cell? ⟨db, dof + k * 8 + 1, none⟩ = some (.int .u8 (y1.toNat : Int)) := hrg 1 _ rfl
      have d2 : wr.cell? ⟨db, dof + k * 8 + 2, none⟩ = some (.int .u8 (y2.toNat : Int)) := hrg 2 _ rfl
      have d3 : wr.cell? ⟨db, dof + k * 8 + 3, none⟩ = some (.int .u8 (y3.toNat : Int)) := hrg 3 _ rfl
      have d4 : wr.cell? ⟨db, dof + k * 8 + 4, none⟩ = some (.int .u8 (y4.toNat : Int)) := hrg 4 _ rfl
      have d5 : wr.cell? ⟨db, dof + k * 8 + 5, none⟩ = some (.int .u8 (y5.toNat : Int)) := hrg 5 _ rfl
      have d6 : wr.cell? ⟨db, dof + k * 8 + 6, none⟩ = some (.int .u8 (y6.toNat : Int)) := hrg 6 _ rfl
      have d7 : wr.cell? ⟨db, dof + k * 8 + 7, none⟩ = some (.int .u8 (y7.toNat : Int)) := hrg 7 _ rfl
      have c0 : wr.cell? ⟨xb, 0, none⟩ = some (.int .u8 (x0.toNat : Int)) := (HBR.out.cell (p := ⟨xb, 0, none⟩) HR5.out.lt).trans (RowV.cell? HR5.out 0)
      have c1 : wr.cell? ⟨xb, 1, none⟩ = some (.int .u8 (x1.toNat : Int)) := (HBR.out.cell (p := ⟨xb, 1, none⟩) HR5.out.lt).trans (RowV.cell? HR5.out 1)
      have c2 : wr.cell? ⟨xb, 2, none⟩ = some (.int .u8 (x2.toNat : Int)) := (HBR.out.cell (p := ⟨xb, 2, none⟩) HR5.out.lt).trans (RowV.cell? HR5.out 2)
      have c3 : wr.cell? ⟨xb, 3, none⟩ = some (.int .u8 (x3.toNat : Int)) := (HBR.out.cell (p := ⟨xb, 3, none⟩) HR5.out.lt).trans (RowV.cell? HR5.out 3)
      have c4 : wr.cell? ⟨xb, 4, none⟩ = some (.int .u8 (x4.toNat : Int)) := (HBR.out.cell (p := ⟨xb, 4, none⟩) HR5.out.lt).trans (RowV.cell? HR5.out 4)
      have c5 : wr.cell? ⟨xb, 5, none⟩ = some (.int .u8 (x5.toNat : Int)) := (HBR.out.cell (p := ⟨xb, 5, none⟩) HR5.out.lt).trans (RowV.cell? HR5.out 5)
      have c6 : wr.cell? ⟨xb, 6, none⟩ = some (.int .u8 (x6.toNat : Int)) := (HBR.out.cell (p := ⟨xb, 6, none⟩) HR5.out.lt).trans (RowV.cell? HR5.out 6)
      have c7 : wr.cell? ⟨xb, 7, none⟩ = some (.int .u8 (x7.toNat : Int)) := (HBR.out.cell (p := ⟨xb, 7, none⟩) HR5.out.lt).trans (RowV.cell? HR5.out 7)
      obtain ⟨b', o', hbo, hck⟩ := HCE.out k hkl
      cases hbo
      have s1 := hck _ HBM.out
      have s2 := HCI.out _ HBM.out
      obtain ⟨eqv, heqv⟩ : ∃ eqv, eqv = (digB ps[k] == digB pi) := ⟨_, rfl⟩
      have HEQV : Hid (eqv = (digB ps[k] == digB pi)) := heqv
      have heq : ∀ W, (Op.equalIn 10000 45 (Value.agg #[.int .u8 (y0.toNat : Int), .int .u8 (y1.toNat : Int), .int .u8 (y2.toNat : Int), .int .u8 (y3.toNat : Int), .int .u8 (y4.toNat : Int), .int .u8 (y5.toNat : Int), .int .u8 (y6.toNat : Int), .int .u8 (y7.toNat : Int)]) (Value.agg #[.int .u8 (x0.toNat : Int), .int .u8 (x1.toNat : Int), .int .u8 (x2.toNat : Int), .int .u8 (x3.toNat : Int), .int .u8 (x4.toNat : Int), .int .u8 (x5.toNat : Int), .int .u8 (x6.toNat : Int), .int .u8 (x7.toNat : Int)])).run Try.prog W = .ok eqv W := fun W => by
       have h := run_equalIn_bytes (P := Try.prog) W 9998 45 5 8 Try.underlying45 Try.underlying5 Try.sizeU8 (digB ps[k]) (digB pi) (digB_length _) (digB_length _)
       rw [← heqv, hyy, HXX.out] at h
       exact h
      have HNK : Hid (∀ q (hq : q < ps.length), q < k + 1 → (q = k → digB ps[k] = digB pi → ps[k] = pi) → digB ps[q] = digB pi → ps[q] = pi) := fun q hq h1 h2 h3 => by
       by_cases e : q = k
       ·subst e; exact h2 rfl h3
       ·exact HNO.out q hq (by omega) h3
      clear hrg hyy heqv hdk hck
      generalize ps[k] = pk at *
      cases eqv with
      | false =>
       go_wp2_with fail
       go_quiet (fail)
       go_wp2
       refine ⟨⟨k + 1, by omega, by go_num, HBR.out.trans ((bel_drewN wr nq).mono HBR.out.size), fun q hq h1 => HNK.out q hq h1 (fun _ e => ?_)⟩, by simp [intOf]; omega⟩
       have h := HEQV.out
       rw [e] at h
       simp at h
      | true =>
       by_cases hpp : pk = pi
       ·have hbb : (pk == pi) = true := by simpa using hpp
        have HPP : Hid (pk = pi) := hpp
        clear hpp
        go_wp2_with fail
        go_quiet (fail)
        go_wp2
        refine ⟨⟨k + 1, by omega, by go_num, HBR.out.trans ((bel_drewN wr nq).mono HBR.out.size), fun q hq h1 => HNK.out q hq h1 (fun _ _ => HPP.out)⟩, by simp [intOf]; omega⟩
       ·have hbb : (pk == pi) = false := by simpa using hpp
        clear hpp
        go_wp2_with fail
        go_quiet (fail)
        go_wp2
        go_ret
        exact ⟨Or.inl rfl, HBM.out.trans ((bel_drewN wr nq).mono HBM.out.size)⟩
     ·have hkiI : ¬ (k : Int) < un := by omega
      obtain rfl : k = un := by omega
      go_wp2
      go_meet
      exact ⟨HBR, HNO⟩
   case rest =>
    obtain ⟨HBR, HNO⟩ := hcut
    have HR6 : Hid (RowV wc xb 45 [.int .u8 (x0.toNat : Int), .int .u8 (x1.toNat : Int), .int .u8 (x2.toNat : Int), .int .u8 (x3.toNat : Int), .int .u8 (x4.toNat : Int), .int .u8 (x5.toNat : Int), .int .u8 (x6.toNat : Int), .int .u8 (x7.toNat : Int)]) := RowV.below HR5.out HR5.out.lt HBR.out
    have HO6 : Hid (wc.ownsRow w.heap.size 45 8 (.slice ua un uc) (digsOf (ps.take un)).length (digsC (digsOf (ps.take un)))) := owns_below HO5.out HBR.out
    have HB6 : Hid (Below w.heap.size w wc) := HB0.out.trans (HBR.out.mono HB0.out.size)
    generalize wc = w6 at *
    have c0 : w6.cell? ⟨xb, 0, none⟩ = some (.int .u8 (x0.toNat : Int)) := RowV.cell? HR6.out 0
    have c1 : w6.cell? ⟨xb, 1, none⟩ = some (.int .u8 (x1.toNat : Int)) := RowV.cell? HR6.out 1
    have c2 : w6.cell? ⟨xb, 2, none⟩ = some (.int .u8 (x2.toNat : Int)) := RowV.cell? HR6.out 2
    have c3 : w6.cell? ⟨xb, 3, none⟩ = some (.int .u8 (x3.toNat : Int)) := RowV.cell? HR6.out 3
    have c4 : w6.cell? ⟨xb, 4, none⟩ = some (.int .u8 (x4.toNat : Int)) := RowV.cell? HR6.out 4
    have c5 : w6.cell? ⟨xb, 5, none⟩ = some (.int .u8 (x5.toNat : Int)) := RowV.cell? HR6.out 5
    have c6 : w6.cell? ⟨xb, 6, none⟩ = some (.int .u8 (x6.toNat : Int)) := RowV.cell? HR6.out 6
    have c7 : w6.cell? ⟨xb, 7, none⟩ = some (.int .u8 (x7.toNat : Int)) := RowV.cell? HR6.out 7
    have HOX : Hid ((w6.alloc (.cells #[.int .u8 (x0.toNat : Int), .int .u8 (x1.toNat : Int), .int .u8 (x2.toNat : Int), .int .u8 (x3.toNat : Int), .int .u8 (x4.toNat : Int), .int .u8 (x5.toNat : Int), .int .u8 (x6.toNat : Int), .int .u8 (x7.toNat : Int)] 45)).ownsRow w.heap.size 45 8 (.slice ua un uc) (digsOf (ps.take un)).length (digsC (digsOf (ps.take un)))) := HO6.out.alloc _
    have HSX : Hid (SlV (w6.alloc (.cells #[.int .u8 (x0.toNat : Int), .int .u8 (x1.toNat : Int), .int .u8 (x2.toNat : Int), .int .u8 (x3.toNat : Int), .int .u8 (x4.toNat : Int), .int .u8 (x5.toNat : Int), .int .u8 (x6.toNat : Int), .int .u8 (x7.toNat : Int)] 45)) (some ⟨w6.heap.size, 0, none⟩) [.int .u8 (x0.toNat : Int), .int .u8 (x1.toNat : Int), .int .u8 (x2.toNat : Int), .int .u8 (x3.toNat : Int), .int .u8 (x4.toNat : Int), .int .u8 (x5.toNat : Int), .int .u8 (x6.toNat : Int), .int .u8 (x7.toNat : Int)]) := SlV.alloc_new w6 _ _
    have H1X : Hid (∀ u ∈ ([.int .u8 (x0.toNat : Int), .int .u8 (x1.toNat : Int), .int .u8 (x2.toNat : Int), .int .u8 (x3.toNat : Int), .int .u8 (x4.toNat : Int), .int .u8 (x5.toNat : Int), .int .u8 (x6.toNat : Int), .int .u8 (x7.toNat : Int)] : List Value), u.oneCell' = true) := digsC_one [[x0, x1, x2, x3, x4, x5, x6, x7]]
    have HBW : Hid (Below w.heap.size w (w6.alloc (.cells #[.int .u8 (x0.toNat : Int), .int .u8 (x1.toNat : Int), .int .u8 (x2.toNat : Int), .int .u8 (x3.toNat : Int), .int .u8 (x4.toNat : Int), .int .u8 (x5.toNat : Int), .int .u8 (x6.toNat : Int), .int .u8 (x7.toNat : Int)] 45))) := HB6.out.alloc HB6.out.size _
    have HSZ : Hid (w.heap.size ≤ (w6.alloc (.cells #[.int .u8 (x0.toNat : Int), .int .u8 (x1.toNat : Int), .int .u8 (x2.toNat : Int), .int .u8 (x3.toNat : Int), .int .u8 (x4.toNat : Int), .int .u8 (x5.toNat : Int), .int .u8 (x6.toNat : Int), .int .u8 (x7.toNat : Int)] 45)).heap.size) := HBW.out.size
    go_wp2_with (at_builtin; refine wp_appendV (by rfl) (.tmp 41) (.tmp 43) 73 (by rfl) w.heap.size 45 _ 8 8 Try.underlying73 Try.infoDigs rfl (by decide) (.slice ua un uc) (digsOf (ps.take un)).length (digsC (digsOf (ps.take un))) (by rfl) HOX.out (some ⟨w6.heap.size, 0, none⟩) 1 1 [.int .u8 (x0.toNat : Int), .int .u8 (x1.toNat : Int), .int .u8 (x2.toNat : Int), .int .u8 (x3.toNat : Int), .int .u8 (x4.toNat : Int), .int .u8 (x5.toNat : Int), .int .u8 (x6.toNat : Int), .int .u8 (x7.toNat : Int)] (by rfl) rfl HSX.out (fun h => by cases h) H1X.out (by have := HDL.out; unfold maxLen; omega) (by have := HDL.out; omega) HSZ.out ?_; intro v3 w7 ho7 hf7 hat7; obtain ⟨a7, c7, hv7, _⟩ := owns_form ho7; subst hv7; obtain ⟨n7, hn7⟩ : ∃ n7, n7 = (digsOf (ps.take un)).length + 1 := ⟨_, rfl⟩; rw [← hn7] at ho7 ⊢; have HN7 : Hid (n7 = (digsOf (ps.take un)).length + 1) := hn7; have HO7 : Hid (w7.ownsRow w.heap.size 45 8 (.slice a7 n7 c7) n7 (digsC (digsOf (ps.take un)) ++ [.int .u8 (x0.toNat : Int), .int .u8 (x1.toNat : Int), .int .u8 (x2.toNat : Int), .int .u8 (x3.toNat : Int), .int .u8 (x4.toNat : Int), .int .u8 (x5.toNat : Int), .int .u8 (x6.toNat : Int), .int .u8 (x7.toNat : Int)])) := ho7; have HF7 : Hid (Below w.heap.size w w7) := HBW.out.trans (hf7.below HBW.out.size (fun q hq => (HOX.out.lt q hq).1)); clear ho7 hf7 hat7 hn7)
    refine ⟨⟨un + 1, ⟨a7, n7, c7⟩, by omega, by go_num, rfl, ?_, ?_, HF7⟩, by simp [intOf]; omega⟩
    ·have e1 : digsOf (ps.take (un + 1)) = digsOf (ps.take un) ++ [digB pi] := by unfold digsOf; rw [List.take_succ_eq_append_getElem hlt, List.map_append, HPI.out]; rfl
     have e2 : digsC (digsOf (ps.take un) ++ [digB pi]) = digsC (digsOf (ps.take un)) ++ [.int .u8 (x0.toNat : Int), .int .u8 (x1.toNat : Int), .int .u8 (x2.toNat : Int), .int .u8 (x3.toNat : Int), .int .u8 (x4.toNat : Int), .int .u8 (x5.toNat : Int), .int .u8 (x6.toNat : Int), .int .u8 (x7.toNat : Int)] := by rw [HXX.out]; simp [digsC, u8c]
     have h := HO7.out
     unfold Hid
     rw [e1, e2, List.length_append, List.length_singleton, ← HN7.out]
     exact h
    ·intro p q hp hq hpq hqu hd
     by_cases e : q = un
     ·subst e
      have h := HNO.out p hp hpq (by rw [HPI.out]; exact hd)
      rw [h, HPI.out]
     ·exact HNM.out p q hp hq hpq (by omega) hd
  ·have hltI : ¬ (i : Int) < ps.length := by omega
   obtain rfl : i = ps.length := by omega
   go_wp2
   go_ret
   exact ⟨Or.inr ⟨rfl, HNM.out⟩, HB.out⟩
end Go.Proofs.Ytekegfbjbainhaa


namespace Go.Proofs.Ytekegfbjbainhaa
open Go.RowKit
end Go.Proofs.Ytekegfbjbainhaa


namespace Go.Proofs.Ytekegfbjbainhaa
open Go.RowKit
end Go.Proofs.Ytekegfbjbainhaa


namespace Go.Proofs.Ytekegfbjbainhaa
open Go.RowKit
theorem run_copy_rows {P : Program} (sz : Nat) (w : World) (dT sT ty elem : TypeId) (g o dLen dCap : Nat) (a : Addr) (sLen sCap : Nat) (cur : Array Value) (t : TypeId) (cs : List Value)
  (hu : P.underlying dT = some (.slice elem)) (hs : (P.info? elem).map (·.size) = some sz) (hg : w.heap[g]? = some (.cells cur t (0, 0))) (hn : cs.length = Nat.min sLen dLen * sz)
  (hsrc : ∀ j v, cs[j]? = some v → w.cell? (a.add j) = some v) (hfit : o + cs.length ≤ cur.size) (h1 : ∀ v ∈ cs, v.oneCell' = true) :
  (Builtin.copy_ #[dT, sT] ty #[.slice (some ⟨g, o, none⟩) dLen dCap, .slice (some a) sLen sCap]).run P w = .ok (goInt (Nat.min sLen dLen)) (w.setRow g (cur.toList.take o ++ cs ++ cur.toList.drop (o + cs.length)).toArray) := by
 have hl := run_loadCells_list (P := P) w a cs hsrc
 have hst := run_storeCells_at P g o t cs 0 cur w hg (by simpa using hfit) h1
 cases hq : P.info? elem with
 | none => simp [hq] at hs
 | some i =>
  have hi : i.size = sz := by simpa [hq] using hs
  simp [Builtin.copy_, run_underlying hu, Builtin.lenOf, Builtin.firstCells, sizeOf, typeInfo, hq, hi, ← hn, hl, hst]
end Go.Proofs.Ytekegfbjbainhaa


namespace Go.Proofs.Ytekegfbjbainhaa
open Go.RowKit
attribute [local go_sem ↓] Go.wp_at_zero Go.wp_at_succ
def sumP (ps : List (List UInt8)) : Nat := (ps.map (fun p => p.length + 2)).sum
theorem sumP_take (ps : List (List UInt8)) (k : Nat) (hk : k < ps.length) : sumP (ps.take (k + 1)) = sumP (ps.take k) + (ps[k].length + 2) := by
 unfold sumP
 rw [List.take_succ_eq_append_getElem hk, List.map_append, List.sum_append]
 simp
theorem sumP_le (ps : List (List UInt8)) (k : Nat) : sumP (ps.take k) ≤ sumP ps := by
 unfold sumP
 conv => rhs; rw [← List.take_append_drop k ps, List.map_append, List.sum_append]
 omega
theorem sumP_len (ps : List (List UInt8)) : ps.length * 2 ≤ sumP ps := by
 unfold sumP
 induction ps with
 | nil => simp
 | cons p r ih => simp only [List.map_cons, List.sum_cons, List.length_cons]; omega
theorem pagesN_sum : ∀ (n : Nat) (l : List UInt8), l.length ≤ n → sumP (pagesN l) ≤ l.length ∧ ∀ x ∈ pagesN l, x.length ≤ 65535
 | n, [], _ => by rw [pagesN_short (by simp)]; exact ⟨by simp [sumP], fun x hx => by cases hx⟩
 | n, [x], _ => by rw [pagesN_short (by simp)]; exact ⟨by simp [sumP], fun x hx => by cases hx⟩
 | 0, x :: y :: t, h => by simp at h
 | n + 1, x :: y :: t, h => by
  rw [pagesN_cons]
  have hx := x.toNat_lt
  have hy := y.toNat_lt
  split
  ·rename_i hq
   obtain ⟨h1, h2⟩ := pagesN_sum n (t.drop (256 * x.toNat + y.toNat)) (by simp at h ⊢; omega)
   constructor
   ·unfold sumP at h1 ⊢
    simp only [List.map_cons, List.sum_cons, List.length_take, List.length_drop, List.length_cons] at h1 ⊢
    omega
   ·intro z hz
    rcases List.mem_cons.1 hz with rfl | hz
    ·rw [List.length_take]; omega
    ·exact h2 z hz
  ·exact ⟨by simp [sumP], fun x hx => by cases hx⟩
structure TurnR where
 kind : Int
 place : Int
 dif : Int
def I64 (x : Int) : Prop := -9223372036854775808 ≤ x ∧ x ≤ 9223372036854775807
def TurnsAt (w : World) (a : Option Addr) (n : Nat) (f : Nat → TurnR) : Prop := ∀ i, i < n → ∃ b o, a = some ⟨b, o, none⟩ ∧ b < w.heap.size ∧ w.rangeAt b (o + i * 3) [.int .i64 (f i).kind, .int .i64 (f i).place, .int .i64 (f i).dif] ∧ I64 (f i).kind ∧ I64 (f i).place ∧ I64 (f i).dif
theorem Try.infoU81 : (Try.prog.info? 5).map (fun i => (i.zero, i.size, i.bytes)) = some (some (.int .u8 0), 1, 1) := by kernel_rfl
theorem Try.sizeU81 : (Try.prog.info? 5).map (·.size) = some 1 := by kernel_rfl
theorem bytes_make (n : Nat) (hn : n ≤ 1000000000) : ∃ Z : Array Value, Z.size = n ∧ ∀ u : World, (Instr.makeSlice 35 (.int .i64 (n : Int)) (.int .i64 (n : Int))).run Try.prog u = .ok (.slice (some ⟨u.heap.size, 0, none⟩) n n) (u.alloc (.cells Z 5)) := by
 obtain ⟨i, hq, h1, h2, h3⟩ := info_parts Try.infoU81
 refine ⟨madeCells (Value.int .u8 0).cells (n * 1), by rw [size_madeCells, Nat.mul_one], fun u => ?_⟩
 have h := run_make (P := Try.prog) u 35 5 i _ Try.underlying35 hq h1 .i64 .i64 (n : Int) (n : Int) (by omega) (Int.le_refl _) (by rw [h3]; omega) (by omega)
 rw [h2, Int.toNat_natCast] at h
 exact h
theorem bytes_copy (w : World) (sp : SlR) (p : List UInt8) (Z : Array Value) (hZ : Z.size = p.length) (h : BS w sp p) :
  (Builtin.copy_ #[35, 35] 3 #[.slice (some ⟨w.heap.size, 0, none⟩) p.length p.length, .slice sp.a p.length sp.cap]).run Try.prog (w.alloc (.cells Z 5)) = .ok (goInt p.length) (w.alloc (.cells (p.map u8c).toArray 5)) := by
 obtain ⟨sa, sn, sc⟩ := sp
 have hsl := h.sl.toV
 simp only at hsl ⊢
 have hl : (p.map u8c).length = p.length := List.length_map _
 cases sa with
 | none =>
  have he : p = [] := by
   cases p with
   | nil => rfl
   | cons e r => obtain ⟨b, o, e', _⟩ := hsl 0 (by simp); cases e'
  subst he
  have hz : Z = #[] := Array.eq_empty_of_size_eq_zero (by simpa using hZ)
  subst hz
  have hs := Try.sizeU81
  cases hq : Try.prog.info? 5 with
  | none => simp [hq] at hs
  | some i => simp [Builtin.copy_, run_underlying Try.underlying35, Builtin.lenOf, Builtin.firstCells, sizeOf, typeInfo, hq, storeCells]
 | some ad =>
  have hmin : Nat.min p.length p.length = p.length := Nat.min_self _
  have hg : (w.alloc (.cells Z 5)).heap[w.heap.size]? = some (.cells Z 5 (0, 0)) := by
   show (w.heap.push _)[w.heap.size]? = _
   simp
  have hr := run_copy_rows (P := Try.prog) 1 (w.alloc (.cells Z 5)) 35 35 3 5 w.heap.size 0 p.length p.length ad p.length sc Z 5 (p.map u8c) Try.underlying35 Try.sizeU81 hg (by rw [hmin, hl, Nat.mul_one]) (fun j v hv => by
   obtain ⟨hj, hv⟩ := List.getElem?_eq_some_iff.1 hv
   obtain ⟨b', o', ha, hb', hc⟩ := hsl j hj
   cases ha
   rw [addr_add, World.cell?_alloc_lt _ _ _ (by exact hb'), hc, hv]) (by rw [hl]; omega) (u8c_one p)
  rw [hmin, World.setRow_alloc_new] at hr
  rw [List.take_zero, List.nil_append, Nat.zero_add, List.drop_of_length_le (by rw [hl, Array.length_toList, hZ]; omega), List.append_nil] at hr
  exact hr
theorem wrap8_two (x y : Int) : ∃ z1 z2 : UInt8, IntKind.u8.wrap x = (z1.toNat : Int) ∧ IntKind.u8.wrap y = (z2.toNat : Int) := by
 have key : ∀ x : Int, ∃ z : UInt8, IntKind.u8.wrap x = (z.toNat : Int) := fun x => by
  have e : IntKind.u8.wrap x = x % 256 := by simp [IntKind.wrap, IntKind.signed, IntKind.bits]
  exact ⟨UInt8.ofNat (x % 256).toNat, by rw [e, UInt8.toNat_ofNat']; omega⟩
 obtain ⟨z1, h1⟩ := key x
 obtain ⟨z2, h2⟩ := key y
 exact ⟨z1, z2, h1, h2⟩
theorem bits8 (op : BinOp) (x y : Int) : ∃ z : UInt8, bits op .u8 x y = (z.toNat : Int) := by
 have h := wf_bits op .u8 x y
 simp only [Lit.wf, Bool.and_eq_true, decide_eq_true_eq] at h
 have e1 : IntKind.u8.min = 0 := by decide
 have e2 : IntKind.u8.max = 255 := by decide
 rw [e1, e2] at h
 exact ⟨UInt8.ofNat (bits op .u8 x y).toNat, by rw [UInt8.toNat_ofNat']; omega⟩
theorem OwnB.set {w : World} {base g c n : Nat} {b : List UInt8} (h : OwnB w base (.slice (some ⟨g, 0, none⟩) b.length c) b) (z : UInt8) : OwnB (w.setCell ⟨g, n, none⟩ (.int .u8 (z.toNat : Int))) base (.slice (some ⟨g, 0, none⟩) b.length c) (b.set n z) := by
 have hs := (World.ownsRow.stored h n (.int .u8 (z.toNat : Int))).1
 unfold OwnB
 rw [List.map_set, List.length_set]
 exact hs
theorem OwnB.nil (w : World) (base : Nat) : OwnB w base (.slice none 0 0) [] := World.ownsRow_nil _ _ _ _
def BentSt (w : World) (lp lq i : Nat) (v : SlR) (b : List UInt8) (wr : World) : Prop := OwnB wr w.heap.size v.val b ∧ b.length ≤ lp + i * (lq + 70000) ∧ Below w.heap.size w wr
theorem BentSt.next {w wr w3 W : World} {lp lq i : Nat} {v v' : SlR} {b b' : List UInt8} (h : BentSt w lp lq i v b wr) (h3 : Below w.heap.size w w3) (ho : OwnB W w3.heap.size v'.val b') (hB : Below w3.heap.size w3 W) (hl : b'.length ≤ b.length + lq + 70000) : BentSt w lp lq (i + 1) v' b' W := by
 refine ⟨owns_base ho (fun k hk => Nat.le_trans h3.size (World.ownsRow.lt ho k hk).1), ?_, h3.trans (hB.mono h3.size)⟩
 have h1 := h.2.1
 have h2 : (i + 1) * (lq + 70000) = i * (lq + 70000) + (lq + 70000) := Nat.succ_mul _ _
 omega
theorem own_grown {w3 W W' : World} {v : Value} {l : List UInt8} (h3 : Below w3.heap.size w3 W) (ho : OwnB W w3.heap.size v l) (hf : Frame (fun k => v.ownBlock = some k) W W') : Below w3.heap.size w3 W' := h3.trans (hf.below h3.size (fun k hk => (World.ownsRow.lt ho k hk).1))
end Go.Proofs.Ytekegfbjbainhaa
