import Derived.Test.YtekegfbjbainhaaKJoin24
import Derived.Deep.DeepCutAuto
import Derived.Test.YtekegfbjbainhaaKJoin18
import Derived.Test.YtekegfbjbainhaaKJoin13
import Derived.ProofKit
import Derived.SizedLaws
import Derived.OpenShut
import Derived.Carry
import Derived.ChangeMaps5
import Derived.Deep.Slices
import Derived.Test.YtekegfbjbainhaaKJoin21
set_option linter.unusedVariables false
set_option linter.unusedSimpArgs false

namespace Go.Proofs.Ytekegfbjbainhaa
open Go.RowKit
attribute [local go_sem ↓] Go.wp_at_zero Go.wp_at_succ
theorem frame_use {F : List Value} {G : (Nat → Value) → Array Value} {c : Code} {Q : Exit → Act → World → Prop} {w : World} (e : F.toArray = G (fun i => F.getD i undef)) (h : ∀ u, Code.wp Try.prog c Q ⟨G u, []⟩ w) : Code.wp Try.prog c Q ⟨F.toArray, []⟩ w := by
 rw [e]
 exact h _
set_option maxRecDepth 100000 in
set_option maxHeartbeats 8000000 in
theorem grown_any (a : Option Addr) (n0 cap : Nat) (f : Nat → ActR) (old size ep : Int) (pa : Option Addr) (pn0 pc : Nat) (place dif : Int) (w : World) (hs : ActsAt w a n0 f) (hn : n0 ≤ 9223372036854775807) (hold : I64 old) (hsize : I64 size) (hep : I64 ep) (hpl : I64 place) (hdf : I64 dif) (hpt : PathsAt w pa pn0) (hpn0 : pn0 ≤ 9223372036854775807) :
  Calls Try.prog 7 #[.slice a n0 cap, .int .i64 old, .int .i64 size, .int .i64 ep, .slice pa pn0 pc, .int .i64 place, .int .i64 dif] w fun e w' => e = .returned (.bool true) ∧ Below w.heap.size w w' := by
 have HHA : Hid (Calls _ _ _ _ _) := house_any a n0 cap f w hs hn
 have HPT : Hid (PathsAt w pa pn0 ∧ pn0 ≤ 9223372036854775807) := ⟨hpt, hpn0⟩
 clear hs hn hpt hpn0
 go_enter Try.func7, Try.ntmps7
 go_wp2_with fail
 refine HHA.out.mono ?_
 rintro r w1 ⟨d, rfl, H1, h1⟩
 obtain ⟨M, hM⟩ : ∃ M, d.tds.length = M + 1 := ⟨d.tds.length - 1, by omega⟩
 have hM40 : M ≤ 39 := by have := H1.at_.t40; omega
 have hM40I : (M : Int) ≤ 39 := by omega
 obtain ⟨g, hg, c0, c3, hcs⟩ := hou_commits H1 h1
 rw [hM] at c3
 have hhb : d.hb < w1.heap.size := H1.at_.row.lt
 obtain ⟨rl, hrl⟩ : ∃ rl, rl = d.tds.map rootOf := ⟨_, rfl⟩
 have HRL8 : Hid (∀ r ∈ rl, r.length = 8) := fun r hr => by
  rw [hrl] at hr
  obtain ⟨nd, _, rfl⟩ := List.mem_map.1 hr
  exact rootOf_length nd
 have hrlM : rl.length = M + 1 := by rw [hrl]; simpa using hM
 have HCE : Hid (∀ W, Below w1.heap.size w1 W → W.cell? ⟨d.hb, 0, none⟩ = some (.pointer (some ⟨d.sb, 0, none⟩)) ∧ W.cell? ⟨d.hb, 3, none⟩ = some (.slice (some ⟨g, 0, none⟩) (M + 1) d.dn.cap)) := fun W hW => ⟨(hW.cell (p := ⟨d.hb, 0, none⟩) hhb).trans c0, (hW.cell (p := ⟨d.hb, 3, none⟩) hhb).trans c3⟩
 have HCM : Hid (∀ (W : World) (k j : Nat) (hk : k < rl.length), Below w1.heap.size w1 W → j < 18 → W.cell? ⟨g, k * 18 + j, none⟩ = (commitC k rl[k] (k + 1) (sumF 42 (rl.take (k + 1))))[j]?) := fun W k j hk hW hj => by
  subst hrl
  rw [hW.cell (p := ⟨g, k * 18 + j, none⟩) hg]
  exact hcs k j (by simpa using hk) hj
 have HINC : Hid (∀ W (e n : Int), Below w1.heap.size w1 W → Calls Try.prog 26 #[.pointer (some ⟨d.sb, 0, none⟩), .int .i64 e, .int .i64 n] W (logPost W (incS rl e n))) := fun W e n hW => by rw [hrl]; exact hou_included (H1.below hW) e n
 have HEXT : Hid (∀ W (e n : Int), Below w1.heap.size w1 W → Calls Try.prog 27 #[.pointer (some ⟨d.sb, 0, none⟩), .int .i64 e, .int .i64 n] W (logPost W (extS rl e n))) := fun W e n hW => by rw [hrl]; exact hou_extended (H1.below hW) e n
 have HH1 : Hid (Below w.heap.size w w1) := H1.bel
 have HGL : Hid (g < w1.heap.size ∧ d.hb < w1.heap.size) := ⟨hg, hhb⟩
 clear hcs hrl H1 h1 hM hhb hg c0
 generalize d.hb = hb at *
 generalize d.sb = sb at *
 go_wp2_with fail
 refine (pick_x size _ (M + 1) w1 (by omega) hsize (by omega) (by unfold maxLen; omega)).mono ?_
 rintro r w2 ⟨rfl, hw2⟩
 obtain rfl : w1 = w2 := hw2.symm
 clear hw2
 have hpn : pickN size (M + 1) ≤ M := by have := pickN_lt size (M + 1) (by omega); omega
 generalize pickN size (M + 1) = pn at *
 have hpnI : (pn : Int) ≤ M := by omega
 go_wp2_with fail
 refine (pick_x old _ (pn + 1) w1 (by omega) hold (by omega) (by unfold maxLen; omega)).mono ?_
 rintro r w2 ⟨rfl, hw2⟩
 obtain rfl : w1 = w2 := hw2.symm
 clear hw2
 have hpm : pickN old (pn + 1) ≤ pn := by have := pickN_lt old (pn + 1) (by omega); omega
 generalize pickN old (pn + 1) = pm at *
 have hpmI : (pm : Int) ≤ pn := by omega
 go_wp2_with fail
 refine (pick_x ep _ (pm + 1) w1 (by omega) hep (by omega) (by unfold maxLen; omega)).mono ?_
 rintro r w2 ⟨rfl, hw2⟩
 obtain rfl : w1 = w2 := hw2.symm
 clear hw2
 have hem : pickN ep (pm + 1) ≤ pm := by have := pickN_lt ep (pm + 1) (by omega); omega
 generalize pickN ep (pm + 1) = e at *
 have hemI : (e : Int) ≤ pm := by omega
 clear c3
 have HIA : Hid (∀ W, Below w1.heap.size w1 W → Calls Try.prog 26 #[.pointer (some ⟨sb, 0, none⟩), .int .i64 (e : Int), .int .i64 (1 + (pn : Int))] W (logPost W (pathF 42 e (rl.take (pn + 1)), 0))) := fun W hW => by
  have h := HINC.out W e (1 + pn) hW
  rw [incS_ok (n := pn + 1) (by omega) (by omega) (by omega)] at h
  exact h
 have HIB : Hid (∀ W, Below w1.heap.size w1 W → Calls Try.prog 26 #[.pointer (some ⟨sb, 0, none⟩), .int .i64 (e : Int), .int .i64 (1 + (pm : Int))] W (logPost W (pathF 42 e (rl.take (pm + 1)), 0))) := fun W hW => by
  have h := HINC.out W e (1 + pm) hW
  rw [incS_ok (n := pm + 1) (by omega) (by omega) (by omega)] at h
  exact h
 have HEC : Hid (∀ W, Below w1.heap.size w1 W → Calls Try.prog 27 #[.pointer (some ⟨sb, 0, none⟩), .int .i64 (1 + (pm : Int)), .int .i64 (1 + (pn : Int))] W (logPost W (extL 42 (pm + 1) (rl.take (pn + 1)) true, 0))) := fun W hW => by
  have h := HEXT.out W (1 + pm) (1 + pn) hW
  rw [extS_ok (m := pm + 1) (n := pn + 1) (by omega) (by omega) (by omega) (by omega) (by omega)] at h
  exact h
 have HEZ : Hid (∀ W, Below w1.heap.size w1 W → Calls Try.prog 27 #[.pointer (some ⟨sb, 0, none⟩), .int .i64 0, .int .i64 (1 + (pn : Int))] W (logPost W ([], 0))) := fun W hW => by
  have h := HEXT.out W 0 (1 + pn) hW
  rw [extS_zero (n := pn + 1) (by omega) (by omega)] at h
  exact h
 have HA8 : Hid ((∀ x ∈ pathF 42 e (rl.take (pn + 1)), x.length = 8) ∧ (∀ x ∈ pathF 42 e (rl.take (pm + 1)), x.length = 8) ∧ (∀ x ∈ extL 42 (pm + 1) (rl.take (pn + 1)) true, x.length = 8)) := by
  have h1 := (incS_8 rl e (1 + pn)).1
  have h2 := (incS_8 rl e (1 + pm)).1
  have h3 := (extS_8 rl (1 + pm) (1 + pn)).1
  rw [incS_ok (n := pn + 1) (by omega) (by omega) (by omega)] at h1
  rw [incS_ok (n := pm + 1) (by omega) (by omega) (by omega)] at h2
  rw [extS_ok (m := pm + 1) (n := pn + 1) (by omega) (by omega) (by omega) (by omega) (by omega)] at h3
  exact ⟨h1, h2, h3⟩
 have HTL : Hid ((rl.take (pn + 1)).length = pn + 1 ∧ (rl.take (pm + 1)).length = pm + 1 ∧ (rl.take (pn + 1)).take (pm + 1) = rl.take (pm + 1)) := by
  refine ⟨by rw [List.length_take]; omega, by rw [List.length_take]; omega, ?_⟩
  rw [List.take_take]; congr 1; omega
 have hel : e < rl.length := by omega
 have HOWNA : Hid (inclF ((pn : Int) + 1) (e : Int) (sumF 42 (rl.take (pn + 1))) rl[e] (pathF 42 e (rl.take (pn + 1))).reverse = true) := by
  have h := incl_own2 (l := rl.take (pn + 1)) (n := pn + 1) (e := e) (r := rl[e]) HTL.out.1 (by omega) (by omega) (by rw [List.getElem?_take, if_pos (by omega), List.getElem?_eq_getElem])
  exact h
 have HOWNB : Hid (inclF ((pm : Int) + 1) (e : Int) (sumF 42 (rl.take (pm + 1))) rl[e] (pathF 42 e (rl.take (pm + 1))).reverse = true) := by
  have h := incl_own2 (l := rl.take (pm + 1)) (n := pm + 1) (e := e) (r := rl[e]) HTL.out.2.1 (by omega) (by omega) (by rw [List.getElem?_take, if_pos (by omega), List.getElem?_eq_getElem])
  exact h
 have HOWNC : Hid (extF ((pm : Int) + 1) ((pn : Int) + 1) (sumF 42 (rl.take (pm + 1))) (sumF 42 (rl.take (pn + 1))) (extL 42 (pm + 1) (rl.take (pn + 1)) true).reverse = true) := by
  have h := ext_own (l := rl.take (pn + 1)) (m := pm + 1) (by rw [HTL.out.1]; omega) (by omega) (by rw [HTL.out.1]; omega)
  rw [HTL.out.1, HTL.out.2.2] at h
  exact h
 obtain ⟨x0, x1, x2, x3, x4, x5, x6, x7, hxx⟩ := list8 rl[e] (HRL8.out _ (List.getElem_mem hel))
 obtain ⟨o0, o1, o2, o3, o4, o5, o6, o7, hoo⟩ := list8 (sumF 42 (rl.take (pm + 1))) (sumF_length 41 _)
 obtain ⟨u0, u1, u2, u3, u4, u5, u6, u7, huu⟩ := list8 (sumF 42 (rl.take (pn + 1))) (sumF_length 41 _)
 have hpml : pm < rl.length := by omega
 have hpnl : pn < rl.length := by omega
 have HHO : Hid (∀ W, Below w1.heap.size w1 W → W.cell? ⟨g, pm * 18 + 9, none⟩ = some (.int .i64 ((pm : Int) + 1)) ∧ W.cell? ⟨g, pm * 18 + 9 + 1, none⟩ = some (.int .u8 (o0.toNat : Int)) ∧ W.cell? ⟨g, pm * 18 + 9 + 2, none⟩ = some (.int .u8 (o1.toNat : Int)) ∧ W.cell? ⟨g, pm * 18 + 9 + 3, none⟩ = some (.int .u8 (o2.toNat : Int)) ∧ W.cell? ⟨g, pm * 18 + 9 + 4, none⟩ = some (.int .u8 (o3.toNat : Int)) ∧ W.cell? ⟨g, pm * 18 + 9 + 5, none⟩ = some (.int .u8 (o4.toNat : Int)) ∧ W.cell? ⟨g, pm * 18 + 9 + 6, none⟩ = some (.int .u8 (o5.toNat : Int)) ∧ W.cell? ⟨g, pm * 18 + 9 + 7, none⟩ = some (.int .u8 (o6.toNat : Int)) ∧ W.cell? ⟨g, pm * 18 + 9 + 8, none⟩ = some (.int .u8 (o7.toNat : Int))) := fun W hW => ⟨(HCM.out W pm 9 hpml hW (by omega)).trans (com_at (HRL8.out _ (List.getElem_mem hpml)) hoo).1, (HCM.out W pm 10 hpml hW (by omega)).trans ((com_at (HRL8.out _ (List.getElem_mem hpml)) hoo).2 0 (by omega)), (HCM.out W pm 11 hpml hW (by omega)).trans ((com_at (HRL8.out _ (List.getElem_mem hpml)) hoo).2 1 (by omega)), (HCM.out W pm 12 hpml hW (by omega)).trans ((com_at (HRL8.out _ (List.getElem_mem hpml)) hoo).2 2 (by omega)), (HCM.out W pm 13 hpml hW (by omega)).trans ((com_at (HRL8.out _ (List.getElem_mem hpml)) hoo).2 3 (by omega)), (HCM.out W pm 14 hpml hW (by omega)).trans ((com_at (HRL8.out _ (List.getElem_mem hpml)) hoo).2 4 (by omega)), (HCM.out W pm 15 hpml hW (by omega)).trans ((com_at (HRL8.out _ (List.getElem_mem hpml)) hoo).2 5 (by omega)), (HCM.out W pm 16 hpml hW (by omega)).trans ((com_at (HRL8.out _ (List.getElem_mem hpml)) hoo).2 6 (by omega)), (HCM.out W pm 17 hpml hW (by omega)).trans ((com_at (HRL8.out _ (List.getElem_mem hpml)) hoo).2 7 (by omega))⟩
 have HHU : Hid (∀ W, Below w1.heap.size w1 W → W.cell? ⟨g, pn * 18 + 9, none⟩ = some (.int .i64 ((pn : Int) + 1)) ∧ W.cell? ⟨g, pn * 18 + 9 + 1, none⟩ = some (.int .u8 (u0.toNat : Int)) ∧ W.cell? ⟨g, pn * 18 + 9 + 2, none⟩ = some (.int .u8 (u1.toNat : Int)) ∧ W.cell? ⟨g, pn * 18 + 9 + 3, none⟩ = some (.int .u8 (u2.toNat : Int)) ∧ W.cell? ⟨g, pn * 18 + 9 + 4, none⟩ = some (.int .u8 (u3.toNat : Int)) ∧ W.cell? ⟨g, pn * 18 + 9 + 5, none⟩ = some (.int .u8 (u4.toNat : Int)) ∧ W.cell? ⟨g, pn * 18 + 9 + 6, none⟩ = some (.int .u8 (u5.toNat : Int)) ∧ W.cell? ⟨g, pn * 18 + 9 + 7, none⟩ = some (.int .u8 (u6.toNat : Int)) ∧ W.cell? ⟨g, pn * 18 + 9 + 8, none⟩ = some (.int .u8 (u7.toNat : Int))) := fun W hW => ⟨(HCM.out W pn 9 hpnl hW (by omega)).trans (com_at (HRL8.out _ (List.getElem_mem hpnl)) huu).1, (HCM.out W pn 10 hpnl hW (by omega)).trans ((com_at (HRL8.out _ (List.getElem_mem hpnl)) huu).2 0 (by omega)), (HCM.out W pn 11 hpnl hW (by omega)).trans ((com_at (HRL8.out _ (List.getElem_mem hpnl)) huu).2 1 (by omega)), (HCM.out W pn 12 hpnl hW (by omega)).trans ((com_at (HRL8.out _ (List.getElem_mem hpnl)) huu).2 2 (by omega)), (HCM.out W pn 13 hpnl hW (by omega)).trans ((com_at (HRL8.out _ (List.getElem_mem hpnl)) huu).2 3 (by omega)), (HCM.out W pn 14 hpnl hW (by omega)).trans ((com_at (HRL8.out _ (List.getElem_mem hpnl)) huu).2 4 (by omega)), (HCM.out W pn 15 hpnl hW (by omega)).trans ((com_at (HRL8.out _ (List.getElem_mem hpnl)) huu).2 5 (by omega)), (HCM.out W pn 16 hpnl hW (by omega)).trans ((com_at (HRL8.out _ (List.getElem_mem hpnl)) huu).2 6 (by omega)), (HCM.out W pn 17 hpnl hW (by omega)).trans ((com_at (HRL8.out _ (List.getElem_mem hpnl)) huu).2 7 (by omega))⟩
 rw [hoo, huu] at HOWNC
 rw [hoo, hxx] at HOWNB
 rw [huu, hxx] at HOWNA
 have HXX : Hid (rl[e]? = some [x0, x1, x2, x3, x4, x5, x6, x7]) := by unfold Hid; rw [List.getElem?_eq_getElem hel, hxx]
 have HAL : Hid ((pathF 42 e (rl.take (pn + 1))).length ≤ 1000) := Nat.le_trans (pathF_len 42 _ _) (by decide)
 clear hoo huu hxx HINC HEXT
 generalize pathF 42 e (rl.take (pn + 1)) = A at *
 generalize pathF 42 e (rl.take (pm + 1)) = B at *
 generalize extL 42 (pm + 1) (rl.take (pn + 1)) true = C at *
 have c0 := (HCE.out _ (Below.refl _ _)).1
 go_wp2_with fail
 refine (HIA.out _ (Below.refl _ _)).mono ?_
 rintro r w2 ⟨sA, rfl, oA, hb2⟩
 have HB2 : Hid (Below w1.heap.size w1 w2) := hb2
 have HA2 : Hid (DgL w2 sA A) := DgL.own oA HA8.out.1
 have d0 := (HCE.out _ hb2).1
 clear oA hb2 c0
 go_wp2_with fail
 refine (HIB.out _ HB2.out).mono ?_
 rintro r w3 ⟨sB, rfl, oB, hb3⟩
 have HB3 : Hid (Below w1.heap.size w1 w3) := HB2.out.trans (hb3.mono HB2.out.size)
 have HA3 : Hid (DgL w3 sA A ∧ DgL w3 sB B) := ⟨HA2.out.below hb3, DgL.own oB HA8.out.2.1⟩
 have e0 := (HCE.out _ HB3.out).1
 clear oB hb3 d0
 go_wp2_with fail
 refine (HEC.out _ HB3.out).mono ?_
 rintro r w4 ⟨sC, rfl, oC, hb4⟩
 have HB4 : Hid (Below w1.heap.size w1 w4) := HB3.out.trans (hb4.mono HB3.out.size)
 have HA4 : Hid (DgL w4 sA A ∧ DgL w4 sB B ∧ DgL w4 sC C) := ⟨HA3.out.1.below hb4, HA3.out.2.below hb4, DgL.own oC HA8.out.2.2⟩
 have f0 := (HCE.out _ HB4.out).1
 clear oC hb4 e0
 go_wp2_with fail
 refine (HEZ.out _ HB4.out).mono ?_
 rintro r w5 ⟨sZ, rfl, oZ, hb5⟩
 have HB5 : Hid (Below w1.heap.size w1 w5) := HB4.out.trans (hb5.mono HB4.out.size)
 have HA5 : Hid (DgL w5 sA A ∧ DgL w5 sB B ∧ DgL w5 sC C) := ⟨HA4.out.1.below hb5, HA4.out.2.1.below hb5, HA4.out.2.2.below hb5⟩
 have hzn : sZ.n = 0 := (SlV.ofOwn (s := sZ) oZ).2
 obtain ⟨za, zn, zc⟩ := sZ
 simp only at hzn
 subst hzn
 have c3 := (HCE.out _ HB5.out).2
 obtain ⟨h9, h10, h11, h12, h13, h14, h15, h16, h17⟩ := HHO.out _ HB5.out
 clear oZ hb5 f0
 have HB6 : Hid (Below w1.heap.size w1 (w5.alloc (.cells #[.int .i64 ((pm : Int) + 1), .int .u8 (o0.toNat : Int), .int .u8 (o1.toNat : Int), .int .u8 (o2.toNat : Int), .int .u8 (o3.toNat : Int), .int .u8 (o4.toNat : Int), .int .u8 (o5.toNat : Int), .int .u8 (o6.toNat : Int), .int .u8 (o7.toNat : Int)] 47))) := HB5.out.alloc HB5.out.size _
 have c3b := (HCE.out _ HB6.out).2
 obtain ⟨j9, j10, j11, j12, j13, j14, j15, j16, j17⟩ := HHU.out _ HB6.out
 have HB7 : Hid (Below w5.heap.size w5 ((w5.alloc (.cells #[.int .i64 ((pm : Int) + 1), .int .u8 (o0.toNat : Int), .int .u8 (o1.toNat : Int), .int .u8 (o2.toNat : Int), .int .u8 (o3.toNat : Int), .int .u8 (o4.toNat : Int), .int .u8 (o5.toNat : Int), .int .u8 (o6.toNat : Int), .int .u8 (o7.toNat : Int)] 47)).alloc (.cells #[.int .i64 ((pn : Int) + 1), .int .u8 (u0.toNat : Int), .int .u8 (u1.toNat : Int), .int .u8 (u2.toNat : Int), .int .u8 (u3.toNat : Int), .int .u8 (u4.toNat : Int), .int .u8 (u5.toNat : Int), .int .u8 (u6.toNat : Int), .int .u8 (u7.toNat : Int)] 47))) := ((Below.refl _ _).alloc (Nat.le_refl _) _).alloc (by simp) _
 have HRO : Hid (RowV ((w5.alloc (.cells #[.int .i64 ((pm : Int) + 1), .int .u8 (o0.toNat : Int), .int .u8 (o1.toNat : Int), .int .u8 (o2.toNat : Int), .int .u8 (o3.toNat : Int), .int .u8 (o4.toNat : Int), .int .u8 (o5.toNat : Int), .int .u8 (o6.toNat : Int), .int .u8 (o7.toNat : Int)] 47)).alloc (.cells #[.int .i64 ((pn : Int) + 1), .int .u8 (u0.toNat : Int), .int .u8 (u1.toNat : Int), .int .u8 (u2.toNat : Int), .int .u8 (u3.toNat : Int), .int .u8 (u4.toNat : Int), .int .u8 (u5.toNat : Int), .int .u8 (u6.toNat : Int), .int .u8 (u7.toNat : Int)] 47)) w5.heap.size 47 [.int .i64 ((pm : Int) + 1), .int .u8 (o0.toNat : Int), .int .u8 (o1.toNat : Int), .int .u8 (o2.toNat : Int), .int .u8 (o3.toNat : Int), .int .u8 (o4.toNat : Int), .int .u8 (o5.toNat : Int), .int .u8 (o6.toNat : Int), .int .u8 (o7.toNat : Int)]) := RowV.alloc (RowV.new w5 _ _) _
 have HRU : Hid (RowV ((w5.alloc (.cells #[.int .i64 ((pm : Int) + 1), .int .u8 (o0.toNat : Int), .int .u8 (o1.toNat : Int), .int .u8 (o2.toNat : Int), .int .u8 (o3.toNat : Int), .int .u8 (o4.toNat : Int), .int .u8 (o5.toNat : Int), .int .u8 (o6.toNat : Int), .int .u8 (o7.toNat : Int)] 47)).alloc (.cells #[.int .i64 ((pn : Int) + 1), .int .u8 (u0.toNat : Int), .int .u8 (u1.toNat : Int), .int .u8 (u2.toNat : Int), .int .u8 (u3.toNat : Int), .int .u8 (u4.toNat : Int), .int .u8 (u5.toNat : Int), .int .u8 (u6.toNat : Int), .int .u8 (u7.toNat : Int)] 47)) (w5.heap.size + 1) 47 [.int .i64 ((pn : Int) + 1), .int .u8 (u0.toNat : Int), .int .u8 (u1.toNat : Int), .int .u8 (u2.toNat : Int), .int .u8 (u3.toNat : Int), .int .u8 (u4.toNat : Int), .int .u8 (u5.toNat : Int), .int .u8 (u6.toNat : Int), .int .u8 (u7.toNat : Int)]) := by
  have h := RowV.new (w5.alloc (.cells #[.int .i64 ((pm : Int) + 1), .int .u8 (o0.toNat : Int), .int .u8 (o1.toNat : Int), .int .u8 (o2.toNat : Int), .int .u8 (o3.toNat : Int), .int .u8 (o4.toNat : Int), .int .u8 (o5.toNat : Int), .int .u8 (o6.toNat : Int), .int .u8 (o7.toNat : Int)] 47)) 47 [.int .i64 ((pn : Int) + 1), .int .u8 (u0.toNat : Int), .int .u8 (u1.toNat : Int), .int .u8 (u2.toNat : Int), .int .u8 (u3.toNat : Int), .int .u8 (u4.toNat : Int), .int .u8 (u5.toNat : Int), .int .u8 (u6.toNat : Int), .int .u8 (u7.toNat : Int)]
  unfold Hid
  simpa using h
 have HB17 : Hid (Below w1.heap.size w1 ((w5.alloc (.cells #[.int .i64 ((pm : Int) + 1), .int .u8 (o0.toNat : Int), .int .u8 (o1.toNat : Int), .int .u8 (o2.toNat : Int), .int .u8 (o3.toNat : Int), .int .u8 (o4.toNat : Int), .int .u8 (o5.toNat : Int), .int .u8 (o6.toNat : Int), .int .u8 (o7.toNat : Int)] 47)).alloc (.cells #[.int .i64 ((pn : Int) + 1), .int .u8 (u0.toNat : Int), .int .u8 (u1.toNat : Int), .int .u8 (u2.toNat : Int), .int .u8 (u3.toNat : Int), .int .u8 (u4.toNat : Int), .int .u8 (u5.toNat : Int), .int .u8 (u6.toNat : Int), .int .u8 (u7.toNat : Int)] 47))) := HB5.out.trans (HB7.out.mono HB5.out.size)
 have HA7 : Hid (DgL ((w5.alloc (.cells #[.int .i64 ((pm : Int) + 1), .int .u8 (o0.toNat : Int), .int .u8 (o1.toNat : Int), .int .u8 (o2.toNat : Int), .int .u8 (o3.toNat : Int), .int .u8 (o4.toNat : Int), .int .u8 (o5.toNat : Int), .int .u8 (o6.toNat : Int), .int .u8 (o7.toNat : Int)] 47)).alloc (.cells #[.int .i64 ((pn : Int) + 1), .int .u8 (u0.toNat : Int), .int .u8 (u1.toNat : Int), .int .u8 (u2.toNat : Int), .int .u8 (u3.toNat : Int), .int .u8 (u4.toNat : Int), .int .u8 (u5.toNat : Int), .int .u8 (u6.toNat : Int), .int .u8 (u7.toNat : Int)] 47)) sA A ∧ DgL ((w5.alloc (.cells #[.int .i64 ((pm : Int) + 1), .int .u8 (o0.toNat : Int), .int .u8 (o1.toNat : Int), .int .u8 (o2.toNat : Int), .int .u8 (o3.toNat : Int), .int .u8 (o4.toNat : Int), .int .u8 (o5.toNat : Int), .int .u8 (o6.toNat : Int), .int .u8 (o7.toNat : Int)] 47)).alloc (.cells #[.int .i64 ((pn : Int) + 1), .int .u8 (u0.toNat : Int), .int .u8 (u1.toNat : Int), .int .u8 (u2.toNat : Int), .int .u8 (u3.toNat : Int), .int .u8 (u4.toNat : Int), .int .u8 (u5.toNat : Int), .int .u8 (u6.toNat : Int), .int .u8 (u7.toNat : Int)] 47)) sB B ∧ DgL ((w5.alloc (.cells #[.int .i64 ((pm : Int) + 1), .int .u8 (o0.toNat : Int), .int .u8 (o1.toNat : Int), .int .u8 (o2.toNat : Int), .int .u8 (o3.toNat : Int), .int .u8 (o4.toNat : Int), .int .u8 (o5.toNat : Int), .int .u8 (o6.toNat : Int), .int .u8 (o7.toNat : Int)] 47)).alloc (.cells #[.int .i64 ((pn : Int) + 1), .int .u8 (u0.toNat : Int), .int .u8 (u1.toNat : Int), .int .u8 (u2.toNat : Int), .int .u8 (u3.toNat : Int), .int .u8 (u4.toNat : Int), .int .u8 (u5.toNat : Int), .int .u8 (u6.toNat : Int), .int .u8 (u7.toNat : Int)] 47)) sC C) := ⟨HA5.out.1.below HB7.out, HA5.out.2.1.below HB7.out, HA5.out.2.2.below HB7.out⟩
 have HGP : Hid (∃ p : GP, p = ⟨hb, w5.heap.size, w5.heap.size + 1, g, M, pn, pm, e, d.dn.cap, pn0, pc, pa, place, dif, sA, sB, ⟨sC.a, sC.n, sC.cap⟩, x0, x1, x2, x3, x4, x5, x6, x7, o0, o1, o2, o3, o4, o5, o6, o7, u0, u1, u2, u3, u4, u5, u6, u7, rl, A, B, C⟩ ∧ GB p ((w5.alloc (.cells #[.int .i64 ((pm : Int) + 1), .int .u8 (o0.toNat : Int), .int .u8 (o1.toNat : Int), .int .u8 (o2.toNat : Int), .int .u8 (o3.toNat : Int), .int .u8 (o4.toNat : Int), .int .u8 (o5.toNat : Int), .int .u8 (o6.toNat : Int), .int .u8 (o7.toNat : Int)] 47)).alloc (.cells #[.int .i64 ((pn : Int) + 1), .int .u8 (u0.toNat : Int), .int .u8 (u1.toNat : Int), .int .u8 (u2.toNat : Int), .int .u8 (u3.toNat : Int), .int .u8 (u4.toNat : Int), .int .u8 (u5.toNat : Int), .int .u8 (u6.toNat : Int), .int .u8 (u7.toNat : Int)] 47)) ∧ GO p) := by
  refine ⟨_, rfl, ?_, ?_⟩
  ·refine ⟨Nat.lt_of_lt_of_le HGL.out.2 HB17.out.size, (HCE.out _ HB17.out).2, Nat.lt_of_lt_of_le HGL.out.1 HB17.out.size, fun k j hk hj => HCM.out _ k j hk HB17.out hj, HRO.out, HRU.out, HA7.out.1, HA7.out.2.1, HA7.out.2.2, ?_⟩
   intro k hk
   obtain ⟨b, o, s, L, h1, h2, h3, h4⟩ := HPT.out.1 k hk
   have hb0 : Below w.heap.size w ((w5.alloc (.cells #[.int .i64 ((pm : Int) + 1), .int .u8 (o0.toNat : Int), .int .u8 (o1.toNat : Int), .int .u8 (o2.toNat : Int), .int .u8 (o3.toNat : Int), .int .u8 (o4.toNat : Int), .int .u8 (o5.toNat : Int), .int .u8 (o6.toNat : Int), .int .u8 (o7.toNat : Int)] 47)).alloc (.cells #[.int .i64 ((pn : Int) + 1), .int .u8 (u0.toNat : Int), .int .u8 (u1.toNat : Int), .int .u8 (u2.toNat : Int), .int .u8 (u3.toNat : Int), .int .u8 (u4.toNat : Int), .int .u8 (u5.toNat : Int), .int .u8 (u6.toNat : Int), .int .u8 (u7.toNat : Int)] 47)) := HH1.out.trans (HB17.out.mono HH1.out.size)
   exact ⟨b, o, s, L, h1, Nat.lt_of_lt_of_le h2 hb0.size, (hb0.cell (p := ⟨b, o + k, none⟩) h2).trans h3, h4.below hb0⟩
  ·exact ⟨HRL8.out, hrlM, hM40, hpn, hpm, hem, HXX.out, HOWNA.out, HOWNB.out, HOWNC.out, hpl, hdf, HPT.out.2, HAL.out⟩
 have HFIN : Hid (Below w.heap.size w ((w5.alloc (.cells #[.int .i64 ((pm : Int) + 1), .int .u8 (o0.toNat : Int), .int .u8 (o1.toNat : Int), .int .u8 (o2.toNat : Int), .int .u8 (o3.toNat : Int), .int .u8 (o4.toNat : Int), .int .u8 (o5.toNat : Int), .int .u8 (o6.toNat : Int), .int .u8 (o7.toNat : Int)] 47)).alloc (.cells #[.int .i64 ((pn : Int) + 1), .int .u8 (u0.toNat : Int), .int .u8 (u1.toNat : Int), .int .u8 (u2.toNat : Int), .int .u8 (u3.toNat : Int), .int .u8 (u4.toNat : Int), .int .u8 (u5.toNat : Int), .int .u8 (u6.toNat : Int), .int .u8 (u7.toNat : Int)] 47))) := HH1.out.trans (HB17.out.mono HH1.out.size)
 go_upto_region 14 with fail
 go_cut [29] (fun nv wx => nv = .pointer (some ⟨w5.heap.size + 1, 0, none⟩) ∧ wx = (w5.alloc (.cells #[.int .i64 ((pm : Int) + 1), .int .u8 (o0.toNat : Int), .int .u8 (o1.toNat : Int), .int .u8 (o2.toNat : Int), .int .u8 (o3.toNat : Int), .int .u8 (o4.toNat : Int), .int .u8 (o5.toNat : Int), .int .u8 (o6.toNat : Int), .int .u8 (o7.toNat : Int)] 47)).alloc (.cells #[.int .i64 ((pn : Int) + 1), .int .u8 (u0.toNat : Int), .int .u8 (u1.toNat : Int), .int .u8 (u2.toNat : Int), .int .u8 (u3.toNat : Int), .int .u8 (u4.toNat : Int), .int .u8 (u5.toNat : Int), .int .u8 (u6.toNat : Int), .int .u8 (u7.toNat : Int)] 47))
 case first =>
  go_wp2
  go_meet
  exact ⟨rfl, rfl⟩
 case rest =>
  obtain ⟨rfl, rfl⟩ := hcut
  obtain ⟨p, hp, HG, HO⟩ := HGP.out
  rename_i Q' K hK
  refine hK _ _ ?_
  show Code.wp Try.prog (behind 13 (Try.f7.body.getD .skip)) (bodyPost Try.prog Try.f7 _) _ _
  refine frame_use (G := fr15 p) (by subst hp; kernel_rfl) (fun u => grown_tail p u _ HG HO _ ?_)
  exact fun w' hw' => ⟨rfl, HFIN.out.trans (hw'.mono HFIN.out.size)⟩
end Go.Proofs.Ytekegfbjbainhaa


namespace Go.Proofs.Ytekegfbjbainhaa
open Go.ChangeShapes Go.WideShapes Go.ChangeAt Go.RowKit Go.Deep
theorem Try.ownS : ownKnob Try.prog.godebug = none := by kernel_rfl
theorem Try.laidOutS : laidOutB Try.prog = true := by kernel_rfl
theorem Try.cellsAct : Try.prog.cellsOf 82 = 3 := by kernel_rfl
theorem Try.cellsInt : Try.prog.cellsOf 3 = 1 := by kernel_rfl
theorem Try.cellsStr : Try.prog.cellsOf 9 = 1 := by kernel_rfl
theorem list3 {α : Type} (l : List α) (h : l.length = 3) : ∃ c0 c1 c2, l = [c0, c1, c2] := by
 match l, h with
 | [c0, c1, c2], _ => exact ⟨c0, c1, c2, rfl⟩
theorem wf_i64 {x : Int} (h : (Lit.int .i64 x).wf = true) : -9223372036854775808 ≤ x ∧ x ≤ 9223372036854775807 := by
 simp only [Lit.wf, Bool.and_eq_true, decide_eq_true_eq] at h
 have e1 : IntKind.i64.min = -9223372036854775808 := by decide
 have e2 : IntKind.i64.max = 9223372036854775807 := by decide
 rw [e1, e2] at h
 exact h
theorem bytes_list (s : ByteArray) : s = ⟨s.data.toList.toArray⟩ := by simp
section
variable {H : Type} {enc : TypeId × Value → H} {w : World} {base : Nat} {sp : Nat → Bool} {held : Bool} {fuel : Nat}
theorem open_act {cs : List Value} {x : DataW H × List MemPlace} (h : DataW.trod enc Try.prog w base sp held fuel 82 cs = some x) :
  ∃ o : ActR, cs = o.cells ∧ x.1 = .agg [.lit (.int .i64 o.kind), .lit (.string o.key), .lit (.string o.val)] ∧ (Lit.int .i64 o.kind).wf = true := by
 obtain ⟨xs, m, rfl, rfl, hl, hx, hf⟩ := DataW.trod_struct Try.underlying82 h
 rw [Try.cellsAct] at hl
 obtain ⟨c0, c1, c2, rfl⟩ := list3 cs hl
 obtain ⟨y0, y1, y2, rfl⟩ := list3 xs hx
 have f0 : DataW.trod enc Try.prog w base sp held m 3 (List.take (Try.prog.cellsOf 3) (List.drop 0 [c0, c1, c2])) = some y0 := hf 0 _ rfl
 have f1 : DataW.trod enc Try.prog w base sp held m 9 (List.take (Try.prog.cellsOf 9) (List.drop 1 [c0, c1, c2])) = some y1 := hf 1 _ rfl
 have f2 : DataW.trod enc Try.prog w base sp held m 9 (List.take (Try.prog.cellsOf 9) (List.drop 2 [c0, c1, c2])) = some y2 := hf 2 _ rfl
 clear hf
 rw [Try.cellsInt] at f0
 rw [Try.cellsStr] at f1 f2
 obtain ⟨n0, e0, g0, w0⟩ := DataW.trod_int Try.underlying3 f0
 obtain ⟨s1, e1, g1, w1⟩ := DataW.trod_string Try.underlying9 f1
 obtain ⟨s2, e2, g2, w2⟩ := DataW.trod_string Try.underlying9 f2
 simp only [List.drop_zero, List.drop_succ_cons, List.take_succ_cons, List.take_zero, List.cons.injEq, and_true] at e0 e1 e2
 subst e0 e1 e2 g0 g1 g2
 refine ⟨⟨n0, s1.data.toList, s2.data.toList⟩, ?_, rfl, w0⟩
 unfold ActR.cells
 simp only [← bytes_list]
theorem weightsAll_in {P : Program} {e : TypeId} : ∀ {l : List (DataW H)} {d : DataW H}, d ∈ l → ∀ n ∈ d.weights P e, n ∈ DataW.weightsAll P e l
 | d' :: r, d, hd, n, hn => by
  simp only [DataW.weightsAll, List.mem_append]
  rcases List.mem_cons.1 hd with rfl | h
  ·exact Or.inl hn
  ·exact Or.inr (weightsAll_in h n hn)
theorem cell_lt {W : World} {b o : Nat} {v : Value} (h : W.cell? ⟨b, o, none⟩ = some v) : b < W.heap.size := by
 unfold World.cell? at h
 cases hx : W.heap[b]? with
 | none => simp [hx] at h
 | some c => exact (Array.getElem?_eq_some_iff.1 hx).1
set_option maxRecDepth 100000 in
theorem open_acts {W : World} {a0 : Option Addr} {len cap : Nat} {d0 : DataW H} {p : List MemPlace} (h : DataW.trod enc Try.prog W 0 (fun _ => true) true fuel 22 [.slice a0 len cap] = some (d0, p))
  (hsz : ∀ n ∈ d0.weights Try.prog 22, n ≤ reachBytes) :
  ∃ f : Nat → ActR, ActsAt W a0 len f ∧ len ≤ maxLen := by
 rcases open_slice Try.underlying22 h with ⟨hcs, _⟩ | ⟨a, len', cap', m, n, D, Pl, hcs, _, hl, hmx, hm, hx, hel⟩
 ·simp only [List.cons.injEq, Value.slice.injEq, and_true] at hcs
  obtain ⟨rfl, rfl, rfl⟩ := hcs
  exact ⟨fun _ => ⟨0, [], []⟩, fun i hi => absurd hi (Nat.not_lt_zero _), Nat.zero_le _⟩
 simp only [List.cons.injEq, Value.slice.injEq, and_true] at hcs
 obtain ⟨rfl, rfl, rfl⟩ := hcs
 simp only [Prod.mk.injEq] at hx
 obtain ⟨rfl, rfl⟩ := hx
 rw [Try.cellsAct] at hel
 have hone : ∀ i, i < len → ∃ o : ActR, (∃ b k, a = ⟨b, k, none⟩ ∧ b < W.heap.size ∧ W.rangeAt b (k + i * 3) o.cells) ∧ o.key.length ≤ 140737488351232 ∧ o.val.length ≤ 140737488351232 ∧ (Lit.int .i64 o.kind).wf = true := by
  intro i hi
  obtain ⟨cs', hc, ht⟩ := hel i (by rw [hm]; simp; omega)
  obtain ⟨o, rfl, hd, wk⟩ := open_act ht
  have hin : ∀ x ∈ (D i).weights Try.prog 82, x ≤ reachBytes := fun x hx => by
   refine hsz x ?_
   simp only [DataW.weights, Try.underlying22, List.mem_cons, List.mem_append]
   exact Or.inr (Or.inl (weightsAll_in (List.mem_map.2 ⟨i, List.mem_range.2 hi, rfl⟩) x hx))
  simp only at hd
  rw [hd] at hin
  simp only [DataW.weights, Try.underlying82, List.map_cons, List.map_nil, DataW.weightsEach, List.nil_append, List.append_nil, List.mem_append, List.mem_singleton] at hin
  have hr : reachBytes = 140737488351232 := rfl
  have z4 := hin o.key.length (by simp)
  have z5 := hin o.val.length (by simp)
  rw [hr] at z4 z5
  have hcell : ∀ j v, o.cells[j]? = some v → W.cell? ((a.add (i * 3)).add j) = some v := fun j v hv => by
   unfold World.cells? at hc
   rw [if_pos (Nat.zero_le _)] at hc
   have hj : j < 3 := (List.getElem?_eq_some_iff.1 hv).1
   have := mapM_some_get hc j j (by simp [hj])
   rw [this]; exact hv
  obtain ⟨b, k, sp⟩ := a
  have hs : sp = none := by
   by_cases hi0 : i = 0
   ·subst hi0
    have h00 := hcell 0 (.int .i64 o.kind) rfl
    simpa [Addr.add] using World.cell?_spot h00
   ·obtain ⟨cs0, hc0, _⟩ := hel 0 (by rw [hm]; simp; omega)
    unfold World.cells? at hc0
    rw [if_pos (Nat.zero_le _)] at hc0
    have h00 := mapM_some_get hc0 0 0 (by simp)
    have hlen := mapM_some_length hc0
    simp at hlen
    rw [List.getElem?_eq_getElem (by omega)] at h00
    simpa [Addr.add] using World.cell?_spot h00
  subst hs
  have hra : W.rangeAt b (k + i * 3) o.cells := fun j v hv => by
   have := hcell j v hv
   rw [addr_add, addr_add] at this
   exact this
  exact ⟨o, ⟨b, k, rfl, cell_lt (hra 0 (.int .i64 o.kind) rfl), hra⟩, z4, z5, wk⟩
 obtain ⟨f, hf⟩ := @choose_lt ActR ⟨⟨0, [], []⟩⟩ len _ hone
 refine ⟨f, fun i hi => ?_, by omega⟩
 obtain ⟨⟨b, k, rfl, hb, hra⟩, h4, h5, h6⟩ := hf i hi
 exact ⟨b, k, rfl, hb, hra, h4, h5, wf_i64 h6⟩
end
end Go.Proofs.Ytekegfbjbainhaa


namespace Go.Proofs.Ytekegfbjbainhaa
open Go.ChangeShapes Go.WideShapes Go.ChangeAt Go.RowKit Go.Deep
section
variable {H : Type} {enc : TypeId × Value → H} {P : Program} {w : World} {base : Nat} {spare : Nat → Bool} {held : Bool}
theorem trodAll_7 {t0 t1 t2 t3 t4 t5 t6 : TypeId} {args : Array Value} {ds : List (DataW H)} {ps : List MemPlace} (h : DataW.TrodAll enc P w base spare held [t0, t1, t2, t3, t4, t5, t6] args.toList ds ps) :
  ∃ v0 v1 v2 v3 v4 v5 v6 d0 d1 d2 d3 d4 d5 d6 p0 p1 p2 p3 p4 p5 p6, args = #[v0, v1, v2, v3, v4, v5, v6] ∧ ds = [d0, d1, d2, d3, d4, d5, d6] ∧ ps = p0 ++ (p1 ++ (p2 ++ (p3 ++ (p4 ++ (p5 ++ p6))))) ∧ DataW.Trod enc P w base spare held t0 v0 d0 p0 ∧ DataW.Trod enc P w base spare held t1 v1 d1 p1 ∧ DataW.Trod enc P w base spare held t2 v2 d2 p2 ∧ DataW.Trod enc P w base spare held t3 v3 d3 p3 ∧ DataW.Trod enc P w base spare held t4 v4 d4 p4 ∧ DataW.Trod enc P w base spare held t5 v5 d5 p5 ∧ DataW.Trod enc P w base spare held t6 v6 d6 p6 := by
 obtain ⟨v0, vs0, d0, ds0, p0, q0, hargs, rfl, rfl, h0, hr⟩ := trodAll_cons h
 obtain ⟨v1, vs1, d1, ds1, p1, q1, rfl, rfl, rfl, h1, hr⟩ := trodAll_cons hr
 obtain ⟨v2, vs2, d2, ds2, p2, q2, rfl, rfl, rfl, h2, hr⟩ := trodAll_cons hr
 obtain ⟨v3, vs3, d3, ds3, p3, q3, rfl, rfl, rfl, h3, hr⟩ := trodAll_cons hr
 obtain ⟨v4, vs4, d4, ds4, p4, q4, rfl, rfl, rfl, h4, hr⟩ := trodAll_cons hr
 obtain ⟨v5, vs5, d5, ds5, p5, q5, rfl, rfl, rfl, h5, hr⟩ := trodAll_cons hr
 obtain ⟨v6, vs6, d6, ds6, p6, q6, rfl, rfl, rfl, h6, hr⟩ := trodAll_cons hr
 obtain ⟨rfl, rfl, rfl⟩ := trodAll_nil hr
 exact ⟨v0, v1, v2, v3, v4, v5, v6, d0, d1, d2, d3, d4, d5, d6, p0, p1, p2, p3, p4, p5, p6, by cases args; simp_all, rfl, by simp, h0, h1, h2, h3, h4, h5, h6⟩
theorem trodAll_c {t : TypeId} {ts : List TypeId} {v : Value} {vs : List Value} {d : DataW H} {ds : List (DataW H)} {p q : List MemPlace} (h : DataW.Trod enc P w base spare held t v d p) (hr : DataW.TrodAll enc P w base spare held ts vs ds q) : DataW.TrodAll enc P w base spare held (t :: ts) (v :: vs) (d :: ds) (p ++ q) := ⟨p, q, h, hr, rfl⟩
end
section
variable {H : Type} {enc : TypeId × Value → H} {fuel : Nat}
theorem wf_u8 {x : Int} (h : (Lit.int .u8 x).wf = true) : ∃ z : UInt8, x = (z.toNat : Int) := by
 simp only [Lit.wf, Bool.and_eq_true, decide_eq_true_eq] at h
 have e1 : IntKind.u8.min = 0 := by decide
 have e2 : IntKind.u8.max = 255 := by decide
 rw [e1, e2] at h
 exact ⟨UInt8.ofNat x.toNat, by rw [UInt8.toNat_ofNat']; omega⟩
end
end Go.Proofs.Ytekegfbjbainhaa
