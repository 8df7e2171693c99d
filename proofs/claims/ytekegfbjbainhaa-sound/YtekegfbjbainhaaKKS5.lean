
import Derived.Test.YtekegfbjbainhaaKJoin25
import Derived.Test.YtekegfbjbainhaaKKS4
set_option linter.unusedVariables false
set_option linter.unusedSimpArgs false
namespace Go.Proofs.Ytekegfbjbainhaa
open Go.RowKit
attribute [local go_sem ↓] Go.wp_at_zero Go.wp_at_succ
theorem pgO_long {r d r' : List UInt8} {p : Nat × List ItR} (h : pgO (some r) d = some (p, r')) : r.length ≤ r'.length + 65537 := by
 match r, h with
 | [], h => simp
 | [x], h => simp
 | x :: y :: t, h =>
  have en : pgN (some (x :: y :: t)) = 256 * x.toNat + y.toNat := by simp [pgN, takeR, oneV]
  have er : takeR 1 (takeR 1 (some (x :: y :: t))) = some t := by simp [takeR]
  have hx := x.toNat_lt
  have hy := y.toNat_lt
  unfold pgO at h
  rw [en, er] at h
  split at h
  ·cases h
  ·rename_i r2 hr2
   have e2 : r2 = t.drop (256 * x.toNat + y.toNat) := by
    simp only [takeR] at hr2
    split at hr2
    ·exact (Option.some.inj hr2).symm
    ·cases hr2
   split at h
   ·cases h
   ·split at h
    ·simp only [Option.some.injEq, Prod.mk.injEq] at h
     rw [← h.2, e2]
     simp; omega
    ·cases h
theorem chk_long (key : List UInt8) : ∀ (lv : Nat) (its : List ItR) (r : List UInt8) (q : Nat × List ItR) (r' : List UInt8), chkF key lv its r = some (q, r') → r.length ≤ r'.length + lv * 65537
 | 0, its, r, q, r', h => by
  unfold chkF at h
  cases h
  omega
 | lv + 1, its, r, q, r', h => by
  unfold chkF at h
  split at h
  ·split at h
   ·cases h
   ·rename_i l its' r2 hp
    split at h
    ·have h1 := chk_long key lv its' r2 q r' h
     have h2 := pgO_long hp
     omega
    ·cases h
  ·cases h
   omega
theorem check_short {root key p : List UInt8} {a : Option (List UInt8)} (h : checkF root key p = some a) : p.length ≤ 1000000 := by
 unfold checkF at h
 split at h
 ·cases h
 ·rename_i lv its r hp
  have h6 := (pgO_ok hp).le6
  have h1 := pgO_long hp
  cases hc : chkF key lv its r with
  | none => rw [hc] at h; cases h
  | some q =>
   obtain ⟨⟨l, i⟩, r'⟩ := q
   rw [hc] at h
   have h2 := chk_long key lv its r _ r' hc
   unfold ansF at h
   simp only at h
   split at h
   ·rename_i he
    subst he
    simp at h2
    have : lv * 65537 ≤ 6 * 65537 := Nat.mul_le_mul_right _ h6
    omega
   ·cases h
theorem check_of (va s : SlR) (key li root : List UInt8) (cd : Int) (an : Option (List UInt8)) (W : World) (hr : root.length = 8) (hcd : cd = ((chkR root key li).1 : Int)) (han : an = (chkR root key li).2) (hK : BS W va key) (hk : keyOk key = true) (hL : BS W s li) (hc : s.n ≤ s.cap) :
  Calls Try.prog 16 #[dV root, .slice va.a va.n va.cap, .slice s.a s.n s.cap] W fun r w' => ∃ v : SlR, r = .returned (.tuple #[.agg #[.bool an.isSome, .slice v.a v.n v.cap], .int .i64 cd]) ∧ Below W.heap.size W w' ∧ BS w' v (an.getD []) ∧ ∀ x, v.a = some x → W.heap.size ≤ x.block := by
 subst hcd han
 refine (checkP_any va s key li root W hr hK hL hc (by have := keyOk_len hk; unfold maxLen; omega)).mono ?_
 rintro r w' ⟨v, rfl, h1, h2⟩
 exact ⟨v, rfl, h1, (ownB_bs h2).1, ownB_ge h2⟩
set_option maxRecDepth 100000 in
set_option maxHeartbeats 8000000 in
theorem sound_any (a : Option Addr) (n cap : Nat) (f : Nat → ActR) (q o : List UInt8) (sr : SlR) (raw : List UInt8) (ta : Option Addr) (tn tc : Nat) (tf : Nat → TurnR) (ep : Int) (w : World) (hs : ActsAt w a n f) (hn : n ≤ 9223372036854775807) (hq : q.length ≤ 140737488351232) (ho : o.length ≤ 140737488351232) (hr : BS w sr raw) (hrc : sr.n ≤ sr.cap) (ht : TurnsAt w ta tn tf) (htn : tn ≤ 9223372036854775807) (he : I64 ep) :
  Calls Try.prog 5 #[.slice a n cap, .string ⟨q.toArray⟩, .string ⟨o.toArray⟩, sr.val, .slice ta tn tc, .int .i64 ep] w fun e w' => e = .returned (.bool true) ∧ Below w.heap.size w w' := by
 have HHA : Hid (Calls _ _ _ _ _) := house_any a n cap f w hs hn
 have HKQ : Hid (∀ W, Calls _ _ _ W _) := fun W => key_any q W hq
 have HKO : Hid (∀ W, Calls _ _ _ W _) := fun W => key_any o W ho
 have HR : Hid (BS w sr raw ∧ sr.n ≤ sr.cap) := ⟨hr, hrc⟩
 have HTU : Hid (TurnsAt w ta tn tf ∧ tn ≤ 9223372036854775807) := ⟨ht, htn⟩
 clear hs hn hq ho hr hrc ht htn
 unfold SlR.val
 go_enter Try.func5, Try.ntmps5
 go_wp2_with fail
 refine HHA.out.mono ?_
 rintro r w1 ⟨d, rfl, H1, h1⟩
 obtain ⟨m, hm⟩ : ∃ m, d.pp.length = m + 1 := ⟨d.pp.length - 1, by have := H1.lens.1; omega⟩
 have hm40 : m ≤ 39 := by have := H1.lens.1; have := H1.at_.t40; omega
 have hm40I : (m : Int) ≤ 39 := by omega
 obtain ⟨e, hee⟩ : ∃ e, e = pickN ep (m + 1) := ⟨_, rfl⟩
 have hem : e ≤ m := by have := pickN_lt ep (m + 1) (by omega); omega
 have hlt : e < d.pp.length := by omega
 have hltm : m < d.pp.length := by omega
 obtain ⟨g, g', x0, x1, x2, x3, x4, x5, x6, x7, c0, c2, c3, cp, hrx, hg, hg', k0, k1, k2, k3, k4, k5, k6, k7⟩ := hou_cells H1 hlt
 rw [hm] at c2 c3
 have hhb : d.hb < w1.heap.size := H1.at_.row.lt
 have HRX : Hid (rootB d.pp[e] = [x0, x1, x2, x3, x4, x5, x6, x7]) := hrx
 have hpdl : e < d.pd.length := by rw [H1.at_.pl]; exact hlt
 have HCE : Hid (∀ W, Below w1.heap.size w1 W → W.cell? ⟨d.hb, 0, none⟩ = some (.pointer (some ⟨d.sb, 0, none⟩)) ∧ W.cell? ⟨d.hb, 2, none⟩ = some (.slice (some ⟨g', 0, none⟩) (m + 1) d.pa.cap) ∧ W.cell? ⟨d.hb, 3, none⟩ = some (.slice (some ⟨g, 0, none⟩) (m + 1) d.dn.cap) ∧ W.cell? ⟨g', e, none⟩ = some (d.pd[e]).1.val ∧ W.cell? ⟨g, e * 18 + 1, none⟩ = some (.int .u8 (x0.toNat : Int)) ∧ W.cell? ⟨g, e * 18 + 1 + 1, none⟩ = some (.int .u8 (x1.toNat : Int)) ∧ W.cell? ⟨g, e * 18 + 1 + 2, none⟩ = some (.int .u8 (x2.toNat : Int)) ∧ W.cell? ⟨g, e * 18 + 1 + 3, none⟩ = some (.int .u8 (x3.toNat : Int)) ∧ W.cell? ⟨g, e * 18 + 1 + 4, none⟩ = some (.int .u8 (x4.toNat : Int)) ∧ W.cell? ⟨g, e * 18 + 1 + 5, none⟩ = some (.int .u8 (x5.toNat : Int)) ∧ W.cell? ⟨g, e * 18 + 1 + 6, none⟩ = some (.int .u8 (x6.toNat : Int)) ∧ W.cell? ⟨g, e * 18 + 1 + 7, none⟩ = some (.int .u8 (x7.toNat : Int))) := fun W hW => ⟨(hW.cell (p := ⟨d.hb, 0, none⟩) hhb).trans c0, (hW.cell (p := ⟨d.hb, 2, none⟩) hhb).trans c2, (hW.cell (p := ⟨d.hb, 3, none⟩) hhb).trans c3, (hW.cell (p := ⟨g', e, none⟩) hg').trans cp, (hW.cell (p := ⟨g, e * 18 + 1, none⟩) hg).trans k0, (hW.cell (p := ⟨g, e * 18 + 1 + 1, none⟩) hg).trans k1, (hW.cell (p := ⟨g, e * 18 + 1 + 2, none⟩) hg).trans k2, (hW.cell (p := ⟨g, e * 18 + 1 + 3, none⟩) hg).trans k3, (hW.cell (p := ⟨g, e * 18 + 1 + 4, none⟩) hg).trans k4, (hW.cell (p := ⟨g, e * 18 + 1 + 5, none⟩) hg).trans k5, (hW.cell (p := ⟨g, e * 18 + 1 + 6, none⟩) hg).trans k6, (hW.cell (p := ⟨g, e * 18 + 1 + 7, none⟩) hg).trans k7⟩
 have HS : Hid (Stood d.pp[e]) := H1.stood hlt
 have HSM : Hid (Stood d.pp[m]) := H1.stood hltm
 have HEV : Hid (∀ W, Below w1.heap.size w1 W → EntV W (d.pd[e]).1 (d.pd[e]).2 d.pp[e]) := fun W hW => by
  have h := (H1.below hW).at_.pds e hpdl hlt
  obtain ⟨q1, q2⟩ := SlV.ofOwn (s := (d.pd[e]).1) h.own
  exact ⟨q1, q2, h.len, h.bs⟩
 have HPRV : Hid (∀ (W : World) (sk : SlR) (key : List UInt8), Below w1.heap.size w1 W → BS W sk key → keyOk key = true → Calls Try.prog 15 #[.pointer (some ⟨d.sb, 0, none⟩), .int .i64 (e : Int), .slice sk.a sk.n sk.cap] W fun r w' => ∃ v : SlR, r = .returned (.tuple #[.slice v.a v.n v.cap, .int .i64 0]) ∧ OwnB w' W.heap.size v.val (prfB d.pp[e] key key) ∧ Below W.heap.size W w') := fun W sk key hW hK hk => hou_prove (H1.below hW) hlt sk key hK hk
 have HPRM : Hid (∀ (W : World) (sk : SlR) (key : List UInt8) (x : Int), x = (m : Int) → Below w1.heap.size w1 W → BS W sk key → keyOk key = true → Calls Try.prog 15 #[.pointer (some ⟨d.sb, 0, none⟩), .int .i64 x, .slice sk.a sk.n sk.cap] W fun r w' => ∃ v : SlR, r = .returned (.tuple #[.slice v.a v.n v.cap, .int .i64 0]) ∧ OwnB w' W.heap.size v.val (prfB d.pp[m] key key) ∧ Below W.heap.size W w') := fun W sk key x hx hW hK hk => hx ▸ hou_prove (H1.below hW) hltm sk key hK hk
 have HH1 : Hid (Below w.heap.size w w1) := H1.bel
 clear hrx k0 k1 k2 k3 k4 k5 k6 k7 hg hg' cp c0 c2
 generalize d.pp[m] = lm at *
 generalize d.pp[e] = l at *
 generalize d.pd[e] = pe at *
 clear H1 h1
 obtain ⟨⟨la, ln, lc⟩, nes⟩ := pe
 simp only [SlR.val] at HCE HEV
 obtain rfl : ln = l.length := by
  have h := HEV.out _ (Below.refl _ _)
  rw [← h.bs.1]; exact h.n
 have hl60 : l.length ≤ 60 := HS.out.len
 have hl60I : (l.length : Int) ≤ 60 := by omega
 clear hpdl hlt hltm hm
 generalize d.hb = hb at *
 generalize d.sb = sb at *
 have heI : (e : Int) ≤ m := by omega
 go_wp2_with fail
 have hpk : Calls Try.prog 10 #[.int .i64 ep, .int .i64 ((m : Int) + 1)] w1 _ := pick_any ep (m + 1) w1 he.1 he.2 (by omega) (by unfold maxLen; omega)
 refine hpk.mono ?_
 rintro r w2 ⟨rfl, hw2⟩
 obtain rfl : w1 = w2 := hw2.symm
 rw [← hee]
 clear hw2 hpk hee c3
 go_wp2_with fail
 refine (HKQ.out _).mono ?_
 rintro r w2 ⟨va, rfl, ba, hb2, hn2⟩
 have HB2 : Hid (Below w1.heap.size w1 w2) := hb2
 have HBA : Hid (BS w2 va (keyS q)) := ba
 have HOK : Hid (keyOk (keyS q) = true) := keyS_ok _
 clear ba hb2 hn2
 generalize keyS q = key at *
 have c0 := (HCE.out _ HB2.out).1
 unfold SlR.val
 go_wp2_with fail
 refine (HPRV.out _ va key HB2.out HBA.out HOK.out).mono ?_
 rintro r w3 ⟨vp, rfl, op3, hb3⟩
 have HB3 : Hid (Below w1.heap.size w1 w3) := HB2.out.trans (hb3.mono HB2.out.size)
 have HVP : Hid (BS w3 vp (prfB l key key) ∧ vp.n ≤ vp.cap) := ownB_bs op3
 have HBA3 : Hid (BS w3 va key) := HBA.out.below hb3
 clear op3 hb3 c0
 have c0 := (HCE.out _ HB3.out).1
 have c3 := (HCE.out _ HB3.out).2.2.1
 go_wp2
 go_cut [19, 20] (fun qv gv wx => ∃ (vq : SlR) (qb : List UInt8), qv = .slice vq.a vq.n vq.cap ∧ gv = .int .i64 0 ∧ Hid (BS wx vq qb ∧ vq.n ≤ vq.cap ∧ qb.length ≤ 1000000) ∧ Hid (Below w3.heap.size w3 wx))
 case first =>
  go_region_held3 (fun W' => W'.cell? ⟨hb, 0, none⟩ = some (.pointer (some ⟨sb, 0, none⟩)) ∧ W'.cell? ⟨hb, 3, none⟩ = some (.slice (some ⟨g, 0, none⟩) (m + 1) d.dn.cap)) (go_keep)
   ((first | (go_at_call 17; refine (HKO.out _).mono ?_; rintro r w4 ⟨vo, rfl, bo, hb4, hn4⟩; have HB4 : Hid (Below w3.heap.size w3 w4) := (Below.refl _ _).drew.trans hb4; have HBO : Hid (BS w4 vo (keyS o)) := bo; have s0 := (HCE.out _ (HB3.out.trans (HB4.out.mono HB3.out.size))).1; have s3 := (HCE.out _ (HB3.out.trans (HB4.out.mono HB3.out.size))).2.2.1; unfold SlR.val; clear bo hb4 hn4) | (go_at_call 15; refine (HPRM.out _ vo (keyS o) _ (by first | rfl | (rw [IntKind.wrap_i64]; omega) | omega) (HB3.out.trans (HB4.out.mono HB3.out.size)) HBO.out (keyS_ok _)).mono ?_; rintro r w5 ⟨vq, rfl, op5, hb5⟩; have HB5 : Hid (Below w3.heap.size w3 w5) := HB4.out.trans (hb5.mono HB4.out.size); have u0 := (HCE.out _ (HB3.out.trans (HB5.out.mono HB3.out.size))).1; have u3 := (HCE.out _ (HB3.out.trans (HB5.out.mono HB3.out.size))).2.2.1)))
  all_goals
   go_wp2
   go_meet
   exact ⟨vq, _, rfl, rfl, ⟨(ownB_bs op5).1, (ownB_bs op5).2, prf_short HSM.out.pastR _ _⟩, HB5⟩
 case rest =>
  obtain ⟨vq, qb, rfl, rfl, HVQ, HBc⟩ := hcut
  have HB5 : Hid (Below w1.heap.size w1 wc) := HB3.out.trans (HBc.out.mono HB3.out.size)
  obtain ⟨v0, v2, v3, vp0, _⟩ := HCE.out _ HB5.out
  have hE5 := HEV.out wc HB5.out
  have HST : Hid (Calls _ _ _ _ _) := stood_any ⟨la, l.length, lc⟩ va nes l key wc hE5.sl hE5.n hE5.bs (HBA3.out.below HBc.out) hl60
  unfold SlR.val at HST
  have heI2 : (e : Int) < (m : Int) + 1 := by omega
  clear hE5 c0 c3
  go_wp2_with fail
  refine HST.out.mono ?_
  rintro r w6 ⟨xw, rfl, bs6, hb6⟩
  have HW7 : Hid (RowV (w6.alloc (.cells #[.bool (findM key l).isSome, .slice xw.a xw.n xw.cap] 40)) w6.heap.size 40 [.bool (findM key l).isSome, .slice xw.a xw.n xw.cap]) := RowV.new w6 _ _
  have HB7 : Hid (Below wc.heap.size wc (w6.alloc (.cells #[.bool (findM key l).isSome, .slice xw.a xw.n xw.cap] 40))) := hb6.alloc hb6.size _
  have HX6 : Hid (BS (w6.alloc (.cells #[.bool (findM key l).isSome, .slice xw.a xw.n xw.cap] 40)) xw ((findM key l).getD [])) := bs6.below ((Below.refl _ _).alloc (Nat.le_refl _) _)
  clear bs6 hb6 HST v0 v2 v3 vp0
  have HB3c : Hid (Below w3.heap.size w3 (w6.alloc (.cells #[.bool (findM key l).isSome, .slice xw.a xw.n xw.cap] 40))) := HBc.out.trans (HB7.out.mono HBc.out.size)
  have HB1c : Hid (Below w1.heap.size w1 (w6.alloc (.cells #[.bool (findM key l).isSome, .slice xw.a xw.n xw.cap] 40))) := HB3.out.trans (HB3c.out.mono HB3.out.size)
  have HB0c : Hid (Below w.heap.size w (w6.alloc (.cells #[.bool (findM key l).isSome, .slice xw.a xw.n xw.cap] 40))) := HH1.out.trans (HB1c.out.mono HH1.out.size)
  have HBT : Hid (Calls _ _ _ _ _) := bent_any vp vq (prfB l key key) qb ta tn tc tf (w6.alloc (.cells #[.bool (findM key l).isSome, .slice xw.a xw.n xw.cap] 40)) (HVP.out.1.below HB3c.out) (HVQ.out.1.below HB7.out) HVQ.out.2.1 (prf_short HS.out.pastR _ _) HVQ.out.2.2 (fun i hi => by
   obtain ⟨b, o, h1, h2, h3, h4⟩ := HTU.out.1 i hi
   exact ⟨b, o, h1, Nat.lt_of_lt_of_le h2 HB0c.out.size, fun j v hv => (HB0c.out.cell (p := ⟨b, o + i * 3 + j, none⟩) h2).trans (h3 j v hv), h4⟩) HTU.out.2
  unfold SlR.val at HBT
  go_wp2_with fail
  refine HBT.out.mono ?_
  rintro r w8 ⟨sb8, b8, rfl, ob8, lb8, hb8⟩
  obtain ⟨W9, hW9⟩ : ∃ W9, W9 = w8.alloc (.cells #[.slice sr.a sr.n sr.cap, .slice sb8.a sb8.n sb8.cap, .slice vq.a vq.n vq.cap, .slice vp.a vp.n vp.cap] 35) := ⟨_, rfl⟩
  have hB89 : Below w8.heap.size w8 W9 := by rw [hW9]; exact (Below.refl _ _).alloc (Nat.le_refl _) _
  have hB79 : Below (w6.alloc (.cells #[.bool (findM key l).isSome, .slice xw.a xw.n xw.cap] 40)).heap.size (w6.alloc (.cells #[.bool (findM key l).isSome, .slice xw.a xw.n xw.cap] 40)) W9 := hb8.trans (hB89.mono hb8.size)
  have HB39 : Hid (Below w3.heap.size w3 W9) := HB3c.out.trans (hB79.mono HB3c.out.size)
  have HB19 : Hid (Below w1.heap.size w1 W9) := HB1c.out.trans (hB79.mono HB1c.out.size)
  have HB09 : Hid (Below w.heap.size w W9) := HB0c.out.trans (hB79.mono HB0c.out.size)
  have HWT : Hid (RowV W9 w6.heap.size 40 [.bool (findM key l).isSome, .slice xw.a xw.n xw.cap] ∧ BS W9 xw ((findM key l).getD [])) := ⟨RowV.below HW7.out HW7.out.lt hB79, HX6.out.below hB79⟩
  have HVP9 : Hid (BS W9 vp (prfB l key key) ∧ vp.n ≤ vp.cap) := ⟨HVP.out.1.below HB39.out, HVP.out.2⟩
  have HK9 : Hid (BS W9 va key) := HBA3.out.below HB39.out
  have HAL : Hid (∀ j, j < 4 → ∃ (s : SlR) (li : List UInt8), BS W9 s li ∧ s.n ≤ s.cap ∧ (j = 3 → li = prfB l key key) ∧ ∀ W, Below W9.heap.size W9 W → W.cell? ⟨w8.heap.size, j, none⟩ = some (.slice s.a s.n s.cap)) := fun j hj => by
   have hr9 : RowV W9 w8.heap.size 35 [.slice sr.a sr.n sr.cap, .slice sb8.a sb8.n sb8.cap, .slice vq.a vq.n vq.cap, .slice vp.a vp.n vp.cap] := by rw [hW9]; exact RowV.new w8 _ _
   have hc : ∀ (v : Value) W, Below W9.heap.size W9 W → [Value.slice sr.a sr.n sr.cap, .slice sb8.a sb8.n sb8.cap, .slice vq.a vq.n vq.cap, .slice vp.a vp.n vp.cap][j]? = some v → W.cell? ⟨w8.heap.size, j, none⟩ = some v := fun v W hW hv => (hW.cell (p := ⟨w8.heap.size, j, none⟩) hr9.lt).trans ((RowV.cell? hr9 j).trans hv)
   have hj4 : j = 0 ∨ j = 1 ∨ j = 2 ∨ j = 3 := by omega
   rcases hj4 with rfl | rfl | rfl | rfl
   ·exact ⟨sr, raw, HR.out.1.below HB09.out, HR.out.2, fun h => (by cases h), fun W hW => hc _ W hW rfl⟩
   ·exact ⟨sb8, b8, (ownB_bs ob8).1.below hB89, (ownB_bs ob8).2, fun h => (by cases h), fun W hW => hc _ W hW rfl⟩
   ·exact ⟨vq, qb, (HVQ.out.1.below HB7.out).below hB79, HVQ.out.2.1, fun h => (by cases h), fun W hW => hc _ W hW rfl⟩
   ·exact ⟨vp, prfB l key key, HVP9.out.1, HVP9.out.2, fun _ => rfl, fun W hW => hc _ W hW rfl⟩
  clear ob8 lb8 hb8 hB89 hB79 HBT HW7 HX6 HB3c HB1c HB0c HB7
  go_wp2
  rw [← hW9]
  clear hW9
  generalize w8.heap.size = ab at *
  generalize w6.heap.size = wb at *
  go_loopw [23] (fun iv wx => ∃ j : Nat, j ≤ 4 ∧ iv = .int .i64 (j : Int) ∧ Hid (Below W9.heap.size W9 wx)) (fun iv _ => 4 - (intOf iv).toNat)
  case atStart => exact ⟨0, by omega, rfl, Below.refl _ _⟩
  case round =>
   obtain ⟨j, hj, rfl, HBx⟩ := hrel
   by_cases hj4 : j < 4
   ·have hj4I : (j : Int) < 4 := by omega
    obtain ⟨s, li, bsi, hsc, hj3, hcj⟩ := HAL.out j hj4
    have HCJ : Hid (∀ W, Below W9.heap.size W9 W → W.cell? ⟨ab, j, none⟩ = some (.slice s.a s.n s.cap)) := hcj
    have HLI : Hid (BS W9 s li ∧ s.n ≤ s.cap) := ⟨bsi, hsc⟩
    have HJ3 : Hid (j = 3 → li = prfB l key key) := hj3
    clear bsi hsc hj3 hcj
    obtain ⟨cd, hcd⟩ : ∃ cd : Int, cd = ((chkR [x0, x1, x2, x3, x4, x5, x6, x7] key li).1 : Int) := ⟨_, rfl⟩
    obtain ⟨an, han⟩ : ∃ an : Option (List UInt8), an = (chkR [x0, x1, x2, x3, x4, x5, x6, x7] key li).2 := ⟨_, rfl⟩
    have HCHK : Hid (∀ W, Below W9.heap.size W9 W → Calls Try.prog 16 #[.agg #[.int .u8 (x0.toNat : Int), .int .u8 (x1.toNat : Int), .int .u8 (x2.toNat : Int), .int .u8 (x3.toNat : Int), .int .u8 (x4.toNat : Int), .int .u8 (x5.toNat : Int), .int .u8 (x6.toNat : Int), .int .u8 (x7.toNat : Int)], .slice va.a va.n va.cap, .slice s.a s.n s.cap] W fun r w' => ∃ v : SlR, r = .returned (.tuple #[.agg #[.bool an.isSome, .slice v.a v.n v.cap], .int .i64 cd]) ∧ Below W.heap.size W w' ∧ BS w' v (an.getD []) ∧ ∀ x, v.a = some x → W.heap.size ≤ x.block) := fun W hW => check_of va s key li [x0, x1, x2, x3, x4, x5, x6, x7] cd an W rfl hcd han (HK9.out.below hW) HOK.out (HLI.out.1.below hW) HLI.out.2
    have HCD : Hid (cd = ((chkR [x0, x1, x2, x3, x4, x5, x6, x7] key li).1 : Int) ∧ an = (chkR [x0, x1, x2, x3, x4, x5, x6, x7] key li).2) := ⟨hcd, han⟩
    clear hcd han
    have HB1x : Hid (Below w1.heap.size w1 wr) := HB19.out.trans (HBx.out.mono HB19.out.size)
    obtain ⟨n0, n2, n3, np, nr0, nr1, nr2, nr3, nr4, nr5, nr6, nr7⟩ := HCE.out _ HB1x.out
    have nj := HCJ.out _ HBx.out
    clear n0 n2 np
    have ne1 : wr.heap.size ≠ hb := World.new_ne wr _ n3
    have ne2 : wr.heap.size ≠ g := World.new_ne wr _ nr0
    have ne3 : wr.heap.size ≠ ab := World.new_ne wr _ nj
    go_wp2
    go_cut [24, 25] (fun av ev wx => ∃ (xb : Nat) (xa : SlR), av = .pointer (some ⟨xb, 0, none⟩) ∧ ev = .int .i64 cd ∧ Hid (Below W9.heap.size W9 wx) ∧ Hid (RowV wx xb 40 [.bool an.isSome, .slice xa.a xa.n xa.cap]) ∧ Hid (BS wx xa (an.getD [])))
    case first =>
     go_region_held3 (fun W' => W'.cell? ⟨hb, 3, none⟩ = some (.slice (some ⟨g, 0, none⟩) (m + 1) d.dn.cap) ∧ W'.cell? ⟨g, e * 18 + 1, none⟩ = some (.int .u8 (x0.toNat : Int)) ∧ W'.cell? ⟨g, e * 18 + 1 + 1, none⟩ = some (.int .u8 (x1.toNat : Int)) ∧ W'.cell? ⟨g, e * 18 + 1 + 2, none⟩ = some (.int .u8 (x2.toNat : Int)) ∧ W'.cell? ⟨g, e * 18 + 1 + 3, none⟩ = some (.int .u8 (x3.toNat : Int)) ∧ W'.cell? ⟨g, e * 18 + 1 + 4, none⟩ = some (.int .u8 (x4.toNat : Int)) ∧ W'.cell? ⟨g, e * 18 + 1 + 5, none⟩ = some (.int .u8 (x5.toNat : Int)) ∧ W'.cell? ⟨g, e * 18 + 1 + 6, none⟩ = some (.int .u8 (x6.toNat : Int)) ∧ W'.cell? ⟨g, e * 18 + 1 + 7, none⟩ = some (.int .u8 (x7.toNat : Int)) ∧ W'.cell? ⟨ab, j, none⟩ = some (.slice s.a s.n s.cap)) (go_keep)
      ((go_at_call 16; first | (refine (HCHK.out _ (by exact HBx.out.drew)).mono ?_; rintro r w7 ⟨va7, rfl, hb7, bs7, ge7⟩; have HB57 : Hid (Below wr.heap.size wr w7) := (Below.refl _ _).drew.trans hb7; have HB7x : Hid (Below W9.heap.size W9 w7) := HBx.out.trans (HB57.out.mono HBx.out.size); obtain ⟨oz, o2, o3, op, or0, or1, or2, or3, or4, or5, or6, or7⟩ := HCE.out _ (HB19.out.trans (HB7x.out.mono HB19.out.size)); have ok := HCJ.out _ HB7x.out) | (refine (HCHK.out _ (by exact (HBx.out.alloc HBx.out.size _).drew)).mono ?_; rintro r w7 ⟨va7, rfl, hb7, bs7, ge7⟩; have HB57 : Hid (Below wr.heap.size wr w7) := Below.trans (((Below.refl _ _).alloc (Nat.le_refl _) _).drew) (hb7.mono (by simp)); have hT7 : RowV w7 wr.heap.size 40 [.bool false, .slice none 0 0] := RowV.below (by exact (RowV.new wr 40 [.bool false, .slice none 0 0])) (by simp) hb7; have y0 : w7.cell? ⟨wr.heap.size, 0, none⟩ = some (.bool false) := RowV.cell? hT7 0; have y1 : w7.cell? ⟨wr.heap.size, 1, none⟩ = some (.slice none 0 0) := RowV.cell? hT7 1; have y2 : w7.frozen? ⟨wr.heap.size, 0, none⟩ = false := RowV.frozen hT7 0; have y3 : w7.frozen? ⟨wr.heap.size, 1, none⟩ = false := RowV.frozen hT7 1; have HB7x : Hid (Below W9.heap.size W9 w7) := HBx.out.trans (HB57.out.mono HBx.out.size); obtain ⟨oz, o2, o3, op, or0, or1, or2, or3, or4, or5, or6, or7⟩ := HCE.out _ (HB19.out.trans (HB7x.out.mono HB19.out.size)); have ok := HCJ.out _ HB7x.out)))
     all_goals
      go_wp2
      go_meet
      first
       | exact ⟨w7.heap.size, va7, rfl, rfl, HB7x.out.alloc HB7x.out.size _, RowV.new w7 40 [.bool an.isSome, .slice va7.a va7.n va7.cap], bs7.below ((Below.refl _ _).alloc (Nat.le_refl _) _)⟩
       | (have hfs : Frame (fun k => k = wr.heap.size) w7 ((w7.setCell ⟨wr.heap.size, 0, none⟩ (.bool an.isSome)).setCell ⟨wr.heap.size, 1, none⟩ (.slice va7.a va7.n va7.cap)) := Frame.setCell (S := fun k => k = wr.heap.size) (Frame.setCell (S := fun k => k = wr.heap.size) (Frame.refl _ _) (p := ⟨wr.heap.size, 0, none⟩) rfl _) (p := ⟨wr.heap.size, 1, none⟩) rfl _; exact ⟨wr.heap.size, va7, rfl, rfl, HB7x.out.trans (hfs.below HB7x.out.size (fun k hk => by rw [hk]; exact HBx.out.size)), (hT7.set 0 _).set 1 _, bs7.frame hfs (fun x hx e => by have := ge7 x hx; simp at this; omega)⟩)
    case rest =>
     obtain ⟨xb, xa, rfl, rfl, HBz, HRz, HXz⟩ := hcut
     clear n3 nr0 nr1 nr2 nr3 nr4 nr5 nr6 nr7 nj ne1 ne2 ne3 HCHK
     have hchk : chkR [x0, x1, x2, x3, x4, x5, x6, x7] key li = (match checkF [x0, x1, x2, x3, x4, x5, x6, x7] key li with
      | none => (5, none)
      | some a => (0, a)) := by unfold chkR; rw [if_pos HOK.out]; cases checkF [x0, x1, x2, x3, x4, x5, x6, x7] key li <;> rfl
     cases hcf : checkF [x0, x1, x2, x3, x4, x5, x6, x7] key li with
     | none =>
      have hc5 := HCD.out
      rw [hchk, hcf] at hc5
      obtain ⟨h5a, h5b⟩ := hc5
      obtain rfl : cd = 5 := h5a
      subst h5b
      have hx7 : xa.n = 0 := HXz.out.n
      have hj3 : j ≠ 3 := fun e => by
       have h := HJ3.out e
       rw [h, ← HRX.out, check_point HS.out key] at hcf
       cases hcf
      have hj3I : ((j : Int) == 3) = false := by rw [Bool.eq_false_iff]; simp only [ne_eq, beq_iff_eq]; omega
      have z0 : wc.cell? ⟨xb, 0, none⟩ = some (.bool false) := RowV.cell? HRz.out 0
      have z1 : wc.cell? ⟨xb, 1, none⟩ = some (.slice xa.a 0 xa.cap) := by rw [← hx7]; exact RowV.cell? HRz.out 1
      clear hx7 hj3 hchk hcf
      go_wp2
      refine ⟨⟨j + 1, by omega, by go_num, HBz⟩, by simp [intOf]; omega⟩
     | some ans =>
      have hc5 := HCD.out
      rw [hchk, hcf] at hc5
      obtain ⟨h5a, h5b⟩ := hc5
      obtain rfl : cd = 0 := h5a
      subst h5b
      have HCF : Hid (checkF [x0, x1, x2, x3, x4, x5, x6, x7] key li = some an) := hcf
      have HSH : Hid (li.length ≤ 1000000) := check_short hcf
      have z0 : wc.cell? ⟨xb, 0, none⟩ = some (.bool an.isSome) := RowV.cell? HRz.out 0
      have z1 : wc.cell? ⟨xb, 1, none⟩ = some (.slice xa.a xa.n xa.cap) := RowV.cell? HRz.out 1
      have HWTc : Hid (RowV wc wb 40 [.bool (findM key l).isSome, .slice xw.a xw.n xw.cap] ∧ BS wc xw ((findM key l).getD [])) := ⟨RowV.below HWT.out.1 HWT.out.1.lt HBz.out, HWT.out.2.below HBz.out⟩
      have z2 : wc.cell? ⟨wb, 0, none⟩ = some (.bool (findM key l).isSome) := RowV.cell? HWTc.out.1 0
      have z3 : wc.cell? ⟨wb, 1, none⟩ = some (.slice xw.a xw.n xw.cap) := RowV.cell? HWTc.out.1 1
      have HSA : Hid (Calls _ _ _ _ _) := same_answer an.isSome (findM key l).isSome xa xw _ _ wc HXz.out HWTc.out.2
      unfold SlR.val at HSA
      obtain ⟨sm, hsm⟩ : ∃ sm : Bool, sm = ((an.isSome == (findM key l).isSome) && (an.getD [] == (findM key l).getD [])) := ⟨_, rfl⟩
      rw [← hsm] at HSA
      have HSM2 : Hid (sm = ((an.isSome == (findM key l).isSome) && (an.getD [] == (findM key l).getD []))) := hsm
      clear hsm hchk hcf
      go_wp2_with fail
      refine HSA.out.mono ?_
      rintro r w10 ⟨rfl, hb10⟩
      have HB10 : Hid (Below W9.heap.size W9 w10) := HBz.out.trans (hb10.mono HBz.out.size)
      have HPG : Hid (Calls _ _ _ _ _) := pages_any vp (prfB l key key) w10 (HVP9.out.1.below HB10.out) HVP9.out.2 (by have := prf_short HS.out.pastR key key; omega)
      unfold SlR.val at HPG
      clear hb10 z0 z1 z2 z3 HSA
      go_wp2_with fail
      refine HPG.out.mono ?_
      rintro r w11 ⟨vL, rfl, hL, hb11⟩
      have HB11 : Hid (Below W9.heap.size W9 w11) := HB10.out.trans (hb11.mono HB10.out.size)
      have HL11 : Hid (StrO w11 W9.heap.size vL (pagesN (prfB l key key))) := owns_base hL (fun k hk => Nat.le_trans HB10.out.size (World.ownsRow.lt hL k hk).1)
      have nj := HCJ.out _ HB11.out
      have HPG2 : Hid (Calls _ _ _ _ _) := pages_any s li w11 (HLI.out.1.below HB11.out) HLI.out.2 (by have := HSH.out; omega)
      unfold SlR.val at HPG2
      clear hL hb11 HPG
      go_wp2_with fail
      refine HPG2.out.mono ?_
      rintro r w12 ⟨vM, rfl, hM, hb12⟩
      have HB12 : Hid (Below W9.heap.size W9 w12) := HB11.out.trans (hb12.mono HB11.out.size)
      have HL12 : Hid (StrO w12 W9.heap.size vL (pagesN (prfB l key key))) := owns_below HL11.out hb12
      obtain ⟨hMs, hMn⟩ := SlV.ofOwn (s := vM) hM
      have HMS : Hid (SlV w12 vM.a ((pagesN li).map strV)) := hMs
      have HMN : Hid (vM.a = none → vM.n = 0 ∧ vM.cap = 0) := fun e => by
       rcases (owns_cap (a := vM.a) (n' := vM.n) (cap := vM.cap) hM).2.2.2 with ⟨_, h1, h2⟩ | ⟨g, h1, _⟩
       ·exact ⟨by rw [hMn]; exact h1, h2⟩
       ·rw [e] at h1; cases h1
      have HPA : Hid ((pagesN (prfB l key key)).length ≤ 1000000 ∧ (pagesN li).length ≤ 1000000) := by
       have h1 := sumP_len (pagesN (prfB l key key))
       have h2 := (pagesN_sum _ (prfB l key key) (Nat.le_refl _)).1
       have h3 := prf_short HS.out.pastR key key
       have h4 := sumP_len (pagesN li)
       have h5 := (pagesN_sum _ li (Nat.le_refl _)).1
       have h6 := HSH.out
       unfold Hid; omega
      have HPB : Hid (∀ x ∈ pagesN (prfB l key key) ++ pagesN li, x.length ≤ 1000000000) := fun x hx => by
       rcases List.mem_append.1 hx with hx | hx
       ·have := (pagesN_sum _ (prfB l key key) (Nat.le_refl _)).2 x hx; omega
       ·have := (pagesN_sum _ li (Nat.le_refl _)).2 x hx; omega
      have HTWO : Hid (an = findM key l ∨ Met (pagesN (prfB l key key)) (pagesN li)) := by
       have h1 := check_point HS.out key
       rw [HRX.out] at h1
       rcases check_two h1 HCF.out with h | h
       ·exact Or.inl h.symm
       ·exact Or.inr h
      have hMn' : vM.n = (pagesN li).length := hMn
      clear hM hMs hMn hb12 HPG2 nj
      generalize pagesN (prfB l key key) = L at *
      generalize pagesN li = M at *
      obtain ⟨Ma, Mn, Mc⟩ := vM
      simp only at hMn' HMS HMN
      subst hMn'
      cases sm with
      | true =>
       go_wp2_with (at_builtin; refine wp_appendV (by rfl) (.tmp 141) (.tmp 146) 67 (by rfl) W9.heap.size 9 _ 1 16 Try.underlying67 Try.infoStr rfl (by decide) (.slice vL.a vL.n vL.cap) L.length (L.map strV) (by rfl) HL12.out Ma M.length Mc (M.map strV) (by rfl) (by simp) HMS.out HMN.out (str_one _) (by have := HPA.out; unfold maxLen; omega) (by have := HPA.out; omega) HB12.out.size ?_; intro v13 w13 ho13 hf13 hat13; obtain ⟨a13, c13, hv13, _⟩ := owns_form ho13; subst hv13; have HB13 : Hid (Below W9.heap.size W9 w13) := HB12.out.trans (hf13.below HB12.out.size (fun k hk => (World.ownsRow.lt HL12.out k hk).1)); have HO13 : Hid (StrO w13 W9.heap.size ⟨a13, L.length + M.length, c13⟩ (L ++ M)) := by { unfold Hid StrO; rw [List.map_append, List.length_append]; exact ho13 }; clear ho13 hf13 hat13)
       refine ⟨⟨j + 1, by omega, by go_num, HB13⟩, by simp [intOf]; omega⟩
      | false =>
       go_wp2_with (at_builtin; refine wp_appendV (by rfl) (.tmp 141) (.tmp 146) 67 (by rfl) W9.heap.size 9 _ 1 16 Try.underlying67 Try.infoStr rfl (by decide) (.slice vL.a vL.n vL.cap) L.length (L.map strV) (by rfl) HL12.out Ma M.length Mc (M.map strV) (by rfl) (by simp) HMS.out HMN.out (str_one _) (by have := HPA.out; unfold maxLen; omega) (by have := HPA.out; omega) HB12.out.size ?_; intro v13 w13 ho13 hf13 hat13; obtain ⟨a13, c13, hv13, _⟩ := owns_form ho13; subst hv13; have HB13 : Hid (Below W9.heap.size W9 w13) := HB12.out.trans (hf13.below HB12.out.size (fun k hk => (World.ownsRow.lt HL12.out k hk).1)); have HO13 : Hid (StrO w13 W9.heap.size ⟨a13, L.length + M.length, c13⟩ (L ++ M)) := by { unfold Hid StrO; rw [List.map_append, List.length_append]; exact ho13 }; clear ho13 hf13 hat13)
       have HMT : Hid (Calls _ _ _ _ _) := met_any ⟨a13, L.length + M.length, c13⟩ (L ++ M) w13 (SlV.ofOwn (s := ⟨a13, L.length + M.length, c13⟩) HO13.out).1 (by simp) (by have := HPA.out; simp; omega) HPB.out
       unfold SlR.val at HMT
       refine HMT.out.mono ?_
       rintro r w14 ⟨hres, hb14⟩
       have HB14 : Hid (Below W9.heap.size W9 w14) := HB13.out.trans (hb14.mono HB13.out.size)
       rcases hres with rfl | ⟨rfl, hno⟩
       ·go_wp2
        refine ⟨⟨j + 1, by omega, by go_num, HB14⟩, by simp [intOf]; omega⟩
       ·exfalso
        rcases HTWO.out with h | h
        ·have h2 := HSM2.out
         rw [h] at h2
         simp at h2
        ·exact hno.met h
   ·have hj4I : ¬ (j : Int) < 4 := by omega
    go_wp2
    go_ret
    exact ⟨rfl, HB09.out.trans (HBx.out.mono HB09.out.size)⟩
end Go.Proofs.Ytekegfbjbainhaa
