
import Derived.Test.YtekegfbjbainhaaKJoin27
import Derived.Test.YtekegfbjbainhaaKKS4
import Derived.Test.YtekegfbjbainhaaKKR1
import Derived.Lib.SlBytesConst
set_option linter.unusedVariables false
set_option linter.unusedSimpArgs false
namespace Go.Proofs.Ytekegfbjbainhaa
open Go.RowKit
attribute [local go_sem ↓] Go.wp_at_zero Go.wp_at_succ
theorem zero_less (o : List UInt8) : Op.bytesLess [0] (keyS (o ++ [122])) = true := by
 unfold keyS
 rw [if_neg (by simp)]
 cases o with
 | nil => decide
 | cons x r =>
  have : ((x :: r) ++ [122]).take 12 = x :: (r ++ [122]).take 11 := rfl
  rw [this]
  have h2 : ∃ y t, (r ++ [122]).take 11 = y :: t := by
   cases r with
   | nil => exact ⟨122, [], rfl⟩
   | cons y t => exact ⟨y, (t ++ [122]).take 10, rfl⟩
  obtain ⟨y, t, h2⟩ := h2
  rw [h2]
  by_cases hx : x = 0
  ·subst hx; simp [Op.bytesLess]
  ·have : 0 < x := UInt8.lt_iff_toNat_lt.2 (by have : x.toNat ≠ 0 := (fun h => hx (UInt8.toNat_inj.1 h)); simp; omega)
   simp [Op.bytesLess, this]
theorem range_of (va vb s : SlR) (fr tu li root : List UInt8) (cd : Int) (an : List ItR) (W : World) (hr : root.length = 8) (hcd : cd = ((rngC root fr tu li).1 : Int)) (han : an = (rngC root fr tu li).2) (hF : BS W va fr) (hT : BS W vb tu) (hk : keyOk fr = true) (hk' : keyOk tu = true) (hL : BS W s li) (hc : s.n ≤ s.cap) :
  Calls Try.prog 20 #[dV root, .slice va.a va.n va.cap, .slice vb.a vb.n vb.cap, .slice s.a s.n s.cap] W fun r w' => ∃ (v : SlR) (es : List (SlR × SlR)), r = .returned (.tuple #[.slice v.a v.n v.cap, .int .i64 cd]) ∧ Below W.heap.size W w' ∧ EntV w' v es an := by
 subst hcd han
 refine (checkRangeP_any va vb s fr tu li root W hr hF hT hL hc (by have := keyOk_len hk; unfold maxLen; omega) (by have := keyOk_len hk'; unfold maxLen; omega)).mono ?_
 rintro r w' ⟨v, es, rfl, h1, h2⟩
 exact ⟨v, es, rfl, h1, h2.toV⟩
theorem EntV.below {w W : World} {v : SlR} {es : List (SlR × SlR)} {l : List ItR} (h : EntV w v es l) (hb : Below w.heap.size w W) : EntV W v es l := ⟨SlV.below_all h.sl hb, h.n, h.bs.below hb⟩
theorem range_most {root fr tu p : List UInt8} {a : List ItR} (h : rangeC root fr tu p = some a) : a.length ≤ 2799360000000 := by
 unfold rangeC at h
 split at h
 ·cases h
 ·rename_i lv its r hp
  split at h
  ·cases h
  ·rename_i e s hr
   have h2 := read_most (pgO_ok hp) hr
   split at h
   ·cases h
    have := List.length_filter_le (inR fr tu) e
    omega
   ·cases h
def bP : Nat → Nat
 | 0 => 0
 | n + 1 => 60 * (1 + bP n)
theorem fold_pages {fr tu : List UInt8} {lv : Nat} (ih : ∀ (its : List ItR) (r : List UInt8) (es : List ItR) (r' : List UInt8), its.length ≤ 60 → readU fr tu lv its r = some (es, r') → (pagesN r).length ≤ (pagesN r').length + bP lv) : ∀ (xs acc : List ItR) (r : List UInt8) (es : List ItR) (r' : List UInt8), xs.foldlM (stepU (readU fr tu lv) lv) (acc, r) = some (es, r') → (pagesN r).length ≤ (pagesN r').length + xs.length * (1 + bP lv)
 | [], acc, r, es, r', h => by
  simp only [List.foldlM_nil, Option.pure_def, Option.some.injEq, Prod.mk.injEq] at h
  rw [h.2]; omega
 | x :: xs, acc, r, es, r', h => by
  rw [List.foldlM_cons] at h
  obtain ⟨⟨a1, r1⟩, hs, hf⟩ := Option.bind_eq_some_iff.1 h
  have h1 := fold_pages ih xs a1 r1 es r' hf
  have h2 : (pagesN r).length ≤ (pagesN r1).length + (1 + bP lv) := by
   unfold stepU at hs
   split at hs
   ·cases hs
   ·rename_i l its q hpg
    split at hs
    ·obtain ⟨⟨e1, e2⟩, hr, he⟩ := Option.map_eq_some_iff.1 hs
     simp only [Prod.mk.injEq] at he
     have h3 := ih its q e1 e2 (pgO_ok hpg).len hr
     obtain ⟨b, _, _, hb⟩ := pgO_pages hpg
     rw [he.2] at h3
     rw [hb, List.length_cons]
     omega
    ·cases hs
  rw [List.length_cons, Nat.succ_mul]
  omega
theorem read_pages (fr tu : List UInt8) : ∀ (lv : Nat) (its : List ItR) (r : List UInt8) (es : List ItR) (r' : List UInt8), its.length ≤ 60 → readU fr tu lv its r = some (es, r') → (pagesN r).length ≤ (pagesN r').length + bP lv
 | 0, its, r, es, r', hl, h => by
  simp only [readU, Option.some.injEq, Prod.mk.injEq] at h
  rw [h.2]; omega
 | lv + 1, its, r, es, r', hl, h => by
  have h1 := fold_pages (read_pages fr tu lv) _ _ _ _ _ h
  have h2 : (selE its fr tu its.length).length ≤ 60 := Nat.le_trans (selE_len its fr tu its.length) hl
  have h3 := Nat.mul_le_mul_right (1 + bP lv) h2
  show _ ≤ _ + 60 * (1 + bP lv)
  omega
theorem bP_six : ∀ n, n ≤ 6 → bP n ≤ 50000000000
 | 0, _ => by decide
 | 1, _ => by decide
 | 2, _ => by decide
 | 3, _ => by decide
 | 4, _ => by decide
 | 5, _ => by decide
 | 6, _ => by decide
 | n + 7, h => by omega
theorem range_pages {root fr tu p : List UInt8} {a : List ItR} (h : rangeC root fr tu p = some a) : (pagesN p).length ≤ 50000000001 := by
 unfold rangeC at h
 split at h
 ·cases h
 ·rename_i lv its r hp
  split at h
  ·cases h
  ·rename_i e s hr
   have h2 := read_pages fr tu lv its r e s (pgO_ok hp).len hr
   have h3 := bP_six lv (pgO_ok hp).le6
   obtain ⟨b, _, _, hb⟩ := pgO_pages hp
   split at h
   ·rename_i hs
    rw [hs, pagesN_short (l := []) (by decide)] at h2
    rw [hb, List.length_cons]
    simp only [List.length_nil] at h2
    omega
   ·cases h
set_option maxRecDepth 100000 in
set_option maxHeartbeats 8000000 in
theorem ranged_any (a : Option Addr) (n cap : Nat) (f : Nat → ActR) (q q2 o : List UInt8) (sr : SlR) (raw : List UInt8) (ta : Option Addr) (tn tc : Nat) (tf : Nat → TurnR) (ep : Int) (w : World) (hs : ActsAt w a n f) (hn : n ≤ 9223372036854775807) (hq : q.length ≤ 140737488351232) (hq2 : q2.length ≤ 140737488351232) (ho : o.length ≤ 140737488351232) (hr : BS w sr raw) (hrc : sr.n ≤ sr.cap) (hrl : raw.length ≤ 140737488351232) (ht : TurnsAt w ta tn tf) (htn : tn ≤ 9223372036854775807) (he : I64 ep) :
  Calls Try.prog 6 #[.slice a n cap, .string ⟨q.toArray⟩, .string ⟨q2.toArray⟩, .string ⟨o.toArray⟩, sr.val, .slice ta tn tc, .int .i64 ep] w fun e w' => e = .returned (.bool true) ∧ Below w.heap.size w w' := by
 have HHA : Hid (Calls _ _ _ _ _) := house_any a n cap f w hs hn
 have HKQ : Hid (∀ W, Calls _ _ _ W _) := fun W => key_any q W hq
 have HOL : Hid (o.length ≤ 140737488351232) := ho
 have HKT : Hid (∀ W, Calls _ _ _ W _) := fun W => key_any q2 W hq2
 have HKO : Hid (∀ (W : World) (x : Value), x = .string ⟨(o ++ [122]).toArray⟩ → Calls Try.prog 17 #[x] W fun e w' => ∃ v : SlR, e = .returned v.val ∧ BS w' v (keyS (o ++ [122])) ∧ Below W.heap.size W w' ∧ ∀ x, v.a = some x → W.heap.size ≤ x.block) := fun W x hx => hx ▸ key_wide (o ++ [122]) W (by simpa using ho)
 have HR : Hid (BS w sr raw ∧ sr.n ≤ sr.cap ∧ raw.length ≤ 140737488351232) := ⟨hr, hrc, hrl⟩
 have HTU : Hid (TurnsAt w ta tn tf ∧ tn ≤ 9223372036854775807) := ⟨ht, htn⟩
 clear hs hn hq hq2 ho hr hrc hrl ht htn
 unfold SlR.val
 go_enter Try.func6, Try.ntmps6
 go_wp2_with fail
 refine HHA.out.mono ?_
 rintro r w1 ⟨d, rfl, H1, h1⟩
 obtain ⟨m, hm⟩ : ∃ m, d.pp.length = m + 1 := ⟨d.pp.length - 1, by have := H1.lens.1; omega⟩
 have hm40 : m ≤ 39 := by have := H1.lens.1; have := H1.at_.t40; omega
 have hm40I : (m : Int) ≤ 39 := by omega
 obtain ⟨e, hee⟩ : ∃ e, e = pickN ep (m + 1) := ⟨_, rfl⟩
 have hem : e ≤ m := by have := pickN_lt ep (m + 1) (by omega); omega
 have hlt : e < d.pp.length := by omega
 have hltm : m < d.pp.length := by omega
 obtain ⟨g, g', x0, x1, x2, x3, x4, x5, x6, x7, c0, c2, c3, cp, hrx, hg, hg', k0, k1, k2, k3, k4, k5, k6, k7⟩ := hou_cells H1 hlt
 rw [hm] at c2 c3
 have hhb : d.hb < w1.heap.size := H1.at_.row.lt
 have HRX : Hid (rootB d.pp[e] = [x0, x1, x2, x3, x4, x5, x6, x7]) := hrx
 have hpdl : e < d.pd.length := by rw [H1.at_.pl]; exact hlt
 have HCE : Hid (∀ W, Below w1.heap.size w1 W → W.cell? ⟨d.hb, 0, none⟩ = some (.pointer (some ⟨d.sb, 0, none⟩)) ∧ W.cell? ⟨d.hb, 2, none⟩ = some (.slice (some ⟨g', 0, none⟩) (m + 1) d.pa.cap) ∧ W.cell? ⟨d.hb, 3, none⟩ = some (.slice (some ⟨g, 0, none⟩) (m + 1) d.dn.cap) ∧ W.cell? ⟨g', e, none⟩ = some (d.pd[e]).1.val ∧ W.cell? ⟨g, e * 18 + 1, none⟩ = some (.int .u8 (x0.toNat : Int)) ∧ W.cell? ⟨g, e * 18 + 1 + 1, none⟩ = some (.int .u8 (x1.toNat : Int)) ∧ W.cell? ⟨g, e * 18 + 1 + 2, none⟩ = some (.int .u8 (x2.toNat : Int)) ∧ W.cell? ⟨g, e * 18 + 1 + 3, none⟩ = some (.int .u8 (x3.toNat : Int)) ∧ W.cell? ⟨g, e * 18 + 1 + 4, none⟩ = some (.int .u8 (x4.toNat : Int)) ∧ W.cell? ⟨g, e * 18 + 1 + 5, none⟩ = some (.int .u8 (x5.toNat : Int)) ∧ W.cell? ⟨g, e * 18 + 1 + 6, none⟩ = some (.int .u8 (x6.toNat : Int)) ∧ W.cell? ⟨g, e * 18 + 1 + 7, none⟩ = some (.int .u8 (x7.toNat : Int))) := fun W hW => ⟨(hW.cell (p := ⟨d.hb, 0, none⟩) hhb).trans c0, (hW.cell (p := ⟨d.hb, 2, none⟩) hhb).trans c2, (hW.cell (p := ⟨d.hb, 3, none⟩) hhb).trans c3, (hW.cell (p := ⟨g', e, none⟩) hg').trans cp, (hW.cell (p := ⟨g, e * 18 + 1, none⟩) hg).trans k0, (hW.cell (p := ⟨g, e * 18 + 1 + 1, none⟩) hg).trans k1, (hW.cell (p := ⟨g, e * 18 + 1 + 2, none⟩) hg).trans k2, (hW.cell (p := ⟨g, e * 18 + 1 + 3, none⟩) hg).trans k3, (hW.cell (p := ⟨g, e * 18 + 1 + 4, none⟩) hg).trans k4, (hW.cell (p := ⟨g, e * 18 + 1 + 5, none⟩) hg).trans k5, (hW.cell (p := ⟨g, e * 18 + 1 + 6, none⟩) hg).trans k6, (hW.cell (p := ⟨g, e * 18 + 1 + 7, none⟩) hg).trans k7⟩
 have HS : Hid (Stood d.pp[e]) := H1.stood hlt
 have HSM : Hid (Stood d.pp[m]) := H1.stood hltm
 have HEV : Hid (∀ W, Below w1.heap.size w1 W → EntV W (d.pd[e]).1 (d.pd[e]).2 d.pp[e]) := fun W hW => by
  have h := (H1.below hW).at_.pds e hpdl hlt
  obtain ⟨q1, q2⟩ := SlV.ofOwn (s := (d.pd[e]).1) h.own
  exact ⟨q1, q2, h.len, h.bs⟩
 have HPRV : Hid (∀ (W : World) (sf st : SlR) (fr tu : List UInt8) (x : Int), x = (e : Int) → Below w1.heap.size w1 W → BS W sf fr → BS W st tu → keyOk fr = true → keyOk tu = true → Op.bytesLess fr tu = true → Calls Try.prog 19 #[.pointer (some ⟨d.sb, 0, none⟩), .int .i64 x, .slice sf.a sf.n sf.cap, .slice st.a st.n st.cap] W fun r w' => ∃ v : SlR, r = .returned (.tuple #[.slice v.a v.n v.cap, .int .i64 0]) ∧ OwnB w' W.heap.size v.val (prfB d.pp[e] fr tu) ∧ Below W.heap.size W w') := fun W sf st fr tu x hx hW hF hT hf ht hl => by
  subst hx
  refine (hou_range (H1.below hW) hlt sf st fr tu hF hT hf ht).mono ?_
  rintro r w' ⟨v, rfl, h1, h2⟩
  exact ⟨v, by rw [if_pos hl]; rfl, h1 hl, h2⟩
 have HPRM : Hid (∀ (W : World) (sf st : SlR) (fr tu : List UInt8) (x : Int), x = (m : Int) → Below w1.heap.size w1 W → BS W sf fr → BS W st tu → keyOk fr = true → keyOk tu = true → Op.bytesLess fr tu = true → Calls Try.prog 19 #[.pointer (some ⟨d.sb, 0, none⟩), .int .i64 x, .slice sf.a sf.n sf.cap, .slice st.a st.n st.cap] W fun r w' => ∃ v : SlR, r = .returned (.tuple #[.slice v.a v.n v.cap, .int .i64 0]) ∧ OwnB w' W.heap.size v.val (prfB d.pp[m] fr tu) ∧ Below W.heap.size W w') := fun W sf st fr tu x hx hW hF hT hf ht hl => by
  subst hx
  refine (hou_range (H1.below hW) hltm sf st fr tu hF hT hf ht).mono ?_
  rintro r w' ⟨v, rfl, h1, h2⟩
  exact ⟨v, by rw [if_pos hl]; rfl, h1 hl, h2⟩
 have HZ : Hid (∀ x ∈ d.pp[e], x.below = 0) := (H1.past hlt).norm
 have HH1 : Hid (Below w.heap.size w w1) := H1.bel
 clear hrx k0 k1 k2 k3 k4 k5 k6 k7 hg hg' cp c0 c2
 generalize d.pp[m] = lm at *
 generalize d.pp[e] = l at *
 generalize d.pd[e] = pe at *
 clear H1 h1
 obtain ⟨⟨la, ln, lc⟩, nes⟩ := pe
 simp only [SlR.val] at HCE HEV
 obtain rfl : ln = l.length := by
  have h := HEV.out _ (Below.refl _ _)
  rw [← h.bs.1]; exact h.n
 have hl60 : l.length ≤ 60 := HS.out.len
 have hl60I : (l.length : Int) ≤ 60 := by omega
 clear hpdl hlt hltm hm
 generalize d.hb = hb at *
 generalize d.sb = sb at *
 have heI : (e : Int) ≤ m := by omega
 go_wp2_with fail
 have hpk : Calls Try.prog 10 #[.int .i64 ep, .int .i64 ((m : Int) + 1)] w1 _ := pick_any ep (m + 1) w1 he.1 he.2 (by omega) (by unfold maxLen; omega)
 refine hpk.mono ?_
 rintro r w2 ⟨rfl, hw2⟩
 obtain rfl : w1 = w2 := hw2.symm
 rw [← hee]
 clear hw2 hpk hee c3
 go_wp2_with fail
 refine (HKQ.out _).mono ?_
 rintro r w2 ⟨va, rfl, ba, hb2, hn2⟩
 have HB2 : Hid (Below w1.heap.size w1 w2) := hb2
 have HBA : Hid (BS w2 va (keyS q)) := ba
 clear ba hb2 hn2
 unfold SlR.val
 go_wp2_with fail
 refine (HKT.out _).mono ?_
 rintro r w2b ⟨vb, rfl, bb, hb2, hn2⟩
 have HB2b : Hid (Below w1.heap.size w1 w2b) := HB2.out.trans (hb2.mono HB2.out.size)
 have HBA2 : Hid (BS w2b va (keyS q)) := HBA.out.below hb2
 have HBB2 : Hid (BS w2b vb (keyS q2)) := bb
 have q1 := bs_run HBA2.out (Below.refl _ _)
 have q3 := bs_run HBB2.out (Below.refl _ _)
 have HOKA : Hid (keyOk (keyS q) = true ∧ keyOk (keyS q2) = true) := ⟨keyS_ok _, keyS_ok _⟩
 have hge := geq_eq (keyS q) (keyS q2)
 clear bb hb2 hn2 HB2 HBA
 generalize keyS q = ka at *
 generalize keyS q2 = kb at *
 unfold SlR.val
 go_upto_if 53 with fail
 go_cut [18, 19] (fun av bv wx => ∃ (sa sb : SlR) (fr tu : List UInt8), av = .slice sa.a sa.n sa.cap ∧ bv = .slice sb.a sb.n sb.cap ∧ Hid (BS wx sa fr ∧ BS wx sb tu) ∧ Hid (keyOk fr = true ∧ keyOk tu = true ∧ Op.bytesLess fr tu = true) ∧ Hid (Below w2b.heap.size w2b wx))
 case first =>
  cases hkk : Op.bytesLess ka kb with
  | true =>
   rw [hkk] at hge
   simp only [Bool.not_true] at hge
   have hg1 : Op.bytesLess kb ka = false := less_asymm hkk
   have hg2 : (ka == kb) = false := by rw [hg1, Bool.false_or] at hge; exact hge
   have hg3 : ¬ ka = kb := by simpa using hg2
   have HKK : Hid (Op.bytesLess ka kb = true) := hkk
   go_wp2
   go_meet
   exact ⟨va, vb, ka, kb, rfl, rfl, ⟨HBA2.out, HBB2.out⟩, ⟨HOKA.out.1, HOKA.out.2, HKK.out⟩, Below.refl _ _⟩
  | false =>
   rw [hkk] at hge
   simp only [Bool.not_false] at hge
   have k97 : (convert 35 35 (.slice (some ⟨w2b.heap.size, 0, none⟩) 1 1)).run Try.prog (w2b.alloc (.cells #[.int .u8 97] 5)) = .ok (.slice (some ⟨w2b.heap.size, 0, none⟩) 1 1) (w2b.alloc (.cells #[.int .u8 97] 5 (1, 2))) := Lib.run_convert_bytes_const (P := Try.prog) w2b 35 5 #[.int .u8 97] 1 1 Try.underlying35 Try.underlying5
   have k98 : (convert 35 35 (.slice (some ⟨w2b.heap.size + 1, 0, none⟩) 1 1)).run Try.prog ((w2b.alloc (.cells #[.int .u8 97] 5 (1, 2))).alloc (.cells #[.int .u8 98] 5)) = .ok (.slice (some ⟨w2b.heap.size + 1, 0, none⟩) 1 1) ((w2b.alloc (.cells #[.int .u8 97] 5 (1, 2))).alloc (.cells #[.int .u8 98] 5 (1, 2))) := by
    have h := Lib.run_convert_bytes_const (P := Try.prog) (w2b.alloc (.cells #[.int .u8 97] 5 (1, 2))) 35 5 #[.int .u8 98] 1 1 Try.underlying35 Try.underlying5
    simpa using h
   have HBx1 : Hid (BS ((w2b.alloc (.cells #[.int .u8 97] 5 (1, 2))).alloc (.cells #[.int .u8 98] 5 (1, 2))) ⟨some ⟨w2b.heap.size, 0, none⟩, 1, 1⟩ [97]) := (bs_one w2b 97 5 (1, 2)).below ((Below.refl _ _).alloc (Nat.le_refl _) (.cells #[.int .u8 98] 5 (1, 2)))
   have HBx2 : Hid (BS ((w2b.alloc (.cells #[.int .u8 97] 5 (1, 2))).alloc (.cells #[.int .u8 98] 5 (1, 2))) ⟨some ⟨w2b.heap.size + 1, 0, none⟩, 1, 1⟩ [98]) := by
    have h := bs_one (w2b.alloc (.cells #[.int .u8 97] 5 (1, 2))) 98 5 (1, 2)
    unfold Hid; simpa using h
   go_wp2
   go_meet
   exact ⟨⟨some ⟨w2b.heap.size, 0, none⟩, 1, 1⟩, ⟨some ⟨w2b.heap.size + 1, 0, none⟩, 1, 1⟩, [97], [98], rfl, rfl, ⟨HBx1.out, HBx2.out⟩, ⟨by decide, by decide, by decide⟩, ((Below.refl _ _).alloc (Nat.le_refl _) _).alloc (by simp) _⟩
 case rest =>
 obtain ⟨va, vb, fr, tu, rfl, rfl, HBAB, HOK, HBc2⟩ := hcut
 have HB2c : Hid (Below w1.heap.size w1 wc) := HB2b.out.trans (HBc2.out.mono HB2b.out.size)
 clear q1 q3 hge HBA2 HBB2 HOKA HBc2 HB2b
 generalize wc = w2 at *
 have c0 := (HCE.out _ HB2c.out).1
 go_wp2_with fail
 refine (HPRV.out _ va vb fr tu _ rfl HB2c.out HBAB.out.1 HBAB.out.2 HOK.out.1 HOK.out.2.1 HOK.out.2.2).mono ?_
 rintro r w3 ⟨vp, rfl, op3, hb3⟩
 have HB3 : Hid (Below w1.heap.size w1 w3) := HB2c.out.trans (hb3.mono HB2c.out.size)
 have HVP : Hid (BS w3 vp (prfB l fr tu) ∧ vp.n ≤ vp.cap) := ownB_bs op3
 have HBA3 : Hid (BS w3 va fr ∧ BS w3 vb tu) := ⟨HBAB.out.1.below hb3, HBAB.out.2.below hb3⟩
 clear op3 hb3 c0
 have c0 := (HCE.out _ HB3.out).1
 have c3 := (HCE.out _ HB3.out).2.2.1
 have ne1 : w3.heap.size ≠ hb := World.new_ne w3 _ c0
 go_wp2
 go_cut [22, 23] (fun qv gv wx => ∃ (vq : SlR) (qb : List UInt8), qv = .slice vq.a vq.n vq.cap ∧ gv = .int .i64 0 ∧ Hid (BS wx vq qb ∧ vq.n ≤ vq.cap ∧ qb.length ≤ 1000000) ∧ Hid (Below w3.heap.size w3 wx))
 case first =>
  have HZ0 : Hid (∀ W : World, BS (W.alloc (.cells #[.int .u8 0] 5)) ⟨some ⟨W.heap.size, 0, none⟩, 1, 1⟩ [0]) := fun W => by
   have h := bs_one W 0 5 (0, 0)
   simpa using h
  have hsa : ∀ W, (Op.stringOp .add (⟨o.toArray⟩ : ByteArray) ⟨#[122]⟩).run Try.prog W = .ok (.string ⟨(o ++ [122]).toArray⟩) W := fun W => by
   have h := run_string_add_sum (P := Try.prog) (w := W) (⟨o.toArray⟩ : ByteArray) ⟨#[122]⟩ (by have := HOL.out; simp [ByteArray.size]; omega)
   rw [h]
   (try congr 2)
   (try apply ByteArray.ext)
   (try simp)
  go_region_held3 (fun W' => W'.cell? ⟨hb, 0, none⟩ = some (.pointer (some ⟨sb, 0, none⟩)) ∧ W'.cell? ⟨hb, 3, none⟩ = some (.slice (some ⟨g, 0, none⟩) (m + 1) d.dn.cap)) (go_keep)
   ((first | (go_at_call 17; refine (HKO.out _ _ (by first | rfl | simp)).mono ?_; rintro r w4 ⟨vo, rfl, bo, hb4, hn4⟩; (first | (have HB4 : Hid (Below w3.heap.size w3 w4) := (Below.refl _ _).drew.trans hb4; have HZ4 : Hid True := trivial) | (have HB4 : Hid (Below w3.heap.size w3 w4) := Below.trans (((Below.refl _ _).alloc (Nat.le_refl _) _).drew) (hb4.mono (by simp)); have HZ4 : Hid (BS w4 ⟨some ⟨w3.heap.size, 0, none⟩, 1, 1⟩ [0]) := ((HZ0.out w3).drew).below hb4)); have HBO : Hid (BS w4 vo (keyS (o ++ [122]))) := bo; have s0 := (HCE.out _ (HB3.out.trans (HB4.out.mono HB3.out.size))).1; have s3 := (HCE.out _ (HB3.out.trans (HB4.out.mono HB3.out.size))).2.2.1; have nx : w4.heap.size ≠ hb := World.new_ne w4 _ s0; unfold SlR.val; clear bo hb4 hn4) | (go_at_call 19; (first | (refine (HPRM.out _ ⟨some ⟨w3.heap.size, 0, none⟩, 1, 1⟩ vo [0] (keyS (o ++ [122])) _ (by first | rfl | (rw [IntKind.wrap_i64]; omega) | omega) (HB3.out.trans (HB4.out.mono HB3.out.size)) HZ4.out HBO.out (by decide) (keyS_ok _) (zero_less _)).mono ?_; rintro r w5 ⟨vq, rfl, op5, hb5⟩; have HB5 : Hid (Below w3.heap.size w3 w5) := HB4.out.trans (hb5.mono HB4.out.size)) | (refine (HPRM.out _ ⟨some ⟨w4.heap.size, 0, none⟩, 1, 1⟩ vo [0] (keyS (o ++ [122])) _ (by first | rfl | (rw [IntKind.wrap_i64]; omega) | omega) (by exact (HB3.out.trans (HB4.out.mono HB3.out.size)).alloc (HB3.out.trans (HB4.out.mono HB3.out.size)).size _) (by exact HZ0.out w4) (by exact HBO.out.below ((Below.refl _ _).alloc (Nat.le_refl _) _)) (by decide) (keyS_ok _) (zero_less _)).mono ?_; rintro r w5 ⟨vq, rfl, op5, hb5⟩; have HB5 : Hid (Below w3.heap.size w3 w5) := Below.trans (HB4.out.alloc HB4.out.size _) (hb5.mono (Nat.le_trans HB4.out.size (by simp)))) | (refine (HPRM.out _ ⟨some ⟨w4.heap.size, 0, none⟩, 1, 1⟩ vo [0] (keyS (o ++ [122])) _ (by first | rfl | (rw [IntKind.wrap_i64]; omega) | omega) (by exact ((HB3.out.trans (HB4.out.mono HB3.out.size)).alloc (HB3.out.trans (HB4.out.mono HB3.out.size)).size _).drew) (by exact (HZ0.out w4).drew) (by exact (HBO.out.below ((Below.refl _ _).alloc (Nat.le_refl _) _)).drew) (by decide) (keyS_ok _) (zero_less _)).mono ?_; rintro r w5 ⟨vq, rfl, op5, hb5⟩; have HB5 : Hid (Below w3.heap.size w3 w5) := Below.trans (HB4.out.alloc HB4.out.size _).drew (hb5.mono (Nat.le_trans HB4.out.size (by simp))))); have u0 := (HCE.out _ (HB3.out.trans (HB5.out.mono HB3.out.size))).1; have u3 := (HCE.out _ (HB3.out.trans (HB5.out.mono HB3.out.size))).2.2.1)))
  all_goals
   go_wp2
   go_meet
   exact ⟨vq, _, rfl, rfl, ⟨(ownB_bs op5).1, (ownB_bs op5).2, prf_short HSM.out.pastR _ _⟩, HB5⟩
 case rest =>
  obtain ⟨vq, qb, rfl, rfl, HVQ, HBc⟩ := hcut
  have HB5 : Hid (Below w1.heap.size w1 wc) := HB3.out.trans (HBc.out.mono HB3.out.size)
  obtain ⟨v0, v2, v3, vp0, _⟩ := HCE.out _ HB5.out
  have HST : Hid (Calls _ _ _ _ _) := between_any ⟨la, l.length, lc⟩ va vb nes l fr tu wc (HEV.out wc HB5.out) (HBA3.out.1.below HBc.out) (HBA3.out.2.below HBc.out) hl60
  unfold SlR.val at HST
  have heI2 : (e : Int) < (m : Int) + 1 := by omega
  clear c0 c3 ne1
  go_wp2_with fail
  refine HST.out.mono ?_
  rintro r w6 ⟨vw, esw, rfl, ev6, hb6⟩
  have HB7 : Hid (Below wc.heap.size wc w6) := hb6
  have HVW : Hid (EntV w6 vw esw (l.filter (inR fr tu))) := ev6
  clear ev6 hb6 HST v0 v2 v3 vp0
  have HB3c : Hid (Below w3.heap.size w3 w6) := HBc.out.trans (HB7.out.mono HBc.out.size)
  have HB1c : Hid (Below w1.heap.size w1 w6) := HB3.out.trans (HB3c.out.mono HB3.out.size)
  have HB0c : Hid (Below w.heap.size w w6) := HH1.out.trans (HB1c.out.mono HH1.out.size)
  have HBT : Hid (Calls _ _ _ _ _) := bent_any vp vq (prfB l fr tu) qb ta tn tc tf w6 (HVP.out.1.below HB3c.out) (HVQ.out.1.below HB7.out) HVQ.out.2.1 (prf_short HS.out.pastR _ _) HVQ.out.2.2 (fun i hi => by
   obtain ⟨b, o, h1, h2, h3, h4⟩ := HTU.out.1 i hi
   exact ⟨b, o, h1, Nat.lt_of_lt_of_le h2 HB0c.out.size, fun j v hv => (HB0c.out.cell (p := ⟨b, o + i * 3 + j, none⟩) h2).trans (h3 j v hv), h4⟩) HTU.out.2
  unfold SlR.val at HBT
  go_wp2_with fail
  refine HBT.out.mono ?_
  rintro r w8 ⟨sb8, b8, rfl, ob8, lb8, hb8⟩
  obtain ⟨W9, hW9⟩ : ∃ W9, W9 = w8.alloc (.cells #[.slice sr.a sr.n sr.cap, .slice sb8.a sb8.n sb8.cap, .slice vq.a vq.n vq.cap, .slice vp.a vp.n vp.cap] 35) := ⟨_, rfl⟩
  have hB89 : Below w8.heap.size w8 W9 := by rw [hW9]; exact (Below.refl _ _).alloc (Nat.le_refl _) _
  have hB79 : Below w6.heap.size w6 W9 := hb8.trans (hB89.mono hb8.size)
  have HB39 : Hid (Below w3.heap.size w3 W9) := HB3c.out.trans (hB79.mono HB3c.out.size)
  have HB19 : Hid (Below w1.heap.size w1 W9) := HB1c.out.trans (hB79.mono HB1c.out.size)
  have HB09 : Hid (Below w.heap.size w W9) := HB0c.out.trans (hB79.mono HB0c.out.size)
  have HWT : Hid (EntV W9 vw esw (l.filter (inR fr tu))) := HVW.out.below hB79
  have HVP9 : Hid (BS W9 vp (prfB l fr tu) ∧ vp.n ≤ vp.cap) := ⟨HVP.out.1.below HB39.out, HVP.out.2⟩
  have HK9 : Hid (BS W9 va fr ∧ BS W9 vb tu) := ⟨HBA3.out.1.below HB39.out, HBA3.out.2.below HB39.out⟩
  have HAL : Hid (∀ j, j < 4 → ∃ (s : SlR) (li : List UInt8), BS W9 s li ∧ s.n ≤ s.cap ∧ li.length ≤ 140737488351232 ∧ (j = 3 → li = prfB l fr tu) ∧ ∀ W, Below W9.heap.size W9 W → W.cell? ⟨w8.heap.size, j, none⟩ = some (.slice s.a s.n s.cap)) := fun j hj => by
   have hr9 : RowV W9 w8.heap.size 35 [.slice sr.a sr.n sr.cap, .slice sb8.a sb8.n sb8.cap, .slice vq.a vq.n vq.cap, .slice vp.a vp.n vp.cap] := by rw [hW9]; exact RowV.new w8 _ _
   have hc : ∀ (v : Value) W, Below W9.heap.size W9 W → [Value.slice sr.a sr.n sr.cap, .slice sb8.a sb8.n sb8.cap, .slice vq.a vq.n vq.cap, .slice vp.a vp.n vp.cap][j]? = some v → W.cell? ⟨w8.heap.size, j, none⟩ = some v := fun v W hW hv => (hW.cell (p := ⟨w8.heap.size, j, none⟩) hr9.lt).trans ((RowV.cell? hr9 j).trans hv)
   have hps := prf_short HS.out.pastR fr tu
   have hqs := HVQ.out.2.2
   have hj4 : j = 0 ∨ j = 1 ∨ j = 2 ∨ j = 3 := by omega
   rcases hj4 with rfl | rfl | rfl | rfl
   ·exact ⟨sr, raw, HR.out.1.below HB09.out, HR.out.2.1, HR.out.2.2, fun h => (by cases h), fun W hW => hc _ W hW rfl⟩
   ·exact ⟨sb8, b8, (ownB_bs ob8).1.below hB89, (ownB_bs ob8).2, by omega, fun h => (by cases h), fun W hW => hc _ W hW rfl⟩
   ·exact ⟨vq, qb, (HVQ.out.1.below HB7.out).below hB79, HVQ.out.2.1, by omega, fun h => (by cases h), fun W hW => hc _ W hW rfl⟩
   ·exact ⟨vp, prfB l fr tu, HVP9.out.1, HVP9.out.2, by omega, fun _ => rfl, fun W hW => hc _ W hW rfl⟩
  clear ob8 lb8 hb8 hB89 hB79 HBT HVW HB3c HB1c HB0c HB7
  have HROK : Hid (rngOk fr tu = true) := by unfold Hid rngOk; rw [HOK.out.1, HOK.out.2.1, HOK.out.2.2]; rfl
  have HRNG : Hid (rangeC (rootB l) fr tu (prfB l fr tu) = some (l.filter (inR fr tu))) := check_range HS.out HZ.out fr tu
  go_wp2
  rw [← hW9]
  clear hW9
  generalize w8.heap.size = ab at *
  go_loopw [26] (fun iv wx => ∃ j : Nat, j ≤ 4 ∧ iv = .int .i64 (j : Int) ∧ Hid (Below W9.heap.size W9 wx)) (fun iv _ => 4 - (intOf iv).toNat)
  case atStart => exact ⟨0, by omega, rfl, Below.refl _ _⟩
  case round =>
   obtain ⟨j, hj, rfl, HBx⟩ := hrel
   by_cases hj4 : j < 4
   ·have hj4I : (j : Int) < 4 := by omega
    obtain ⟨s, li, bsi, hsc, hli, hj3, hcj⟩ := HAL.out j hj4
    have HCJ : Hid (∀ W, Below W9.heap.size W9 W → W.cell? ⟨ab, j, none⟩ = some (.slice s.a s.n s.cap)) := hcj
    have HLI : Hid (BS W9 s li ∧ s.n ≤ s.cap ∧ li.length ≤ 140737488351232) := ⟨bsi, hsc, hli⟩
    have HJ3 : Hid (j = 3 → li = prfB l fr tu) := hj3
    clear bsi hsc hli hj3 hcj
    obtain ⟨cd, hcd⟩ : ∃ cd : Int, cd = ((rngC [x0, x1, x2, x3, x4, x5, x6, x7] fr tu li).1 : Int) := ⟨_, rfl⟩
    obtain ⟨an, han⟩ : ∃ an : List ItR, an = (rngC [x0, x1, x2, x3, x4, x5, x6, x7] fr tu li).2 := ⟨_, rfl⟩
    have HCHK : Hid (∀ W, Below W9.heap.size W9 W → Calls Try.prog 20 #[.agg #[.int .u8 (x0.toNat : Int), .int .u8 (x1.toNat : Int), .int .u8 (x2.toNat : Int), .int .u8 (x3.toNat : Int), .int .u8 (x4.toNat : Int), .int .u8 (x5.toNat : Int), .int .u8 (x6.toNat : Int), .int .u8 (x7.toNat : Int)], .slice va.a va.n va.cap, .slice vb.a vb.n vb.cap, .slice s.a s.n s.cap] W fun r w' => ∃ (v : SlR) (es : List (SlR × SlR)), r = .returned (.tuple #[.slice v.a v.n v.cap, .int .i64 cd]) ∧ Below W.heap.size W w' ∧ EntV w' v es an) := fun W hW => range_of va vb s fr tu li [x0, x1, x2, x3, x4, x5, x6, x7] cd an W rfl hcd han (HK9.out.1.below hW) (HK9.out.2.below hW) HOK.out.1 HOK.out.2.1 (HLI.out.1.below hW) HLI.out.2.1
    have HCD : Hid (cd = ((rngC [x0, x1, x2, x3, x4, x5, x6, x7] fr tu li).1 : Int) ∧ an = (rngC [x0, x1, x2, x3, x4, x5, x6, x7] fr tu li).2) := ⟨hcd, han⟩
    clear hcd han
    have HB1x : Hid (Below w1.heap.size w1 wr) := HB19.out.trans (HBx.out.mono HB19.out.size)
    obtain ⟨n0, n2, n3, np, nr0, nr1, nr2, nr3, nr4, nr5, nr6, nr7⟩ := HCE.out _ HB1x.out
    have nj := HCJ.out _ HBx.out
    clear n0 n2 np
    go_wp2
    go_cut [27, 28] (fun xv ev wx => ∃ (xa : SlR) (ea : List (SlR × SlR)), xv = .slice xa.a xa.n xa.cap ∧ ev = .int .i64 cd ∧ Hid (Below W9.heap.size W9 wx) ∧ Hid (EntV wx xa ea an))
    case first =>
     go_region_held3 (fun W' => W'.cell? ⟨hb, 3, none⟩ = some (.slice (some ⟨g, 0, none⟩) (m + 1) d.dn.cap) ∧ W'.cell? ⟨g, e * 18 + 1, none⟩ = some (.int .u8 (x0.toNat : Int)) ∧ W'.cell? ⟨g, e * 18 + 1 + 1, none⟩ = some (.int .u8 (x1.toNat : Int)) ∧ W'.cell? ⟨g, e * 18 + 1 + 2, none⟩ = some (.int .u8 (x2.toNat : Int)) ∧ W'.cell? ⟨g, e * 18 + 1 + 3, none⟩ = some (.int .u8 (x3.toNat : Int)) ∧ W'.cell? ⟨g, e * 18 + 1 + 4, none⟩ = some (.int .u8 (x4.toNat : Int)) ∧ W'.cell? ⟨g, e * 18 + 1 + 5, none⟩ = some (.int .u8 (x5.toNat : Int)) ∧ W'.cell? ⟨g, e * 18 + 1 + 6, none⟩ = some (.int .u8 (x6.toNat : Int)) ∧ W'.cell? ⟨g, e * 18 + 1 + 7, none⟩ = some (.int .u8 (x7.toNat : Int)) ∧ W'.cell? ⟨ab, j, none⟩ = some (.slice s.a s.n s.cap)) (go_keep)
      ((go_at_call 20; refine (HCHK.out _ (by exact HBx.out.drew)).mono ?_; rintro r w7 ⟨va7, es7, rfl, hb7, ev7⟩; have HB7x : Hid (Below W9.heap.size W9 w7) := HBx.out.drew.trans (hb7.mono HBx.out.size); obtain ⟨oz, o2, o3, op, or0, or1, or2, or3, or4, or5, or6, or7⟩ := HCE.out _ (HB19.out.trans (HB7x.out.mono HB19.out.size)); have ok := HCJ.out _ HB7x.out))
     all_goals
      go_wp2
      go_meet
      exact ⟨va7, es7, rfl, rfl, HB7x, ev7⟩
    case rest =>
     obtain ⟨xa, ea, rfl, rfl, HBz, HXz⟩ := hcut
     clear n3 nr0 nr1 nr2 nr3 nr4 nr5 nr6 nr7 nj HCHK
     have hchk : rngC [x0, x1, x2, x3, x4, x5, x6, x7] fr tu li = (match rangeC [x0, x1, x2, x3, x4, x5, x6, x7] fr tu li with
      | none => (5, [])
      | some a => (0, a)) := by unfold rngC; rw [if_pos HROK.out]; cases rangeC [x0, x1, x2, x3, x4, x5, x6, x7] fr tu li <;> rfl
     cases hcf : rangeC [x0, x1, x2, x3, x4, x5, x6, x7] fr tu li with
     | none =>
      have hc5 := HCD.out
      rw [hchk, hcf] at hc5
      obtain ⟨h5a, h5b⟩ := hc5
      obtain rfl : cd = 5 := h5a
      subst h5b
      obtain ⟨xaa, xan, xac⟩ := xa
      obtain rfl : xan = 0 := by
       have h1 : xan = ea.length := HXz.out.n
       rw [h1, HXz.out.bs.1]; rfl
      have hj3 : j ≠ 3 := fun e => by
       have h := HJ3.out e
       rw [h, ← HRX.out, HRNG.out] at hcf
       cases hcf
      have hj3I : ((j : Int) == 3) = false := by rw [Bool.eq_false_iff]; simp only [ne_eq, beq_iff_eq]; omega
      clear hj3 hchk hcf
      go_wp2
      refine ⟨⟨j + 1, by omega, by go_num, HBz⟩, by simp [intOf]; omega⟩
     | some ans =>
      have hc5 := HCD.out
      rw [hchk, hcf] at hc5
      obtain ⟨h5a, h5b⟩ := hc5
      obtain rfl : cd = 0 := h5a
      subst h5b
      have HCF : Hid (rangeC [x0, x1, x2, x3, x4, x5, x6, x7] fr tu li = some an) := hcf
      have HSA : Hid (Calls _ _ _ _ _) := same_any xa vw ea esw an (l.filter (inR fr tu)) wc HXz.out (HWT.out.below HBz.out) (range_most hcf) (by have := List.length_filter_le (inR fr tu) l; omega)
      unfold SlR.val at HSA
      have HTWO : Hid (an = l.filter (inR fr tu) ∨ Met (pagesN (prfB l fr tu)) (pagesN li)) := by
       have h1 := HRNG.out
       rw [HRX.out] at h1
       rcases range_two h1 HCF.out with h | h
       ·exact Or.inl h.symm
       ·exact Or.inr h
      clear hchk hcf
      go_wp2_with fail
      refine HSA.out.mono ?_
      rintro r w10 ⟨hsame, hb10⟩
      have HB10 : Hid (Below W9.heap.size W9 w10) := HBz.out.trans (hb10.mono HBz.out.size)
      have HPG : Hid (Calls _ _ _ _ _) := pages_any vp (prfB l fr tu) w10 (HVP9.out.1.below HB10.out) HVP9.out.2 (by have := prf_short HS.out.pastR fr tu; omega)
      unfold SlR.val at HPG
      have HPA : Hid ((pagesN (prfB l fr tu)).length ≤ 1000000 ∧ (pagesN li).length ≤ 5000000000000) := by
       have h1 := sumP_len (pagesN (prfB l fr tu))
       have h2 := (pagesN_sum _ (prfB l fr tu) (Nat.le_refl _)).1
       have h3 := prf_short HS.out.pastR fr tu
       have h4 := range_pages HCF.out
       unfold Hid; omega
      have HPB : Hid (∀ x ∈ pagesN (prfB l fr tu) ++ pagesN li, x.length ≤ 1000000000) := fun x hx => by
       rcases List.mem_append.1 hx with hx | hx
       ·have := (pagesN_sum _ (prfB l fr tu) (Nat.le_refl _)).2 x hx; omega
       ·have := (pagesN_sum _ li (Nat.le_refl _)).2 x hx; omega
      clear hb10 HSA
      rcases hsame with rfl | ⟨rfl, hne⟩
      ·go_wp2_with fail
       refine HPG.out.mono ?_
       rintro r w11 ⟨vL, rfl, hL, hb11⟩
       have HB11 : Hid (Below W9.heap.size W9 w11) := HB10.out.trans (hb11.mono HB10.out.size)
       have HL11 : Hid (StrO w11 W9.heap.size vL (pagesN (prfB l fr tu))) := owns_base hL (fun k hk => Nat.le_trans HB10.out.size (World.ownsRow.lt hL k hk).1)
       have nj := HCJ.out _ HB11.out
       have HPG2 : Hid (Calls _ _ _ _ _) := pages_wide s li w11 (HLI.out.1.below HB11.out) HLI.out.2.1 (by have := HLI.out.2.2; omega) (by have := HPA.out.2; omega)
       unfold SlR.val at HPG2
       clear hL hb11 HPG
       go_wp2_with fail
       refine HPG2.out.mono ?_
       rintro r w12 ⟨vM, rfl, hM, hb12⟩
       have HB12 : Hid (Below W9.heap.size W9 w12) := HB11.out.trans (hb12.mono HB11.out.size)
       have HL12 : Hid (StrO w12 W9.heap.size vL (pagesN (prfB l fr tu))) := owns_below HL11.out hb12
       obtain ⟨hMs, hMn⟩ := SlV.ofOwn (s := vM) hM
       have HMS : Hid (SlV w12 vM.a ((pagesN li).map strV)) := hMs
       have HMN : Hid (vM.a = none → vM.n = 0 ∧ vM.cap = 0) := fun e => by
        rcases (owns_cap (a := vM.a) (n' := vM.n) (cap := vM.cap) hM).2.2.2 with ⟨_, h1, h2⟩ | ⟨g, h1, _⟩
        ·exact ⟨by rw [hMn]; exact h1, h2⟩
        ·rw [e] at h1; cases h1
       have hMn' : vM.n = (pagesN li).length := hMn
       clear hM hMs hMn hb12 HPG2 nj
       generalize pagesN (prfB l fr tu) = L at *
       generalize pagesN li = M at *
       obtain ⟨Ma, Mn, Mc⟩ := vM
       simp only at hMn' HMS HMN
       subst hMn'
       go_wp2_with (at_builtin; refine wp_appendV (by rfl) (.tmp 153) (.tmp 158) 67 (by rfl) W9.heap.size 9 _ 1 16 Try.underlying67 Try.infoStr rfl (by decide) (.slice vL.a vL.n vL.cap) L.length (L.map strV) (by rfl) HL12.out Ma M.length Mc (M.map strV) (by rfl) (by simp) HMS.out HMN.out (str_one _) (by have := HPA.out; unfold maxLen; omega) (by have := HPA.out; omega) HB12.out.size ?_; intro v13 w13 ho13 hf13 hat13; obtain ⟨a13, c13, hv13, _⟩ := owns_form ho13; subst hv13; have HB13 : Hid (Below W9.heap.size W9 w13) := HB12.out.trans (hf13.below HB12.out.size (fun k hk => (World.ownsRow.lt HL12.out k hk).1)); have HO13 : Hid (StrO w13 W9.heap.size ⟨a13, L.length + M.length, c13⟩ (L ++ M)) := by { unfold Hid StrO; rw [List.map_append, List.length_append]; exact ho13 }; clear ho13 hf13 hat13)
       refine ⟨⟨j + 1, by omega, by go_num, HB13⟩, by simp [intOf]; omega⟩
      ·have HNE : Hid (an ≠ l.filter (inR fr tu)) := hne
       clear hne
       go_wp2_with fail
       refine HPG.out.mono ?_
       rintro r w11 ⟨vL, rfl, hL, hb11⟩
       have HB11 : Hid (Below W9.heap.size W9 w11) := HB10.out.trans (hb11.mono HB10.out.size)
       have HL11 : Hid (StrO w11 W9.heap.size vL (pagesN (prfB l fr tu))) := owns_base hL (fun k hk => Nat.le_trans HB10.out.size (World.ownsRow.lt hL k hk).1)
       have nj := HCJ.out _ HB11.out
       have HPG2 : Hid (Calls _ _ _ _ _) := pages_wide s li w11 (HLI.out.1.below HB11.out) HLI.out.2.1 (by have := HLI.out.2.2; omega) (by have := HPA.out.2; omega)
       unfold SlR.val at HPG2
       clear hL hb11 HPG
       go_wp2_with fail
       refine HPG2.out.mono ?_
       rintro r w12 ⟨vM, rfl, hM, hb12⟩
       have HB12 : Hid (Below W9.heap.size W9 w12) := HB11.out.trans (hb12.mono HB11.out.size)
       have HL12 : Hid (StrO w12 W9.heap.size vL (pagesN (prfB l fr tu))) := owns_below HL11.out hb12
       obtain ⟨hMs, hMn⟩ := SlV.ofOwn (s := vM) hM
       have HMS : Hid (SlV w12 vM.a ((pagesN li).map strV)) := hMs
       have HMN : Hid (vM.a = none → vM.n = 0 ∧ vM.cap = 0) := fun e => by
        rcases (owns_cap (a := vM.a) (n' := vM.n) (cap := vM.cap) hM).2.2.2 with ⟨_, h1, h2⟩ | ⟨g, h1, _⟩
        ·exact ⟨by rw [hMn]; exact h1, h2⟩
        ·rw [e] at h1; cases h1
       have hMn' : vM.n = (pagesN li).length := hMn
       clear hM hMs hMn hb12 HPG2 nj
       generalize pagesN (prfB l fr tu) = L at *
       generalize pagesN li = M at *
       obtain ⟨Ma, Mn, Mc⟩ := vM
       simp only at hMn' HMS HMN
       subst hMn'
       go_wp2_with (at_builtin; refine wp_appendV (by rfl) (.tmp 153) (.tmp 158) 67 (by rfl) W9.heap.size 9 _ 1 16 Try.underlying67 Try.infoStr rfl (by decide) (.slice vL.a vL.n vL.cap) L.length (L.map strV) (by rfl) HL12.out Ma M.length Mc (M.map strV) (by rfl) (by simp) HMS.out HMN.out (str_one _) (by have := HPA.out; unfold maxLen; omega) (by have := HPA.out; omega) HB12.out.size ?_; intro v13 w13 ho13 hf13 hat13; obtain ⟨a13, c13, hv13, _⟩ := owns_form ho13; subst hv13; have HB13 : Hid (Below W9.heap.size W9 w13) := HB12.out.trans (hf13.below HB12.out.size (fun k hk => (World.ownsRow.lt HL12.out k hk).1)); have HO13 : Hid (StrO w13 W9.heap.size ⟨a13, L.length + M.length, c13⟩ (L ++ M)) := by { unfold Hid StrO; rw [List.map_append, List.length_append]; exact ho13 }; clear ho13 hf13 hat13)
       have HMT : Hid (Calls _ _ _ _ _) := met_any ⟨a13, L.length + M.length, c13⟩ (L ++ M) w13 (SlV.ofOwn (s := ⟨a13, L.length + M.length, c13⟩) HO13.out).1 (by simp) (by have := HPA.out; simp; omega) HPB.out
       unfold SlR.val at HMT
       refine HMT.out.mono ?_
       rintro r w14 ⟨hres, hb14⟩
       have HB14 : Hid (Below W9.heap.size W9 w14) := HB13.out.trans (hb14.mono HB13.out.size)
       rcases hres with rfl | ⟨rfl, hno⟩
       ·go_wp2
        refine ⟨⟨j + 1, by omega, by go_num, HB14⟩, by simp [intOf]; omega⟩
       ·exfalso
        rcases HTWO.out with h | h
        ·exact HNE.out h
        ·exact hno.met h
   ·have hj4I : ¬ (j : Int) < 4 := by omega
    go_wp2
    go_ret
    exact ⟨rfl, HB09.out.trans (HBx.out.mono HB09.out.size)⟩
end Go.Proofs.Ytekegfbjbainhaa
