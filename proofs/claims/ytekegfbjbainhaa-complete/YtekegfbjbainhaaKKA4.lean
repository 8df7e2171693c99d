
import Derived.Test.YtekegfbjbainhaaKJoin25
import Derived.Deep.DeepCutAuto
import Derived.Deep.CutBlock
import Derived.Deep.RegionHeld3
set_option linter.unusedVariables false
set_option linter.unusedSimpArgs false
namespace Go.Proofs.Ytekegfbjbainhaa
open Go.RowKit
attribute [local go_sem ↓] Go.wp_at_zero Go.wp_at_succ
theorem hou_cells {w wr : World} {d : HouD} (h : Hou w d wr) {e : Nat} (he : e < d.pp.length) : ∃ (g g' : Nat) (x0 x1 x2 x3 x4 x5 x6 x7 : UInt8), wr.cell? ⟨d.hb, 0, none⟩ = some (.pointer (some ⟨d.sb, 0, none⟩)) ∧ wr.cell? ⟨d.hb, 2, none⟩ = some (.slice (some ⟨g', 0, none⟩) d.pp.length d.pa.cap) ∧ wr.cell? ⟨d.hb, 3, none⟩ = some (.slice (some ⟨g, 0, none⟩) d.pp.length d.dn.cap) ∧
  wr.cell? ⟨g', e, none⟩ = some (d.pd[e]'(by have := h.at_.pl; omega)).1.val ∧ rootB d.pp[e] = [x0, x1, x2, x3, x4, x5, x6, x7] ∧ g < wr.heap.size ∧ g' < wr.heap.size ∧ wr.cell? ⟨g, e * 18 + 1, none⟩ = some (.int .u8 (x0.toNat : Int)) ∧ wr.cell? ⟨g, e * 18 + 1 + 1, none⟩ = some (.int .u8 (x1.toNat : Int)) ∧ wr.cell? ⟨g, e * 18 + 1 + 2, none⟩ = some (.int .u8 (x2.toNat : Int)) ∧ wr.cell? ⟨g, e * 18 + 1 + 3, none⟩ = some (.int .u8 (x3.toNat : Int)) ∧ wr.cell? ⟨g, e * 18 + 1 + 4, none⟩ = some (.int .u8 (x4.toNat : Int)) ∧ wr.cell? ⟨g, e * 18 + 1 + 5, none⟩ = some (.int .u8 (x5.toNat : Int)) ∧ wr.cell? ⟨g, e * 18 + 1 + 6, none⟩ = some (.int .u8 (x6.toNat : Int)) ∧ wr.cell? ⟨g, e * 18 + 1 + 7, none⟩ = some (.int .u8 (x7.toNat : Int)) := by
 obtain ⟨l1, l2⟩ := h.lens
 have hpl := h.at_.pl
 have hdn : d.dn.n = d.tds.length := (SlV.ofOwn (s := d.dn) h.at_.don).2
 have hpn : d.pa.n = d.pd.length := (SlV.ofOwn (s := d.pa) h.at_.pst).2
 have hd := (SlV.ofOwn (s := d.dn) h.at_.don).1
 have hp := (SlV.ofOwn (s := d.pa) h.at_.pst).1
 have hr : ∀ r ∈ d.tds.map rootOf, r.length = 8 := fun r hr => by
  obtain ⟨nd, _, rfl⟩ := List.mem_map.1 hr
  exact rootOf_length nd
 have hkr : e < (d.tds.map rootOf).length := by simpa using (by omega : e < d.tds.length)
 obtain ⟨x0, x1, x2, x3, x4, x5, x6, x7, hx⟩ := list8 (rootB d.pp[e]) (rootB_length _)
 obtain ⟨g, hga, hg⟩ : ∃ g, d.dn.a = some ⟨g, 0, none⟩ ∧ g < wr.heap.size := by
  rcases (owns_cap (a := d.dn.a) (n' := d.dn.n) (cap := d.dn.cap) h.at_.don).2.2.2 with ⟨_, hz, _⟩ | ⟨g, hg, _, hlt⟩
  ·omega
  ·exact ⟨g, hg, hlt⟩
 obtain ⟨g', hga', hg'⟩ : ∃ g, d.pa.a = some ⟨g, 0, none⟩ ∧ g < wr.heap.size := by
  rcases (owns_cap (a := d.pa.a) (n' := d.pa.n) (cap := d.pa.cap) h.at_.pst).2.2.2 with ⟨_, hz, _⟩ | ⟨g, hg, _, hlt⟩
  ·omega
  ·exact ⟨g, hg, hlt⟩
 have hcell : ∀ j, j < 8 → wr.cell? ⟨g, e * 18 + 1 + j, none⟩ = ([x0, x1, x2, x3, x4, x5, x6, x7].map u8c)[j]? := fun j hj => by
  have hv := coms_root (d.tds.map rootOf) hr e j hkr hj
  rw [h.root he hkr, hx] at hv
  have hlt : e * 18 + 1 + j < (comsC (d.tds.map rootOf)).length := by
   unfold comsC
   rw [comsF_length _ _ (Nat.le_refl _) hr]
   simp at hkr ⊢
   omega
  obtain ⟨b, o, e', _, hcl⟩ := hd (e * 18 + 1 + j) hlt
  rw [hga] at e'
  cases e'
  rw [← hv, List.getElem?_eq_getElem hlt, ← hcl]
  congr 2
  omega
 refine ⟨g, g', x0, x1, x2, x3, x4, x5, x6, x7, RowV.cell? h.at_.row 0, ?_, ?_, ?_, hx, hg, hg', hcell 0 (by omega), hcell 1 (by omega), hcell 2 (by omega), hcell 3 (by omega), hcell 4 (by omega), hcell 5 (by omega), hcell 6 (by omega), hcell 7 (by omega)⟩
 ·have : wr.cell? ⟨d.hb, 2, none⟩ = some d.pa.val := RowV.cell? h.at_.row 2
  rw [this]; unfold SlR.val; rw [hga', hpn, hpl]
 ·have : wr.cell? ⟨d.hb, 3, none⟩ = some d.dn.val := RowV.cell? h.at_.row 3
  rw [this]; unfold SlR.val; rw [hga, hdn, l1]
 ·obtain ⟨b, o, e', _, hcl⟩ := hp e (by simp; omega)
  rw [hga'] at e'
  cases e'
  simpa using hcl
def KsOk (w : World) (ks : List SlR) : Prop := ∀ s ∈ ks, ∃ key, BS w s key ∧ keyOk key = true
theorem keys_one (ks : List SlR) : ∀ u ∈ ks.map SlR.val, u.oneCell' = true := fun u hu => by
 obtain ⟨s, _, rfl⟩ := List.mem_map.1 hu
 rfl
theorem Try.infoBytes : (Try.prog.info? 35).map (fun i => (i.zero, i.size, i.bytes)) = some (some (.slice none 0 0), 1, 24) := by kernel_rfl
set_option maxRecDepth 100000 in
set_option maxHeartbeats 8000000 in
theorem complete_any (a : Option Addr) (n cap : Nat) (f : Nat → ActR) (q fr tu : List UInt8) (w : World) (hs : ActsAt w a n f) (hn : n ≤ 9223372036854775807) (hq : q.length ≤ 140737488351232) (hf : fr.length ≤ 140737488351232) (ht : tu.length ≤ 140737488351232) :
  Calls Try.prog 4 #[.slice a n cap, .string ⟨q.toArray⟩, .string ⟨fr.toArray⟩, .string ⟨tu.toArray⟩] w fun e w' => e = .returned (.bool true) ∧ Below w.heap.size w w' := by
 have HHA : Hid (Calls _ _ _ _ _) := house_any a n cap f w hs hn
 have HKF : Hid (∀ W, Calls _ _ _ W _) := fun W => key_any fr W hf
 have HKT : Hid (∀ W, Calls _ _ _ W _) := fun W => key_any tu W ht
 have HKQ : Hid (∀ W, Calls _ _ _ W _) := fun W => key_any q W hq
 clear hs hn hq hf ht
 go_enter Try.func4, Try.ntmps4
 go_wp2_with fail
 refine HHA.out.mono ?_
 rintro e w1 ⟨d, rfl, H1, h1⟩
 go_wp2_with fail
 refine (HKF.out _).mono ?_
 rintro e w2 ⟨va, rfl, ba, hb2, hn2⟩
 have H2 := H1.below hb2
 unfold SlR.val
 go_wp2_with fail
 refine (HKT.out _).mono ?_
 rintro e w3 ⟨vb, rfl, bb, hb3, hn3⟩
 have HH : Hid (Hou w d w3) := H2.below hb3
 have HBA : Hid (BS w3 va (keyS fr)) := ba.below hb3
 have HBB : Hid (BS w3 vb (keyS tu)) := bb
 have h40 : d.pp.length ≤ 40 := by rw [HH.out.lens.1]; exact HH.out.at_.t40
 clear H1 H2 hb2 hb3 hn2 hn3 ba bb HHA HKF HKT
 have h40I : (d.pp.length : Int) ≤ 40 := by omega
 have HOK : Hid (keyOk (keyS fr) = true ∧ keyOk (keyS tu) = true) := ⟨keyS_ok _, keyS_ok _⟩
 generalize keyS fr = kf at *
 generalize keyS tu = kt at *
 have hdl : Hid (∀ W, Below w3.heap.size w3 W → W.cell? ⟨d.hb, 3, none⟩ = some (.slice d.dn.a d.pp.length d.dn.cap)) := fun W hW => by
  have h := HH.out.below hW
  have : W.cell? ⟨d.hb, 3, none⟩ = some d.dn.val := RowV.cell? h.at_.row 3
  rw [this]; unfold SlR.val; rw [(SlV.ofOwn (s := d.dn) h.at_.don).2, h.lens.1]
 unfold SlR.val
 go_wp2
 go_loopw [13] (fun i wr => ∃ e : Nat, e ≤ d.pp.length ∧ i = .int .i64 (e : Int) ∧ Hid (Below w3.heap.size w3 wr)) (fun i _ => d.pp.length - (intOf i).toNat)
 case atStart => exact ⟨0, by omega, rfl, Below.refl _ _⟩
 case round =>
  obtain ⟨e, hle, rfl, HB⟩ := hrel
  have r3 := hdl.out _ HB.out
  by_cases hlt : e < d.pp.length
  ·have hltI : (e : Int) < d.pp.length := by omega
   have heI : (e : Int) ≤ 40 := by omega
   obtain ⟨g, g', x0, x1, x2, x3, x4, x5, x6, x7, c0, c2, c3, cp, hrx, hg, hg', k0, k1, k2, k3, k4, k5, k6, k7⟩ := hou_cells HH.out hlt
   have hhb : d.hb < w3.heap.size := HH.out.at_.row.lt
   have HCE : Hid (∀ W, Below w3.heap.size w3 W → W.cell? ⟨d.hb, 0, none⟩ = some (.pointer (some ⟨d.sb, 0, none⟩)) ∧ W.cell? ⟨d.hb, 3, none⟩ = some (.slice (some ⟨g, 0, none⟩) d.pp.length d.dn.cap) ∧ W.cell? ⟨g, e * 18 + 1, none⟩ = some (.int .u8 (x0.toNat : Int)) ∧ W.cell? ⟨g, e * 18 + 1 + 1, none⟩ = some (.int .u8 (x1.toNat : Int)) ∧ W.cell? ⟨g, e * 18 + 1 + 2, none⟩ = some (.int .u8 (x2.toNat : Int)) ∧ W.cell? ⟨g, e * 18 + 1 + 3, none⟩ = some (.int .u8 (x3.toNat : Int)) ∧ W.cell? ⟨g, e * 18 + 1 + 4, none⟩ = some (.int .u8 (x4.toNat : Int)) ∧ W.cell? ⟨g, e * 18 + 1 + 5, none⟩ = some (.int .u8 (x5.toNat : Int)) ∧ W.cell? ⟨g, e * 18 + 1 + 6, none⟩ = some (.int .u8 (x6.toNat : Int)) ∧ W.cell? ⟨g, e * 18 + 1 + 7, none⟩ = some (.int .u8 (x7.toNat : Int))) := fun W hW => ⟨(hW.cell (p := ⟨d.hb, 0, none⟩) hhb).trans c0, (hW.cell (p := ⟨d.hb, 3, none⟩) hhb).trans c3, (hW.cell (p := ⟨g, e * 18 + 1, none⟩) hg).trans k0, (hW.cell (p := ⟨g, e * 18 + 1 + 1, none⟩) hg).trans k1, (hW.cell (p := ⟨g, e * 18 + 1 + 2, none⟩) hg).trans k2, (hW.cell (p := ⟨g, e * 18 + 1 + 3, none⟩) hg).trans k3, (hW.cell (p := ⟨g, e * 18 + 1 + 4, none⟩) hg).trans k4, (hW.cell (p := ⟨g, e * 18 + 1 + 5, none⟩) hg).trans k5, (hW.cell (p := ⟨g, e * 18 + 1 + 6, none⟩) hg).trans k6, (hW.cell (p := ⟨g, e * 18 + 1 + 7, none⟩) hg).trans k7⟩
   have c2 : wr.cell? ⟨d.hb, 2, none⟩ = some (.slice (some ⟨g', 0, none⟩) d.pp.length d.pa.cap) := (HB.out.cell (p := ⟨d.hb, 2, none⟩) hhb).trans c2
   have cp : wr.cell? ⟨g', e, none⟩ = some (d.pd[e]'(by rw [HH.out.at_.pl]; exact hlt)).1.val := (HB.out.cell (p := ⟨g', e, none⟩) hg').trans cp
   have c3 := (HCE.out _ HB.out).2.1
   have HPRV : Hid (∀ (W : World) (sk : SlR) (key : List UInt8), Below w3.heap.size w3 W → BS W sk key → keyOk key = true → Calls Try.prog 15 #[.pointer (some ⟨d.sb, 0, none⟩), .int .i64 (e : Int), .slice sk.a sk.n sk.cap] W fun r w' => ∃ v : SlR, r = .returned (.tuple #[.slice v.a v.n v.cap, .int .i64 0]) ∧ OwnB w' W.heap.size v.val (prfB d.pp[e] key key) ∧ Below W.heap.size W w') := fun W sk key hW hK hk => hou_prove (HH.out.below hW) hlt sk key hK hk
   have HPRR : Hid (∀ (W : World), Below w3.heap.size w3 W → Calls Try.prog 19 #[.pointer (some ⟨d.sb, 0, none⟩), .int .i64 (e : Int), .slice va.a va.n va.cap, .slice vb.a vb.n vb.cap] W fun r w' => ∃ v : SlR, r = .returned (.tuple #[.slice v.a v.n v.cap, .int .i64 (if Op.bytesLess kf kt = true then 0 else 1)]) ∧ (Op.bytesLess kf kt = true → OwnB w' W.heap.size v.val (prfB d.pp[e] kf kt)) ∧ Below W.heap.size W w') := fun W hW => hou_range (HH.out.below hW) hlt va vb kf kt (HBA.out.below hW) (HBB.out.below hW) HOK.out.1 HOK.out.2
   have HS : Hid (Stood d.pp[e]) := HH.out.stood hlt
   have HZ : Hid (∀ x ∈ d.pp[e], x.below = 0) := (HH.out.past hlt).norm
   have hpdl : e < d.pd.length := by rw [HH.out.at_.pl]; exact hlt
   have HEV : Hid (∀ W, Below w3.heap.size w3 W → EntV W (d.pd[e]).1 (d.pd[e]).2 d.pp[e]) := fun W hW => by
    have h := (HH.out.below hW).at_.pds e hpdl hlt
    obtain ⟨q1, q2⟩ := SlV.ofOwn (s := (d.pd[e]).1) h.own
    exact ⟨q1, q2, h.len, h.bs⟩
   have HRX : Hid (rootB d.pp[e] = [x0, x1, x2, x3, x4, x5, x6, x7]) := hrx
   clear hrx r3 c0 hg hg' k0 k1 k2 k3 k4 k5 k6 k7
   generalize d.pp[e] = l at *
   generalize hpd : d.pd[e] = pe at *
   obtain ⟨⟨la, ln, lc⟩, nes⟩ := pe
   simp only [SlR.val] at cp HEV
   obtain rfl : ln = l.length := by
    have h := HEV.out _ HB.out
    rw [← h.bs.1]; exact h.n
   have hl60 : l.length ≤ 60 := HS.out.len
   have hl60I : (l.length : Int) ≤ 60 := by omega
   go_wp2_with fail
   refine (HKQ.out _).mono ?_
   rintro r w4 ⟨v0, rfl, b0, hb4, hn4⟩
   have HB4 : Hid (Below w3.heap.size w3 w4) := HB.out.trans (hb4.mono HB.out.size)
   have HK4 : Hid (BS w4 v0 (keyS q)) := b0
   have HKS : Hid (KsOk w4 [v0, va, vb]) := fun s hs => by
    simp only [List.mem_cons, List.not_mem_nil, or_false] at hs
    rcases hs with rfl | rfl | rfl
    ·exact ⟨_, HK4.out, keyS_ok _⟩
    ·exact ⟨_, HBA.out.below HB4.out, HOK.out.1⟩
    ·exact ⟨_, HBB.out.below HB4.out, HOK.out.2⟩
   have HW5 : Hid ((w4.alloc (.cells #[.slice v0.a v0.n v0.cap, .slice va.a va.n va.cap, .slice vb.a vb.n vb.cap] 35)).ownsRow w4.heap.size 35 1 (.slice (some ⟨w4.heap.size, 0, none⟩) 3 3) [v0, va, vb].length ([v0, va, vb].map SlR.val)) := owns_built w4 w4.heap.size 35 1 3 ([v0, va, vb].map SlR.val) (Nat.le_refl _) rfl (by decide)
   have HB5 : Hid (Below w4.heap.size w4 (w4.alloc (.cells #[.slice v0.a v0.n v0.cap, .slice va.a va.n va.cap, .slice vb.a vb.n vb.cap] 35))) := (Below.refl _ _).alloc (Nat.le_refl _) _
   have HEN : Hid (SlV w4 la (entsC nes) ∧ BsL w4 nes l) := ⟨(HEV.out _ HB4.out).sl, (HEV.out _ HB4.out).bs⟩
   have HC3 : Hid (∀ W, Below w4.heap.size w4 W → W.cell? ⟨d.hb, 3, none⟩ = some (.slice d.dn.a d.pp.length d.dn.cap)) := fun W hW => hdl.out _ (HB4.out.trans (hW.mono HB4.out.size))
   clear b0 hb4 hn4 c2 c3 cp
   unfold SlR.val
   go_upto_block 2 with fail
   go_cut [15] (fun kv wx => ∃ (v : SlR) (ks : List SlR), kv = .slice v.a v.n v.cap ∧ Hid (Below w4.heap.size w4 wx) ∧ Hid (SlV wx v.a (ks.map SlR.val) ∧ v.n = ks.length ∧ ks.length ≤ 63) ∧ Hid (KsOk w4 ks))
   case first =>
    go_wp2_with fail
    go_loopw [15, 16] (fun kv i wx => ∃ (k : Nat) (v : SlR) (ks : List SlR), k ≤ l.length ∧ i = .int .i64 (k : Int) ∧ kv = .slice v.a v.n v.cap ∧ Hid (Below w4.heap.size w4 wx) ∧ Hid (wx.ownsRow w4.heap.size 35 1 (.slice v.a v.n v.cap) ks.length (ks.map SlR.val)) ∧ Hid (KsOk w4 ks ∧ ks.length = k + 3)) (fun _ i _ => l.length - (intOf i).toNat)
    case atStart => exact ⟨0, ⟨some ⟨w4.heap.size, 0, none⟩, 3, 3⟩, [v0, va, vb], by omega, rfl, rfl, HB5, HW5, HKS.out, rfl⟩
    case round =>
     obtain ⟨k, v, ks, hk, rfl, rfl, HBx, HOx, HKx⟩ := hrel
     have t3 := HC3.out _ HBx.out
     have hkI : (k : Int) ≤ 60 := by omega
     have HMT : Hid (SlV wr v.a (ks.map SlR.val) ∧ v.n = ks.length ∧ ks.length ≤ 63) := by
      obtain ⟨q1, q2⟩ := SlV.ofOwn (s := v) HOx.out
      exact ⟨q1, q2, by have := HKx.out.2; omega⟩
     by_cases hkl : k < l.length
     ·have hklI : (k : Int) < l.length := by omega
      have h7 : Int.tmod (e : Int) 7 = ((e % 7 : Nat) : Int) := by
       have := tmod_nat e 7
       simpa using this
      by_cases h70 : e % 7 = 0
      ·have h7b : ((e : Int).tmod 7 == 0) = true := by rw [h7, h70]; rfl
       clear h7
       have hkn : k < nes.length := by rw [HEN.out.2.1]; exact hkl
       obtain ⟨b, o, hca, hbb, z0, z1⟩ := entsC_cells HEN.out.1 k hkn
       subst hca
       have d0 : wr.cell? ⟨b, o + k * 2, none⟩ = some (.slice nes[k].1.a nes[k].1.n nes[k].1.cap) := by rw [HBx.out.cell (p := ⟨b, o + k * 2, none⟩) hbb]; exact z0
       have HP1 : Hid (BS w4 nes[k].1 l[k].key) := (HEN.out.2.2 k hkn hkl).1
       have HPK : Hid (keyOk l[k].key = true) := by
        have := HS.out.key _ (List.getElem_mem hkl)
        unfold Hid keyOk; simp; omega
       clear z0 z1
       generalize nes[k].1 = s1 at *
       generalize l[k].key = xk at *
       go_wp2_with (first
        | (at_builtin; have HBe : Hid (Below wr.heap.size wr (wr.alloc (.cells #[.slice s1.a s1.n s1.cap] 35))) := (Below.refl _ _).alloc (Nat.le_refl _) _; refine wp_appendV (by rfl) (.tmp 81) (.tmp 87) 57 (by rfl) w4.heap.size 35 _ 1 24 Try.underlying57 Try.infoBytes rfl (by decide) (.slice v.a v.n v.cap) ks.length (ks.map SlR.val) (by rfl) (owns_below HOx.out HBe.out) (some ⟨wr.heap.size, 0, none⟩) 1 1 ([s1].map SlR.val) (by rfl) rfl (SlV.alloc_new wr ([s1].map SlR.val) _) (fun h => by cases h) (keys_one _) (by have := HMT.out.2.2; unfold maxLen; omega) (by have := HMT.out.2.2; omega) (Nat.le_trans HBx.out.size HBe.out.size) ?_; intro v6 w6 ho6 hf6 hat6; obtain ⟨a6, c6, hv6, _⟩ := owns_form ho6; subst hv6; have HB6 : Hid (Below w4.heap.size w4 w6) := (HBx.out.trans (HBe.out.mono HBx.out.size)).trans (hf6.below (Nat.le_trans HBx.out.size HBe.out.size) (fun q hq => (World.ownsRow.lt HOx.out q hq).1)); have HO6 : Hid (w6.ownsRow w4.heap.size 35 1 (.slice a6 (ks.length + 1) c6) (ks ++ [s1]).length ((ks ++ [s1]).map SlR.val)) := by { unfold Hid; rw [List.map_append, show (ks ++ [s1]).length = ks.length + 1 from List.length_append]; exact ho6 }))
       refine ⟨⟨k + 1, ⟨a6, ks.length + 1, c6⟩, ks ++ [s1], by omega, by go_num, rfl, HB6, HO6, ?_, by have := HKx.out.2; simp; omega⟩, by simp [intOf]; omega⟩
       intro s hs
       rcases List.mem_append.1 hs with hs | hs
       ·exact HKx.out.1 s hs
       ·rw [List.mem_singleton.1 hs]; exact ⟨xk, HP1.out, HPK.out⟩
      ·have h7b : ((e : Int).tmod 7 == 0) = false := by rw [h7, Bool.eq_false_iff]; simp only [ne_eq, beq_iff_eq]; omega
       clear h7
       by_cases hN : e + 1 = d.pp.length
       ·have hNb : ((e : Int) + 1 == d.pp.length) = true := by simp only [beq_iff_eq]; omega
        clear hN
        have hkn : k < nes.length := by rw [HEN.out.2.1]; exact hkl
        obtain ⟨b, o, hca, hbb, z0, z1⟩ := entsC_cells HEN.out.1 k hkn
        subst hca
        have d0 : wr.cell? ⟨b, o + k * 2, none⟩ = some (.slice nes[k].1.a nes[k].1.n nes[k].1.cap) := by rw [HBx.out.cell (p := ⟨b, o + k * 2, none⟩) hbb]; exact z0
        have HP1 : Hid (BS w4 nes[k].1 l[k].key) := (HEN.out.2.2 k hkn hkl).1
        have HPK : Hid (keyOk l[k].key = true) := by
         have := HS.out.key _ (List.getElem_mem hkl)
         unfold Hid keyOk; simp; omega
        clear z0 z1
        generalize nes[k].1 = s1 at *
        generalize l[k].key = xk at *
        go_wp2_with (first
         | (at_builtin; have HBe : Hid (Below wr.heap.size wr (wr.alloc (.cells #[.slice s1.a s1.n s1.cap] 35))) := (Below.refl _ _).alloc (Nat.le_refl _) _; refine wp_appendV (by rfl) (.tmp 81) (.tmp 87) 57 (by rfl) w4.heap.size 35 _ 1 24 Try.underlying57 Try.infoBytes rfl (by decide) (.slice v.a v.n v.cap) ks.length (ks.map SlR.val) (by rfl) (owns_below HOx.out HBe.out) (some ⟨wr.heap.size, 0, none⟩) 1 1 ([s1].map SlR.val) (by rfl) rfl (SlV.alloc_new wr ([s1].map SlR.val) _) (fun h => by cases h) (keys_one _) (by have := HMT.out.2.2; unfold maxLen; omega) (by have := HMT.out.2.2; omega) (Nat.le_trans HBx.out.size HBe.out.size) ?_; intro v6 w6 ho6 hf6 hat6; obtain ⟨a6, c6, hv6, _⟩ := owns_form ho6; subst hv6; have HB6 : Hid (Below w4.heap.size w4 w6) := (HBx.out.trans (HBe.out.mono HBx.out.size)).trans (hf6.below (Nat.le_trans HBx.out.size HBe.out.size) (fun q hq => (World.ownsRow.lt HOx.out q hq).1)); have HO6 : Hid (w6.ownsRow w4.heap.size 35 1 (.slice a6 (ks.length + 1) c6) (ks ++ [s1]).length ((ks ++ [s1]).map SlR.val)) := by { unfold Hid; rw [List.map_append, show (ks ++ [s1]).length = ks.length + 1 from List.length_append]; exact ho6 }))
        refine ⟨⟨k + 1, ⟨a6, ks.length + 1, c6⟩, ks ++ [s1], by omega, by go_num, rfl, HB6, HO6, ?_, by have := HKx.out.2; simp; omega⟩, by simp [intOf]; omega⟩
        intro s hs
        rcases List.mem_append.1 hs with hs | hs
        ·exact HKx.out.1 s hs
        ·rw [List.mem_singleton.1 hs]; exact ⟨xk, HP1.out, HPK.out⟩
       ·have hNb : ((e : Int) + 1 == d.pp.length) = false := by rw [Bool.eq_false_iff]; simp only [ne_eq, beq_iff_eq]; omega
        have hNI : ¬ (e : Int) + 1 = d.pp.length := by omega
        clear hN
        go_wp2
        go_meet
        exact ⟨v, ks, rfl, HBx, HMT, HKx.out.1⟩
     ·have hklI : ¬ (k : Int) < l.length := by omega
      go_wp2
      go_meet
      exact ⟨v, ks, rfl, HBx, HMT, HKx.out.1⟩
   case rest =>
    obtain ⟨v, ks, rfl, HBc, HMT, HKx⟩ := hcut
    have hks63 : (ks.length : Int) ≤ 63 := by have := HMT.out.2.2; omega
    have hvn : v.n = ks.length := HMT.out.2.1
    obtain ⟨kva, kvn, kvc⟩ := v
    simp only at hvn
    subst hvn
    have HVK : Hid (SlV wc kva (ks.map SlR.val)) := HMT.out.1
    clear HMT
    go_upto_block 4 with fail
    go_cut [] (fun wx => Hid (Below w4.heap.size w4 wx))
    case first =>
     go_wp2_with fail
     go_loopw [17] (fun i wx => ∃ k : Nat, k ≤ ks.length ∧ i = .int .i64 (k : Int) ∧ Hid (Below wc.heap.size wc wx)) (fun i _ => ks.length - (intOf i).toNat)
     case atStart => exact ⟨0, by omega, rfl, Below.refl _ _⟩
     case round =>
      obtain ⟨k, hk, rfl, HBx⟩ := hrel
      have HB4x : Hid (Below w4.heap.size w4 wr) := HBc.out.trans (HBx.out.mono HBc.out.size)
      by_cases hkl : k < ks.length
      ·have hklI : (k : Int) < ks.length := by omega
       obtain ⟨key, bk, hok⟩ := HKx.out ks[k] (List.getElem_mem hkl)
       obtain ⟨kb, ko, hka, hkb, ck⟩ := HVK.out k (by simpa using hkl)
       subst hka
       simp only [List.getElem_map] at ck
       have HCK : Hid (∀ W, Below wc.heap.size wc W → W.cell? ⟨kb, ko + k, none⟩ = some (.slice ks[k].a ks[k].n ks[k].cap)) := fun W hW => (hW.cell (p := ⟨kb, ko + k, none⟩) hkb).trans ck
       have HBK : Hid (BS w4 ks[k] key) := bk
       have HOKK : Hid (keyOk key = true) := hok
       clear ck bk hok
       generalize ks[k] = sk at *
       have HB3x : Hid (Below w3.heap.size w3 wr) := HB4.out.trans (HB4x.out.mono HB4.out.size)
       have ck := HCK.out _ HBx.out
       have c0 := (HCE.out _ HB3x.out).1
       go_wp2
       go_region_held3 (fun W' => W'.cell? ⟨d.hb, 0, none⟩ = some (.pointer (some ⟨d.sb, 0, none⟩)) ∧ W'.cell? ⟨kb, ko + k, none⟩ = some (.slice sk.a sk.n sk.cap)) (go_keep)
        ((go_at_call 15; refine (HPRV.out _ sk key (by exact HB3x.out.drew) (by exact (HBK.out.below HB4x.out).drew) HOKK.out).mono ?_; rintro r w5 ⟨vp, rfl, op5, hb5⟩; have HBw5 : Hid (Below wr.heap.size wr w5) := (Below.refl _ _).drew.trans hb5; have HB5x : Hid (Below wc.heap.size wc w5) := HBx.out.drew.trans (hb5.mono HBx.out.size); have m0 := (HCE.out _ (HB4.out.trans ((HBc.out.trans (HB5x.out.mono HBc.out.size)).mono HB4.out.size))).1; have m1 := HCK.out _ HB5x.out))
       have HP5 : Hid (BS w5 vp (prfB l key key) ∧ vp.n ≤ vp.cap) := ownB_bs op5
       have HCHK : Hid (∀ W, Below w5.heap.size w5 W → Calls Try.prog 16 #[.agg #[Value.int .u8 (x0.toNat : Int), Value.int .u8 (x1.toNat : Int), Value.int .u8 (x2.toNat : Int), Value.int .u8 (x3.toNat : Int), Value.int .u8 (x4.toNat : Int), Value.int .u8 (x5.toNat : Int), Value.int .u8 (x6.toNat : Int), Value.int .u8 (x7.toNat : Int)], .slice sk.a sk.n sk.cap, .slice vp.a vp.n vp.cap] W fun r w' => ∃ v : SlR, r = .returned (.tuple #[.agg #[.bool (findM key l).isSome, .slice v.a v.n v.cap], .int .i64 0]) ∧ Below W.heap.size W w' ∧ BS w' v ((findM key l).getD []) ∧ ∀ x, v.a = some x → W.heap.size ≤ x.block) := fun W hW => hou_check HS.out [x0, x1, x2, x3, x4, x5, x6, x7] HRX.out.symm sk vp key W ((HBK.out.below HB4x.out).below (HBw5.out.trans (hW.mono HBw5.out.size))) HOKK.out (HP5.out.1.below hW) HP5.out.2
       obtain ⟨nz, n3, nr0, nr1, nr2, nr3, nr4, nr5, nr6, nr7⟩ := HCE.out _ (HB4.out.trans ((HBc.out.trans (HB5x.out.mono HBc.out.size)).mono HB4.out.size)); have nk := HCK.out _ HB5x.out
       clear op5 hb5 m0 m1 c0 ck
       have ne1 : w5.heap.size ≠ d.hb := World.new_ne w5 _ n3
       have ne2 : w5.heap.size ≠ g := World.new_ne w5 _ nr0
       have ne3 : w5.heap.size ≠ kb := World.new_ne w5 _ nk
       go_wp2
       go_cut [20, 21] (fun av ev wx => ∃ (ab : Nat) (x7 : SlR), av = .pointer (some ⟨ab, 0, none⟩) ∧ ev = .int .i64 0 ∧ Hid (Below wc.heap.size wc wx) ∧ Hid (RowV wx ab 40 [.bool (findM key l).isSome, .slice x7.a x7.n x7.cap]) ∧ Hid (BS wx x7 ((findM key l).getD [])))
       case first =>
        go_region_held3 (fun W' => W'.cell? ⟨d.hb, 3, none⟩ = some (.slice (some ⟨g, 0, none⟩) d.pp.length d.dn.cap) ∧ W'.cell? ⟨g, e * 18 + 1, none⟩ = some (.int .u8 (x0.toNat : Int)) ∧ W'.cell? ⟨g, e * 18 + 1 + 1, none⟩ = some (.int .u8 (x1.toNat : Int)) ∧ W'.cell? ⟨g, e * 18 + 1 + 2, none⟩ = some (.int .u8 (x2.toNat : Int)) ∧ W'.cell? ⟨g, e * 18 + 1 + 3, none⟩ = some (.int .u8 (x3.toNat : Int)) ∧ W'.cell? ⟨g, e * 18 + 1 + 4, none⟩ = some (.int .u8 (x4.toNat : Int)) ∧ W'.cell? ⟨g, e * 18 + 1 + 5, none⟩ = some (.int .u8 (x5.toNat : Int)) ∧ W'.cell? ⟨g, e * 18 + 1 + 6, none⟩ = some (.int .u8 (x6.toNat : Int)) ∧ W'.cell? ⟨g, e * 18 + 1 + 7, none⟩ = some (.int .u8 (x7.toNat : Int)) ∧ W'.cell? ⟨kb, ko + k, none⟩ = some (.slice sk.a sk.n sk.cap)) (go_keep)
         ((go_at_call 16; first | (refine (HCHK.out _ (by exact (Below.refl _ _).drew)).mono ?_; rintro r w7 ⟨va7, rfl, hb7, bs7, ge7⟩; have HB57 : Hid (Below w5.heap.size w5 w7) := (Below.refl _ _).drew.trans hb7; have HB7x : Hid (Below wc.heap.size wc w7) := HB5x.out.trans (HB57.out.mono HB5x.out.size); obtain ⟨oz, o3, or0, or1, or2, or3, or4, or5, or6, or7⟩ := HCE.out _ (HB4.out.trans ((HBc.out.trans (HB7x.out.mono HBc.out.size)).mono HB4.out.size)); have ok := HCK.out _ HB7x.out) | (refine (HCHK.out _ (by exact ((Below.refl _ _).alloc (Nat.le_refl _) _).drew)).mono ?_; rintro r w7 ⟨va7, rfl, hb7, bs7, ge7⟩; have HB57 : Hid (Below w5.heap.size w5 w7) := Below.trans (((Below.refl _ _).alloc (Nat.le_refl _) _).drew) (hb7.mono (by simp)); have hT7 : RowV w7 w5.heap.size 40 [.bool false, .slice none 0 0] := RowV.below (by exact (RowV.new w5 40 [.bool false, .slice none 0 0])) (by simp) hb7; have y0 : w7.cell? ⟨w5.heap.size, 0, none⟩ = some (.bool false) := RowV.cell? hT7 0; have y1 : w7.cell? ⟨w5.heap.size, 1, none⟩ = some (.slice none 0 0) := RowV.cell? hT7 1; have y2 : w7.frozen? ⟨w5.heap.size, 0, none⟩ = false := RowV.frozen hT7 0; have y3 : w7.frozen? ⟨w5.heap.size, 1, none⟩ = false := RowV.frozen hT7 1; have HB7x : Hid (Below wc.heap.size wc w7) := HB5x.out.trans (HB57.out.mono HB5x.out.size); obtain ⟨oz, o3, or0, or1, or2, or3, or4, or5, or6, or7⟩ := HCE.out _ (HB4.out.trans ((HBc.out.trans (HB7x.out.mono HBc.out.size)).mono HB4.out.size)); have ok := HCK.out _ HB7x.out)))
        all_goals
         go_wp2
         go_meet
         first
          | exact ⟨w7.heap.size, va7, rfl, rfl, HB7x.out.alloc HB7x.out.size _, RowV.new w7 40 [.bool (findM key l).isSome, .slice va7.a va7.n va7.cap], bs7.below ((Below.refl _ _).alloc (Nat.le_refl _) _)⟩
          | (have hfs : Frame (fun k => k = w5.heap.size) w7 ((w7.setCell ⟨w5.heap.size, 0, none⟩ (.bool (findM key l).isSome)).setCell ⟨w5.heap.size, 1, none⟩ (.slice va7.a va7.n va7.cap)) := Frame.setCell (S := fun k => k = w5.heap.size) (Frame.setCell (S := fun k => k = w5.heap.size) (Frame.refl _ _) (p := ⟨w5.heap.size, 0, none⟩) rfl _) (p := ⟨w5.heap.size, 1, none⟩) rfl _; exact ⟨w5.heap.size, va7, rfl, rfl, HB7x.out.trans (hfs.below HB7x.out.size (fun k hk => by rw [hk]; exact HB5x.out.size)), (hT7.set 0 _).set 1 _, bs7.frame hfs (fun x hx e => by have := ge7 x hx; simp at this; omega)⟩)
       case rest =>
        obtain ⟨ab, x7, rfl, rfl, HBz, HRz, HXz⟩ := hcut
        have HB4z : Hid (Below w4.heap.size w4 wc) := HBc.out.trans (HBz.out.mono HBc.out.size)
        have HST : Hid (∀ W, Below w4.heap.size w4 W → Calls Try.prog 12 #[.slice la l.length lc, .slice sk.a sk.n sk.cap] W fun r w' => ∃ x : SlR, r = .returned (.agg #[.bool (findM key l).isSome, .slice x.a x.n x.cap]) ∧ BS w' x ((findM key l).getD []) ∧ Below W.heap.size W w') := fun W hW => by
         have hE := HEV.out W (HB4.out.trans (hW.mono HB4.out.size))
         exact stood_any ⟨la, l.length, lc⟩ sk nes l key W hE.sl hE.n hE.bs (HBK.out.below hW) hl60
        have HSA : Hid (∀ (W : World) (x1 x2 : SlR), BS W x1 ((findM key l).getD []) → BS W x2 ((findM key l).getD []) → Calls Try.prog 18 #[.agg #[.bool (findM key l).isSome, .slice x1.a x1.n x1.cap], .agg #[.bool (findM key l).isSome, .slice x2.a x2.n x2.cap]] W fun r w' => r = .returned (.bool true) ∧ Below W.heap.size W w') := fun W x1 x2 g1 g2 => by
         have h := same_answer (findM key l).isSome (findM key l).isSome x1 x2 _ _ W g1 g2
         simpa [SlR.val] using h
        have z0 : wc.cell? ⟨ab, 0, none⟩ = some (.bool (findM key l).isSome) := RowV.cell? HRz.out 0
        have z1 : wc.cell? ⟨ab, 1, none⟩ = some (.slice x7.a x7.n x7.cap) := RowV.cell? HRz.out 1
        have zk := HCK.out _ HBz.out
        have hab := HRz.out.lt
        clear nz n3 nr0 nr1 nr2 nr3 nr4 nr5 nr6 nr7 nk ne1 ne2 ne3 HCHK HP5
        generalize (findM key l).isSome = fb at *
        generalize (findM key l).getD [] = fy at *
        go_wp2
        go_region_held3 (fun W' => W'.cell? ⟨ab, 0, none⟩ = some (.bool fb) ∧ W'.cell? ⟨ab, 1, none⟩ = some (.slice x7.a x7.n x7.cap) ∧ W'.cell? ⟨kb, ko + k, none⟩ = some (.slice sk.a sk.n sk.cap)) (go_keep)
         ((first | (go_at_call 12; refine (HST.out _ (by exact HB4z.out.drew)).mono ?_; rintro r w8 ⟨x8, rfl, bs8, hb8⟩; have HB8 : Hid (Below wc.heap.size wc w8) := (Below.refl _ _).drew.trans hb8; have s0 : w8.cell? ⟨ab, 0, none⟩ = some (.bool fb) := (HB8.out.cell (p := ⟨ab, 0, none⟩) hab).trans z0; have s1 : w8.cell? ⟨ab, 1, none⟩ = some (.slice x7.a x7.n x7.cap) := (HB8.out.cell (p := ⟨ab, 1, none⟩) hab).trans z1; have sk8 := HCK.out _ (HBz.out.trans (HB8.out.mono HBz.out.size))) | (go_at_call 18; refine (HSA.out _ x7 x8 (HXz.out.below HB8.out) bs8).mono ?_; rintro r w9 ⟨rfl, hb9⟩; have HB9 : Hid (Below wc.heap.size wc w9) := HB8.out.trans (hb9.mono HB8.out.size); have t0 : w9.cell? ⟨ab, 0, none⟩ = some (.bool fb) := (HB9.out.cell (p := ⟨ab, 0, none⟩) hab).trans z0; have t1 : w9.cell? ⟨ab, 1, none⟩ = some (.slice x7.a x7.n x7.cap) := (HB9.out.cell (p := ⟨ab, 1, none⟩) hab).trans z1; have tk9 := HCK.out _ (HBz.out.trans (HB9.out.mono HBz.out.size)))))
        all_goals
         go_wp2
         refine ⟨⟨k + 1, by omega, by go_num, HBz.out.trans (HB9.out.mono HBz.out.size)⟩, by simp [intOf]; omega⟩
      ·have hklI : ¬ (k : Int) < ks.length := by omega
       go_wp2
       go_meet
       exact HB4x
    case rest =>
     have HBf : Hid (Below w3.heap.size w3 wc) := HB4.out.trans (hcut.out.mono HB4.out.size)
     obtain ⟨f0, f3, fr0, fr1, fr2, fr3, fr4, fr5, fr6, fr7⟩ := HCE.out _ HBf.out
     clear hcut
     go_wp2_with fail
     refine (HPRR.out _ HBf.out).mono ?_
     rintro r w6 ⟨vr, rfl, hown, hb6⟩
     have HBg : Hid (Below w3.heap.size w3 w6) := HBf.out.trans (hb6.mono HBf.out.size)
     have q1 := bs_run HBA.out HBg.out
     have q2 := bs_run HBB.out HBg.out
     have hge := geq_eq kf kt
     obtain ⟨g0, g3, gr0, gr1, gr2, gr3, gr4, gr5, gr6, gr7⟩ := HCE.out _ HBg.out
     clear f0 f3 fr0 fr1 fr2 fr3 fr4 fr5 fr6 fr7 hb6
     cases hkk : Op.bytesLess kf kt with
     | false =>
      rw [hkk] at hge
      simp only [Bool.not_false] at hge
      go_wp2
      refine ⟨⟨e + 1, by omega, by go_num, HBg⟩, by simp [intOf]; omega⟩
     | true =>
      rw [hkk] at hge
      simp only [Bool.not_true] at hge
      have hg1 : Op.bytesLess kt kf = false := less_asymm hkk
      have hg2 : (kf == kt) = false := by rw [hg1, Bool.false_or] at hge; exact hge
      have hg3 : ¬ kf = kt := by simpa using hg2
      have HVR : Hid (BS w6 vr (prfB l kf kt) ∧ vr.n ≤ vr.cap) := ownB_bs (hown hkk)
      have HCR : Hid (Calls _ _ _ _ _) := hou_checks HS.out HZ.out [x0, x1, x2, x3, x4, x5, x6, x7] HRX.out.symm va vb vr kf kt w6 (HBA.out.below HBg.out) (HBB.out.below HBg.out) HOK.out.1 HOK.out.2 hkk HVR.out.1 HVR.out.2
      unfold dV u8c SlR.val at HCR
      simp only [List.map_cons, List.map_nil] at HCR
      have HBT : Hid (∀ W, Below w3.heap.size w3 W → Calls Try.prog 22 #[.slice la l.length lc, .slice va.a va.n va.cap, .slice vb.a vb.n vb.cap] W fun r w' => ∃ (v : SlR) (es : List (SlR × SlR)), r = .returned (.slice v.a v.n v.cap) ∧ EntV w' v es (l.filter (inR kf kt)) ∧ Below W.heap.size W w') := fun W hW => between_any ⟨la, l.length, lc⟩ va vb nes l kf kt W (HEV.out W hW) (HBA.out.below hW) (HBB.out.below hW) hl60
      clear hown hge
      go_wp2_with fail
      refine HCR.out.mono ?_
      rintro r w7 ⟨vx, esx, rfl, hb7, ev7⟩
      have HB7 : Hid (Below w3.heap.size w3 w7) := HBg.out.trans (hb7.mono HBg.out.size)
      have HEX : Hid (EntV w7 vx esx (l.filter (inR kf kt))) := ev7
      clear hb7 ev7 HCR
      go_wp2_with fail
      refine (HBT.out _ HB7.out).mono ?_
      rintro r w8 ⟨vy, esy, rfl, ev8, hb8⟩
      have HB8 : Hid (Below w3.heap.size w3 w8) := HB7.out.trans (hb8.mono HB7.out.size)
      have HSE : Hid (Calls _ _ _ _ _) := same_entries vx vy esx esy (l.filter (inR kf kt)) w8 ⟨SlV.of_block HEX.out.sl hb8.size (fun x _ hlt => hb8.block _ hlt), HEX.out.n, HEX.out.bs.below hb8⟩ ev8 (by have := List.length_filter_le (inR kf kt) l; omega)
      unfold SlR.val at HSE
      clear ev8 hb8 HBT
      go_wp2_with fail
      refine HSE.out.mono ?_
      rintro r w9 ⟨rfl, m, rfl⟩
      go_wp2
      refine ⟨⟨e + 1, by omega, by go_num, HB8.out.trans ((bel_drewN w8 m).mono HB8.out.size)⟩, by simp [intOf]; omega⟩
  ·have hltI : ¬ (e : Int) < d.pp.length := by omega
   go_wp2
   go_ret
   exact ⟨rfl, HH.out.bel.trans (HB.out.mono HH.out.bel.size)⟩
end Go.Proofs.Ytekegfbjbainhaa
