import Derived.Test.YtekegfbjbainhaaKJoin25
import Derived.Test.YtekegfbjbainhaaKJoin20
import Derived.Test.YtekegfbjbainhaaKJoin23
import Derived.Test.YtekegfbjbainhaaKJoin17
set_option linter.unusedVariables false
set_option linter.unusedSimpArgs false

namespace Go.Proofs.Ytekegfbjbainhaa
open Go.RowKit
theorem commitC_length (e n : Nat) (r s : List UInt8) (hr : r.length = 8) (hs : s.length = 8) : (commitC e r n s).length = 18 := by
 simp [commitC, hr, hs]
theorem comsF_length : ∀ (n : Nat) (rl : List (List UInt8)), n ≤ rl.length → (∀ r ∈ rl, r.length = 8) → (comsF n rl).length = n * 18
 | 0, _, _, _ => rfl
 | n + 1, rl, h, hr => by
  unfold comsF
  have hg : (rl.getD n []).length = 8 := by
   rw [List.getD_eq_getElem?_getD, List.getElem?_eq_getElem (by omega)]
   exact hr _ (List.getElem_mem _)
  rw [List.length_append, comsF_length n rl (by omega) hr, commitC_length _ _ _ _ hg (sumF_length 41 _)]
  omega
theorem comsF_get : ∀ (n : Nat) (rl : List (List UInt8)) (k j : Nat), n ≤ rl.length → (∀ r ∈ rl, r.length = 8) → k < n → j < 18 → (comsF n rl)[k * 18 + j]? = (commitC k (rl.getD k []) (k + 1) (sumF 42 (rl.take (k + 1))))[j]?
 | 0, _, _, _, _, _, hk, _ => absurd hk (Nat.not_lt_zero _)
 | n + 1, rl, k, j, h, hr, hk, hj => by
  unfold comsF
  have hl := comsF_length n rl (by omega) hr
  by_cases hkn : k < n
  ·rw [List.getElem?_append_left (by omega)]
   exact comsF_get n rl k j (by omega) hr hkn hj
  ·obtain rfl : k = n := by omega
   rw [List.getElem?_append_right (by omega), hl, Nat.add_sub_cancel_left]
theorem coms_root (rl : List (List UInt8)) (hr : ∀ r ∈ rl, r.length = 8) (k j : Nat) (hk : k < rl.length) (hj : j < 8) : (comsC rl)[k * 18 + 1 + j]? = (rl[k].map u8c)[j]? := by
 unfold comsC
 rw [Nat.add_assoc, comsF_get rl.length rl k (1 + j) (Nat.le_refl _) hr hk (by omega)]
 have e : rl.getD k [] = rl[k] := by rw [List.getD_eq_getElem?_getD, List.getElem?_eq_getElem hk]; rfl
 have h8 := hr _ (List.getElem_mem hk)
 rw [e]
 unfold commitC
 rw [List.append_assoc, List.append_assoc, Nat.add_comm 1 j, List.singleton_append, List.getElem?_cons_succ, List.getElem?_append_left (by simp; omega)]
theorem rootOf_length (nd : Nd) : (rootOf nd).length = 8 := digB_length _
theorem Hou.lens {w wr : World} {d : HouD} (h : Hou w d wr) : d.pp.length = d.tds.length ∧ d.pd.length = d.tds.length := ⟨h.at_.stt.pl, by rw [h.at_.pl, h.at_.stt.pl]⟩
theorem Hou.past {w wr : World} {d : HouD} (h : Hou w d wr) {e : Nat} (he : e < d.pp.length) : PastOk d.pp[e] := by
 have h1 := h.at_.stt.tl
 have h2 := h.at_.stt.pl
 exact (h.at_.stt.rep e (d.T[e]'(by omega)) d.pp[e] (d.tds[e]'(by omega)) (List.getElem?_eq_getElem _) (List.getElem?_eq_getElem _) (List.getElem?_eq_getElem _)).2.2
theorem keyOk_len {key : List UInt8} (h : keyOk key = true) : 1 ≤ key.length ∧ key.length ≤ 12 := by unfold keyOk at h; simpa using h
theorem Hou.stood {w wr : World} {d : HouD} (h : Hou w d wr) {e : Nat} (he : e < d.pp.length) : Stood d.pp[e] := by
 have hp := h.past he
 exact ⟨hp.rise, hp.len, fun x hx => keyOk_len (h.keys _ (List.mem_cons_of_mem _ (List.getElem_mem he)) x hx), fun x hx => (hp.ok x hx).2⟩
theorem Hou.root {w wr : World} {d : HouD} (h : Hou w d wr) {e : Nat} (he : e < d.pp.length) (he' : e < (d.tds.map rootOf).length) : (d.tds.map rootOf)[e] = rootB d.pp[e] := by
 have := h.rts
 simp only [this, List.getElem_map]
theorem Stood.pastR {l : List ItR} (h : Stood l) : PastR l := ⟨h.rise, fun x hx => ⟨(h.key x hx).2, h.val x hx⟩, h.len⟩
theorem prv_ok {pp : List (List ItR)} {e : Nat} {key : List UInt8} (he : e < pp.length) (hk : keyOk key = true) : prvE pp.length (e : Int) key = 0 ∧ prvB pp (e : Int) key = prfB pp[e] key key := by
 have h1 : prvE pp.length (e : Int) key = 0 := by
  unfold prvE epochBad
  rw [hk]
  simp; omega
 refine ⟨h1, ?_⟩
 unfold prvB pastAt
 rw [if_pos h1]
 simp [he]
theorem rng_code {pp : List (List ItR)} {e : Nat} {fr tu : List UInt8} (he : e < pp.length) (hf : keyOk fr = true) (ht : keyOk tu = true) : rngE pp.length (e : Int) fr tu = (if Op.bytesLess fr tu = true then 0 else 1) ∧ (Op.bytesLess fr tu = true → rngB pp (e : Int) fr tu = prfB pp[e] fr tu) := by
 have h1 : rngE pp.length (e : Int) fr tu = (if Op.bytesLess fr tu = true then 0 else 1) := by
  unfold rngE epochBad rngOk
  rw [hf, ht]
  cases Op.bytesLess fr tu <;> simp <;> omega
 refine ⟨h1, fun hl => ?_⟩
 unfold rngB pastAt
 rw [h1, if_pos (by rw [if_pos hl])]
 simp [he]
theorem hou_prove {w wr : World} {d : HouD} (h : Hou w d wr) {e : Nat} (he : e < d.pp.length) (sk : SlR) (key : List UInt8) (hK : BS wr sk key) (hk : keyOk key = true) :
  Calls Try.prog 15 #[.pointer (some ⟨d.sb, 0, none⟩), .int .i64 (e : Int), sk.val] wr fun r w' => ∃ v : SlR, r = .returned (.tuple #[v.val, .int .i64 0]) ∧ OwnB w' wr.heap.size v.val (prfB d.pp[e] key key) ∧ Below wr.heap.size wr w' := by
 refine (sto_prove d.sb d.N d.en d.tr d.mp d.ms d.xs d.its d.tds d.T d.pp (e : Int) sk key wr h.at_.sto h.at_.stt h.at_.t40 hK (by have := keyOk_len hk; unfold maxLen; omega)).mono ?_
 rintro r w' ⟨v, rfl, h1, h2⟩
 obtain ⟨e1, e2⟩ := prv_ok he hk
 rw [e2] at h1
 rw [e1]
 exact ⟨v, rfl, h1, h2⟩
theorem hou_range {w wr : World} {d : HouD} (h : Hou w d wr) {e : Nat} (he : e < d.pp.length) (sf st : SlR) (fr tu : List UInt8) (hF : BS wr sf fr) (hT : BS wr st tu) (hf : keyOk fr = true) (ht : keyOk tu = true) :
  Calls Try.prog 19 #[.pointer (some ⟨d.sb, 0, none⟩), .int .i64 (e : Int), sf.val, st.val] wr fun r w' => ∃ v : SlR, r = .returned (.tuple #[v.val, .int .i64 (if Op.bytesLess fr tu = true then 0 else 1)]) ∧ (Op.bytesLess fr tu = true → OwnB w' wr.heap.size v.val (prfB d.pp[e] fr tu)) ∧ Below wr.heap.size wr w' := by
 refine (sto_range d.sb d.N d.en d.tr d.mp d.ms d.xs d.its d.tds d.T d.pp (e : Int) sf st fr tu wr h.at_.sto h.at_.stt h.at_.t40 hF hT (by have := keyOk_len hf; unfold maxLen; omega) (by have := keyOk_len ht; unfold maxLen; omega)).mono ?_
 rintro r w' ⟨v, rfl, h1, h2⟩
 obtain ⟨e1, e2⟩ := rng_code he hf ht
 refine ⟨v, ?_, fun hl => by rw [e2 hl] at h1; exact h1, h2⟩
 rw [e1]
 cases Op.bytesLess fr tu <;> rfl
theorem ownB_bs {w : World} {base : Nat} {v : SlR} {l : List UInt8} (h : OwnB w base v.val l) : BS w v l ∧ v.n ≤ v.cap := by
 have hc := owns_cap (a := v.a) (n' := v.n) (cap := v.cap) h
 obtain ⟨h1, h2, h3⟩ := OwnB.sl (a := v.a) (n := v.n) (cap := v.cap) h
 refine ⟨⟨h1, h2, h3, fun x hx => ?_⟩, by rw [hc.1]; exact hc.2.1⟩
 rcases hc.2.2.2 with ⟨e, _⟩ | ⟨g, e, _, hlt⟩
 ·rw [hx] at e; cases e
 ·rw [hx] at e; cases e; exact hlt
theorem flatL_get (l : List ItR) : ∀ (i : Nat) (h : i < l.length), (flatL l)[i * 2]? = some l[i].key ∧ (flatL l)[i * 2 + 1]? = some l[i].more := by
 induction l with
 | nil => intro i h; simp at h
 | cons e l ih =>
  intro i h
  cases i with
  | zero => simp [flatL]
  | succ i =>
   have := ih i (by simpa using h)
   simp only [flatL, List.flatMap_cons] at this ⊢
   rw [show (i + 1) * 2 = i * 2 + 1 + 1 by omega, show i * 2 + 1 + 1 + 1 = (i * 2 + 1) + 1 + 1 by omega]
   simpa using this
theorem flatE_getE (l : List (SlR × SlR)) : ∀ (i : Nat) (h : i < l.length), (flatE l)[i * 2]? = some l[i].1 ∧ (flatE l)[i * 2 + 1]? = some l[i].2 := by
 induction l with
 | nil => intro i h; simp at h
 | cons e l ih =>
  intro i h
  cases i with
  | zero => simp [flatE]
  | succ i =>
   have := ih i (by simpa using h)
   simp only [flatE, List.flatMap_cons] at this ⊢
   rw [show (i + 1) * 2 = i * 2 + 1 + 1 by omega, show i * 2 + 1 + 1 + 1 = (i * 2 + 1) + 1 + 1 by omega]
   simpa using this
theorem EntsO.toV {w : World} {base : Nat} {v : SlR} {es : List (SlR × SlR)} {l : List ItR} (h : EntsO w base v es l) : EntV w v es l := by
 obtain ⟨h1, h2⟩ := SlV.ofOwn (s := v) h.own
 refine ⟨h1, h2, h.len, fun i g1 g2 => ?_⟩
 obtain ⟨a0, a1⟩ := flatE_getE es i g1
 have hf : (flatE es).length = es.length * 2 := flatE_length es
 have hfl : (flatL l).length = l.length * 2 := flatL_length l
 have b0 := flatL_get l i g2
 have o0 := h.ob (i * 2) (by omega) (by omega)
 have o1 := h.ob (i * 2 + 1) (by omega) (by omega)
 rw [List.getElem?_eq_getElem (by omega)] at a0 a1
 have b1 := b0.2
 have b2 := b0.1
 rw [List.getElem?_eq_getElem (by omega)] at b1 b2
 rw [Option.some.inj a0, Option.some.inj b2] at o0
 rw [Option.some.inj a1, Option.some.inj b1] at o1
 exact ⟨(ownB_bs o0).1, (ownB_bs o1).1⟩
theorem hou_cells {w wr : World} {d : HouD} (h : Hou w d wr) {e : Nat} (he : e < d.pp.length) : ∃ (g g' : Nat) (x0 x1 x2 x3 x4 x5 x6 x7 : UInt8), wr.cell? ⟨d.hb, 0, none⟩ = some (.pointer (some ⟨d.sb, 0, none⟩)) ∧ wr.cell? ⟨d.hb, 2, none⟩ = some (.slice (some ⟨g', 0, none⟩) d.pp.length d.pa.cap) ∧ wr.cell? ⟨d.hb, 3, none⟩ = some (.slice (some ⟨g, 0, none⟩) d.pp.length d.dn.cap) ∧
  wr.cell? ⟨g', e, none⟩ = some (d.pd[e]'(by have := h.at_.pl; omega)).1.val ∧ rootB d.pp[e] = [x0, x1, x2, x3, x4, x5, x6, x7] ∧ g < wr.heap.size ∧ g' < wr.heap.size ∧ wr.cell? ⟨g, e * 18 + 1, none⟩ = some (.int .u8 (x0.toNat : Int)) ∧ wr.cell? ⟨g, e * 18 + 1 + 1, none⟩ = some (.int .u8 (x1.toNat : Int)) ∧ wr.cell? ⟨g, e * 18 + 1 + 2, none⟩ = some (.int .u8 (x2.toNat : Int)) ∧ wr.cell? ⟨g, e * 18 + 1 + 3, none⟩ = some (.int .u8 (x3.toNat : Int)) ∧ wr.cell? ⟨g, e * 18 + 1 + 4, none⟩ = some (.int .u8 (x4.toNat : Int)) ∧ wr.cell? ⟨g, e * 18 + 1 + 5, none⟩ = some (.int .u8 (x5.toNat : Int)) ∧ wr.cell? ⟨g, e * 18 + 1 + 6, none⟩ = some (.int .u8 (x6.toNat : Int)) ∧ wr.cell? ⟨g, e * 18 + 1 + 7, none⟩ = some (.int .u8 (x7.toNat : Int)) := by
 obtain ⟨l1, l2⟩ := h.lens
 have hpl := h.at_.pl
 have hdn : d.dn.n = d.tds.length := (SlV.ofOwn (s := d.dn) h.at_.don).2
 have hpn : d.pa.n = d.pd.length := (SlV.ofOwn (s := d.pa) h.at_.pst).2
 have hd := (SlV.ofOwn (s := d.dn) h.at_.don).1
 have hp := (SlV.ofOwn (s := d.pa) h.at_.pst).1
 have hr : ∀ r ∈ d.tds.map rootOf, r.length = 8 := fun r hr => by
  obtain ⟨nd, _, rfl⟩ := List.mem_map.1 hr
  exact rootOf_length nd
 have hkr : e < (d.tds.map rootOf).length := by simpa using (by omega : e < d.tds.length)
 obtain ⟨x0, x1, x2, x3, x4, x5, x6, x7, hx⟩ := list8 (rootB d.pp[e]) (rootB_length _)
 obtain ⟨g, hga, hg⟩ : ∃ g, d.dn.a = some ⟨g, 0, none⟩ ∧ g < wr.heap.size := by
  rcases (owns_cap (a := d.dn.a) (n' := d.dn.n) (cap := d.dn.cap) h.at_.don).2.2.2 with ⟨_, hz, _⟩ | ⟨g, hg, _, hlt⟩
  ·omega
  ·exact ⟨g, hg, hlt⟩
 obtain ⟨g', hga', hg'⟩ : ∃ g, d.pa.a = some ⟨g, 0, none⟩ ∧ g < wr.heap.size := by
  rcases (owns_cap (a := d.pa.a) (n' := d.pa.n) (cap := d.pa.cap) h.at_.pst).2.2.2 with ⟨_, hz, _⟩ | ⟨g, hg, _, hlt⟩
  ·omega
  ·exact ⟨g, hg, hlt⟩
 have hcell : ∀ j, j < 8 → wr.cell? ⟨g, e * 18 + 1 + j, none⟩ = ([x0, x1, x2, x3, x4, x5, x6, x7].map u8c)[j]? := fun j hj => by
  have hv := coms_root (d.tds.map rootOf) hr e j hkr hj
  rw [h.root he hkr, hx] at hv
  have hlt : e * 18 + 1 + j < (comsC (d.tds.map rootOf)).length := by
   unfold comsC
   rw [comsF_length _ _ (Nat.le_refl _) hr]
   simp at hkr ⊢
   omega
  obtain ⟨b, o, e', _, hcl⟩ := hd (e * 18 + 1 + j) hlt
  rw [hga] at e'
  cases e'
  rw [← hv, List.getElem?_eq_getElem hlt, ← hcl]
  congr 2
  omega
 refine ⟨g, g', x0, x1, x2, x3, x4, x5, x6, x7, RowV.cell? h.at_.row 0, ?_, ?_, ?_, hx, hg, hg', hcell 0 (by omega), hcell 1 (by omega), hcell 2 (by omega), hcell 3 (by omega), hcell 4 (by omega), hcell 5 (by omega), hcell 6 (by omega), hcell 7 (by omega)⟩
 ·have : wr.cell? ⟨d.hb, 2, none⟩ = some d.pa.val := RowV.cell? h.at_.row 2
  rw [this]; unfold SlR.val; rw [hga', hpn, hpl]
 ·have : wr.cell? ⟨d.hb, 3, none⟩ = some d.dn.val := RowV.cell? h.at_.row 3
  rw [this]; unfold SlR.val; rw [hga, hdn, l1]
 ·obtain ⟨b, o, e', _, hcl⟩ := hp e (by simp; omega)
  rw [hga'] at e'
  cases e'
  simpa using hcl
end Go.Proofs.Ytekegfbjbainhaa


namespace Go.Proofs.Ytekegfbjbainhaa
open Go.RowKit
attribute [local go_sem ↓] Go.wp_at_zero Go.wp_at_succ
def StrO (w : World) (base : Nat) (v : SlR) (ps : List (List UInt8)) : Prop := w.ownsRow base 9 1 v.val ps.length (ps.map strV)
theorem str_one (ps : List (List UInt8)) : ∀ u ∈ ps.map strV, u.oneCell' = true := fun u hu => by
 obtain ⟨s, _, rfl⟩ := List.mem_map.1 hu
 rfl
theorem Try.infoStr : (Try.prog.info? 9).map (fun i => (i.zero, i.size, i.bytes)) = some (some (.string ⟨#[]⟩), 1, 16) := by kernel_rfl
def sliceLen : Value → Nat
 | .slice _ n _ => n
 | _ => 0
set_option maxRecDepth 100000 in
set_option maxHeartbeats 1600000 in
theorem pages_wide (s : SlR) (l : List UInt8) (w : World) (h : BS w s l) (hc : s.n ≤ s.cap) (hl : l.length ≤ 140737488355328) (hpl : (pagesN l).length ≤ 5600000000000) :
  Calls Try.prog 24 #[s.val] w fun e w' => ∃ v : SlR, e = .returned v.val ∧ StrO w' w.heap.size v (pagesN l) ∧ Below w.heap.size w w' := by
 have HS0 : Hid (SubS w (fun k => k < w.heap.size) s l) := ⟨h, hc, fun x hx => h.lt x hx⟩
 have HI : Hid ((Try.prog.info? 5).map (·.size) = some 1) := by unfold Hid; kernel_rfl
 have HL : Hid (l.length ≤ 140737488355328) := hl
 have HPL : Hid ((pagesN l).length ≤ 5600000000000) := hpl
 clear h hc hl hpl
 unfold SlR.val
 go_enter Try.func24, Try.ntmps24
 go_wp2
 go_loopw [0, 3] (fun pv ov wr => ∃ (s : SlR) (r : List UInt8) (v : SlR) (ps : List (List UInt8)), pv = .slice s.a s.n s.cap ∧ ov = .slice v.a v.n v.cap ∧ Hid (SubS w (fun k => k < w.heap.size) s r) ∧ Hid (StrO wr w.heap.size v ps) ∧ Hid (pagesN l = ps ++ pagesN r ∧ ps.length * 2 + r.length ≤ l.length) ∧ Hid (Below w.heap.size w wr)) (fun pv _ _ => sliceLen pv)
 case atStart => exact ⟨s, l, ⟨none, 0, 0⟩, [], rfl, rfl, HS0, World.ownsRow_nil _ _ _ _, ⟨rfl, by simp⟩, Below.refl _ _⟩
 case round =>
  obtain ⟨s, r, v, ps, rfl, rfl, HS, HO, HP, HB⟩ := hrel
  obtain ⟨sa, N, sc⟩ := s
  have HN : Hid (N = r.length) := HS.out.bs.n
  have hNI : (N : Int) ≤ 140737488355328 := by have := HL.out; have := HP.out.2; have := HN.out; omega
  have hNC : N ≤ sc := HS.out.cap
  by_cases h2 : 2 ≤ N
  ·have h2I : (2 : Int) ≤ N := by omega
   obtain ⟨x, y, t, hr⟩ : ∃ x y t, r = x :: y :: t := by
    have := HN.out
    match r, this with
    | [], h => simp at h; omega
    | [x], h => simp at h; omega
    | x :: y :: t, _ => exact ⟨x, y, t, rfl⟩
   subst hr
   have HNt : Hid (N = t.length + 2) := by have := HN.out; unfold Hid; simpa using this
   obtain ⟨b, o, hca, hbb, z0⟩ := HS.out.bs.sl 0 (by simp)
   obtain ⟨b', o', hca', _, z1⟩ := HS.out.bs.sl 1 (by simp)
   simp only at hca hca'
   rw [hca] at hca'
   cases hca'
   subst hca
   have d0 : wr.cell? ⟨b, o, none⟩ = some (.int .u8 (x.toNat : Int)) := by rw [HB.out.cell (p := ⟨b, o, none⟩) hbb]; simpa [u8c] using z0
   have d1 : wr.cell? ⟨b, o + 1, none⟩ = some (.int .u8 (y.toNat : Int)) := by rw [HB.out.cell (p := ⟨b, o + 1, none⟩) hbb]; simpa [u8c] using z1
   clear z0 z1
   have hw0 := wrap64_toNat8 x
   have hw1 := wrap64_toNat8 y
   have hx := x.toNat_lt
   have hy := y.toNat_lt
   have HPC : Hid (pagesN (x :: y :: t) = if 256 * x.toNat + y.toNat ≤ t.length then t.take (256 * x.toNat + y.toNat) :: pagesN (t.drop (256 * x.toNat + y.toNat)) else []) := pagesN_cons x y t
   obtain ⟨q, hq⟩ : ∃ q, q = 256 * x.toNat + y.toNat := ⟨_, rfl⟩
   rw [← hq] at HPC
   have hqI : 256 * (x.toNat : Int) + (y.toNat : Int) = (q : Int) := by omega
   have hq6 : (q : Int) ≤ 65535 := by omega
   have hxI : (x.toNat : Int) ≤ 255 := by omega
   have hyI : (y.toNat : Int) ≤ 255 := by omega
   by_cases hn : q ≤ t.length
   ·have hnI : (q : Int) ≤ (N : Int) - 2 := by have := HNt.out; omega
    rw [if_pos hn] at HPC
    have HPS : Hid (ps.length + 1 ≤ 5600000000000) := by
     have h1 := HPL.out
     rw [HP.out.1, HPC.out, List.length_append, List.length_cons] at h1
     unfold Hid; omega
    have HSD : Hid (SubS w (fun k => k < w.heap.size) ⟨cutS (some ⟨b, o, none⟩) sc 2 1, q, sc - 2⟩ (t.take q)) := by
     have h := (HS.out.drop 2 (by simp)).take q (by simpa using hn)
     unfold Hid; simpa using h
    have HSR : Hid (SubS w (fun k => k < w.heap.size) ⟨cutS (some ⟨b, o, none⟩) sc (q + 2) 1, N - (q + 2), sc - (q + 2)⟩ (t.drop q)) := by
     have h := HS.out.drop (q + 2) (by simp; omega)
     unfold Hid; simpa using h
    have hcv : ∀ W, Below w.heap.size w W → (convert 35 9 (.slice (cutS (some ⟨b, o, none⟩) sc 2 1) q (sc - 2))).run Try.prog W = .ok (.string ⟨(t.take q).toArray⟩) W := fun W hW => bs_run HSD.out.bs hW
    have HQ3 : Hid (q + 2 - 2 = q) := by unfold Hid; omega
    have HQ1 : Hid (2 ≤ q + 2 ∧ q + 2 ≤ sc ∧ q + 2 ≤ N) := by have := HNt.out; unfold Hid; omega
    have HQ2 : Hid (Value.int .i64 (2 + (q : Int)) = Value.int .i64 ((q + 2 : Nat) : Int)) := congrArg (Value.int .i64) (by omega)
    clear hq
    go_wp2_with fail
    go_quiet (fail)
    have hcw := hcv _ (HB.out.trans ((bel_drewN wr nq).mono HB.out.size))
    have HOD : Hid (StrO (wr.drewN nq) w.heap.size v ps) := owns_below HO.out (bel_drewN wr nq)
    have HBD : Hid (Below w.heap.size w (wr.drewN nq)) := HB.out.trans ((bel_drewN wr nq).mono HB.out.size)
    generalize wr.drewN nq = wq at *
    go_wp2_with (first
     | (refine wp_sliceLH (by rfl) 35 5 (.tmp 24) (.const (.int .i64 2)) (.tmp 26) (by rfl) (some ⟨b, o, none⟩) N sc 2 (q + 2) 1 (by rfl) (by rfl) (by exact HQ2.out) Try.underlying35 HI.out HQ1.out.1 HQ1.out.2.1 ?_; rw [HQ3.out])
     | (refine wp_sliceLo (by rfl) 35 5 (.tmp 31) (.tmp 33) (by rfl) (some ⟨b, o, none⟩) N sc (q + 2) 1 (by rfl) (by exact HQ2.out) Try.underlying35 HI.out HQ1.out.2.2 hNC ?_)
     | (at_builtin; have HBe : Hid (Below wq.heap.size wq (wq.alloc (.cells #[.string ⟨(t.take q).toArray⟩] 9))) := (Below.refl _ _).alloc (Nat.le_refl _) _; refine wp_appendV (by rfl) (.tmp 23) (.tmp 29) 67 (by rfl) w.heap.size 9 _ 1 16 Try.underlying67 Try.infoStr rfl (by decide) (.slice v.a v.n v.cap) ps.length (ps.map strV) (by rfl) (owns_below HOD.out HBe.out) (some ⟨wq.heap.size, 0, none⟩) 1 1 ([t.take q].map strV) (by rfl) rfl (SlV.alloc_new wq ([t.take q].map strV) _) (fun h => by cases h) (str_one _) (by have := HPS.out; unfold maxLen; omega) (by have := HPS.out; omega) (Nat.le_trans HBD.out.size HBe.out.size) ?_; intro v6 w6 ho6 hf6 hat6; obtain ⟨a6, c6, hv6, _⟩ := owns_form ho6; subst hv6; have HB6 : Hid (Below w.heap.size w w6) := (HBD.out.trans (HBe.out.mono HBD.out.size)).trans (hf6.below (Nat.le_trans HBD.out.size HBe.out.size) (fun k hk => (World.ownsRow.lt HOD.out k hk).1)); have HO6 : Hid (StrO w6 w.heap.size ⟨a6, ps.length + 1, c6⟩ (ps ++ [t.take q])) := by { unfold Hid StrO; rw [List.map_append, show (ps ++ [t.take q]).length = ps.length + 1 from List.length_append]; exact ho6 }))
    refine ⟨⟨⟨cutS (some ⟨b, o, none⟩) sc (q + 2) 1, N - (q + 2), sc - (q + 2)⟩, t.drop q, ⟨a6, ps.length + 1, c6⟩, ps ++ [t.take q], rfl, rfl, HSR, HO6, ⟨?_, ?_⟩, HB6⟩, ?_⟩
    ·rw [HP.out.1, HPC.out, List.append_assoc]; rfl
    ·have := HP.out.2
     simp at this ⊢
     omega
    ·have := HQ1.out
     simp only [sliceLen]
     omega
   ·have hnI : (N : Int) - 2 < q := by have := HNt.out; omega
    rw [if_neg hn] at HPC
    clear hq
    go_wp2_with fail
    go_quiet (fail)
    go_wp2
    go_ret
    refine ⟨v, rfl, ?_, HB.out.trans ((bel_drewN wr nq).mono HB.out.size)⟩
    rw [HP.out.1, HPC.out, List.append_nil]
    exact owns_below HO.out (bel_drewN wr nq)
  ·have h2I : ¬ (2 : Int) ≤ N := by omega
   go_wp2
   go_ret
   refine ⟨v, rfl, ?_, HB.out⟩
   rw [HP.out.1, pagesN_short (by have := HN.out; omega), List.append_nil]
   exact HO.out
theorem pagesN_len : ∀ (n : Nat) (l : List UInt8), l.length ≤ n → (pagesN l).length * 2 ≤ l.length
 | n, [], _ => by rw [pagesN_short (by simp)]; simp
 | n, [x], _ => by rw [pagesN_short (by simp)]; simp
 | 0, x :: y :: t, h => by simp at h
 | n + 1, x :: y :: t, h => by
  rw [pagesN_cons]
  split
  ·have h1 := pagesN_len n (t.drop (256 * x.toNat + y.toNat)) (by simp at h ⊢; omega)
   simp only [List.length_cons, List.length_drop] at h1 ⊢
   omega
  ·simp
theorem pages_any (s : SlR) (l : List UInt8) (w : World) (h : BS w s l) (hc : s.n ≤ s.cap) (hl : l.length ≤ 1000000000) :
  Calls Try.prog 24 #[s.val] w fun e w' => ∃ v : SlR, e = .returned v.val ∧ StrO w' w.heap.size v (pagesN l) ∧ Below w.heap.size w w' :=
 pages_wide s l w h hc (by omega) (by have := pagesN_len l.length l (Nat.le_refl _); omega)
end Go.Proofs.Ytekegfbjbainhaa
