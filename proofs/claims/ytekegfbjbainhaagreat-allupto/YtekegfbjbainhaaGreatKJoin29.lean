import Derived.Test.YtekegfbjbainhaaGreatKJoin28
import Derived.Deep.CutBlock
import Derived.Deep.DeepCutAuto
import Derived.Deep.RegionHeld3
import Derived.Test.YtekegfbjbainhaaGreatKJoin17
set_option linter.unusedVariables false
set_option linter.unusedSimpArgs false

namespace Go.Proofs.YtekegfbjbainhaaGreat
open Go.RowKit
attribute [local go_sem ↓] Go.wp_at_zero Go.wp_at_succ
theorem flatE_get (el : List (SlR × SlR)) : ∀ (i : Nat) (h : i < el.length), (flatE el)[i * 2]? = some el[i].1 ∧ (flatE el)[i * 2 + 1]? = some el[i].2 := by
 induction el with
 | nil => intro i h; simp at h
 | cons e el ih =>
  intro i h
  cases i with
  | zero => simp [flatE]
  | succ i =>
   have := ih i (by simpa using h)
   simp only [flatE, List.flatMap_cons] at this ⊢
   rw [show (i + 1) * 2 = i * 2 + 1 + 1 by omega, show i * 2 + 1 + 1 + 1 = (i * 2 + 1) + 1 + 1 by omega]
   simpa using this
theorem entsC_cells {w : World} {a : Option Addr} {el : List (SlR × SlR)} (h : SlV w a (entsC el)) (i : Nat) (hi : i < el.length) : ∃ b o, a = some ⟨b, o, none⟩ ∧ b < w.heap.size ∧ w.cell? ⟨b, o + i * 2, none⟩ = some el[i].1.val ∧ w.cell? ⟨b, o + i * 2 + 1, none⟩ = some el[i].2.val := by
 have g := fun j (hj : j < 2) => flat_get entC 2 el (fun _ _ => rfl) i hi j hj
 obtain ⟨b, o, ha, hb, c0⟩ := SlV.at h (g 0 (by omega))
 obtain ⟨b1, o1, ha1, _, c1⟩ := SlV.at h (g 1 (by omega))
 rw [ha] at ha1; cases ha1
 exact ⟨b, o, ha, hb, c0, by rw [Nat.add_assoc]; exact c1⟩
theorem Tryz.infoEntBk : (Tryz.prog.info? 65).map (fun i => (i.zero, i.size, i.bytes)) = some (some (.agg #[.slice none 0 0, .slice none 0 0, .slice none 0 0, .slice none 0 0, .int .i64 0]), 5, 104) := by kernel_rfl
def entPost (w : World) (wb : Nat) (ps ds bs es v : SlR) (rs : List BkR) (hs : List EBk) (fl : List SlR) (n : Nat) (e : Ending) (w' : World) : Prop := e = .returned (.tuple #[]) ∧ ∃ (bs2 : SlR) (rs2 : List BkR) (es2 : SlR) (h : EBk), RowV w' wb 34 [ps.val, bs2.val, ds.val, es2.val] ∧ BkAt w' bs2 rs2 ∧ rs2.length = rs.length + n * 2 ∧ BeAt w' es2 (hs ++ [h]) ∧ Frame (fun k => k = wb ∨ bookF bs rs k ∨ es.val.ownBlock = some k ∨ (∃ x ∈ fl, x.val.ownBlock = some k) ∨ v.val.ownBlock = some k) w w' ∧
 (∀ k, bookF bs2 rs2 k ∨ bookE es2 (hs ++ [h]) k → k < w.heap.size → bookF bs rs k ∨ bookE es hs k ∨ (∃ x ∈ fl, x.val.ownBlock = some k) ∨ v.val.ownBlock = some k) ∧ (∀ k, bookE es2 (hs ++ [h]) k → ¬ bookF bs2 rs2 k ∧ k ≠ wb) ∧ (∀ k, bookF bs2 rs2 k → k ≠ wb)
theorem ent_fin {w wc WB w2 : World} {wb n base kb : Nat} {ps ds es bs bs2 v : SlR} {rs rs2 : List BkR} {r : BkR} {hs : List EBk} {xs : List Value} {fl : List SlR} {ll : List (List UInt8)} {a2 : Option Addr} {n2 c2 : Nat} (p : EnPre w wb bs rs es hs fl ll base) (s : EnSt w wb ps ds es rs bs hs v n xs fl ll base wc bs2 rs2 (n * 2)) (hW3 : RowV w2 wb 34 [ps.val, bs2.val, ds.val, es.val]) (hB : BkAt WB bs2 rs2) (hE : BeAt WB es hs) (hR : BkOk WB (patE kb) 2 r) (hM : MkAt WB hs.length kb)
  (hG : ∀ k, bkF r k → v.val.ownBlock = some k ∨ wc.heap.size + 1 < k) (hK : kb = wc.heap.size + 1) (hF : Frame (fun k => v.val.ownBlock = some k) wc WB) (hvo : ∀ k, v.val.ownBlock = some k → base ≤ k ∧ k < w.heap.size) (hvf : ∀ i (h : i < fl.length), ∀ k, fl[i].val.ownBlock = some k → v.val.ownBlock ≠ some k)
  (ho2 : w2.ownsRow 0 65 5 (.slice a2 n2 c2) (hs.length + 1) (bksF 0 (hs.map (·.r)) ++ bkC r hs.length)) (hf2 : Frame (fun k => es.val.ownBlock = some k) WB w2) (hat2 : (Value.slice a2 n2 c2).ownBlock = es.val.ownBlock ∨ (Value.slice a2 n2 c2).ownBlock = some WB.heap.size) :
  entPost w wb ps ds bs es v rs hs fl n (.returned (.tuple #[])) (w2.setCell ⟨wb, 3, none⟩ (.slice a2 n2 c2)) := by
 have hfs : Frame (fun k => k = wb) w2 (w2.setCell ⟨wb, 3, none⟩ (.slice a2 n2 c2)) := (Frame.refl (fun k => k = wb) _).setCell (p := ⟨wb, 3, none⟩) rfl _
 have z1 := s.fr.size
 have z2 := hF.size
 have hbb := p.bb
 have hwl := p.wl
 have heb : ∀ k, bookE es hs k → ¬ bookF bs2 rs2 k := fun k hk hb => by
  have h1 := p.e0 k hk
  rcases s.old k hb (by omega) with g | ⟨i, hi, _, g⟩
  ·exact h1.2.2 g
  ·have := (p.fo i hi k g).1; omega
 have hnb : ∀ k, bookF bs2 rs2 k → ¬ v.val.ownBlock = some k := fun k hk e => by
  have h1 := hvo k e
  rcases s.old k hk h1.2 with g | ⟨i, hi, _, g⟩
  ·have := (p.b0 k g).1; omega
  ·exact hvf i hi k g e
 have hes : ∀ k, es.val.ownBlock = some k → k < base := fun k hk => (p.e0 k (Or.inl hk)).1
 have hrk : ∀ k, bkF r k ∨ k = kb → base ≤ k ∧ k < WB.heap.size := fun k hk => by
  rcases hk with hk | hk
  ·refine ⟨?_, hR.lt k hk⟩
   rcases hG k hk with g | g
   ·exact (hvo k g).1
   ·omega
  ·rw [hk]; exact ⟨by omega, hM.lt⟩
 have hbl : ∀ k, (Value.slice a2 n2 c2).ownBlock = some k → es.val.ownBlock = some k ∨ k = WB.heap.size := fun k hk => by
  rcases hat2 with e | e
  ·exact Or.inl (by rw [← e]; exact hk)
  ·rw [e] at hk; exact Or.inr (Option.some.inj hk).symm
 have hz3 := hf2.size
 refine ⟨rfl, bs2, rs2, ⟨a2, n2, c2⟩, ⟨r, kb⟩, by simpa [SlR.val] using hW3.set 3 (.slice a2 n2 c2), ?_, s.len, ⟨?_, ?_, ?_⟩, ?_, ?_, ?_, s.bw⟩
 ·exact (hB.frame hf2 (fun k hk e => heb k (Or.inl e) hk)).frame hfs (fun k hk e => s.bw k hk e)
 ·rw [List.length_append, List.length_singleton, List.map_append, List.map_cons, List.map_nil, bksF_snoc, Nat.zero_add, List.length_map]
  exact owns_frame ho2 hfs (fun k hk e => owns_ne ho2 hW3 (by decide) (by rw [← e]; exact hk))
 ·intro i hi
  by_cases hlt : i < hs.length
  ·rw [List.getElem_append_left hlt]
   have hap : ∀ k, ebF hs[i] k → ¬ es.val.ownBlock = some k := fun k hk e => hE.apart _ (List.getElem_mem hlt) k hk e
   have hwb : ∀ k, ebF hs[i] k → ¬ k = wb := fun k hk e => (p.e0 k (Or.inr ⟨_, List.getElem_mem hlt, hk⟩)).2.1 e
   exact ⟨((hE.ok i hlt).1.frame hf2 (fun k hk => hap k (Or.inl hk))).frame hfs (fun k hk => hwb k (Or.inl hk)), ((hE.ok i hlt).2.frame hf2 (hap _ (Or.inr rfl))).frame hfs (hwb _ (Or.inr rfl))⟩
  ·have e : i = hs.length := by simp at hi; omega
   subst e
   rw [List.getElem_append_right (Nat.le_refl _)]
   simp only [Nat.sub_self, List.getElem_singleton]
   have h1 : ∀ k, bkF r k ∨ k = kb → ¬ es.val.ownBlock = some k := fun k hk e => by have := hrk k hk; have := hes k e; omega
   have h2 : ∀ k, bkF r k ∨ k = kb → ¬ k = wb := fun k hk e => by have := hrk k hk; omega
   exact ⟨(hR.frame hf2 (fun k hk => h1 k (Or.inl hk))).frame hfs (fun k hk => h2 k (Or.inl hk)), (hM.frame hf2 (h1 _ (Or.inr rfl))).frame hfs (h2 _ (Or.inr rfl))⟩
 ·intro x hx k hk e
  rcases List.mem_append.1 hx with hx | hx
  ·rcases hbl k e with g | g
   ·exact hE.apart x hx k hk g
   ·have := hE.lt k (Or.inr ⟨x, hx, hk⟩); omega
  ·simp only [List.mem_singleton] at hx
   subst hx
   have h1 := hrk k hk
   rcases hbl k e with g | g
   ·have := hes k g; omega
   ·omega
 ·refine (((s.fr.mono (fun k _ hk => ?_)).inside hF (fun k _ hk => Or.inr (Or.inr (Or.inr (Or.inr hk))))).inside hf2 (fun k _ hk => Or.inr (Or.inr (Or.inl hk)))).inside hfs (fun k _ hk => Or.inl hk)
  rcases hk with hk | hk | hk
  ·exact Or.inl hk
  ·exact Or.inr (Or.inl hk)
  ·exact Or.inr (Or.inr (Or.inr (Or.inl hk)))
 ·intro k hk hlt
  rcases hk with hk | hk | ⟨x, hx, hk⟩
  ·rcases s.old k hk hlt with g | ⟨i, hi, _, g⟩
   ·exact Or.inl g
   ·exact Or.inr (Or.inr (Or.inl ⟨_, List.getElem_mem hi, g⟩))
  ·rcases hbl k hk with g | g
   ·exact Or.inr (Or.inl (Or.inl g))
   ·omega
  ·rcases List.mem_append.1 hx with hx | hx
   ·exact Or.inr (Or.inl (Or.inr ⟨x, hx, hk⟩))
   ·simp only [List.mem_singleton] at hx
    subst hx
    rcases hk with hk | hk
    ·rcases hG k hk with g | g
     ·exact Or.inr (Or.inr (Or.inr g))
     ·omega
    ·have : k = kb := hk
     omega
 ·intro k hk
  rcases hk with hk | ⟨x, hx, hk⟩
  ·rcases hbl k hk with g | g
   ·exact ⟨heb k (Or.inl g), (p.e0 k (Or.inl g)).2.1⟩
   ·exact ⟨fun hb => by have := s.bk.lt k hb; omega, by omega⟩
  ·rcases List.mem_append.1 hx with hx | hx
   ·exact ⟨heb k (Or.inr ⟨x, hx, hk⟩), (p.e0 k (Or.inr ⟨x, hx, hk⟩)).2.1⟩
   ·simp only [List.mem_singleton] at hx
    subst hx
    have h1 := hrk k hk
    refine ⟨fun hb => ?_, by omega⟩
    rcases hk with hk | hk
    ·rcases hG k hk with g | g
     ·exact hnb k hb g
     ·have := s.bk.lt k hb; omega
    ·have : k = kb := hk
     have := s.bk.lt k hb; omega
set_option maxRecDepth 100000 in
set_option maxHeartbeats 4000000 in
theorem book_entry (wb : Nat) (ps bs ds es v : SlR) (rs : List BkR) (hs : List EBk) (el : List (SlR × SlR)) (l : List ItR) (base : Nat) (w : World) (hW : RowV w wb 34 [ps.val, bs.val, ds.val, es.val]) (hB : BkAt w bs rs) (hE : BeAt w es hs) (ho : EntsO w base v el l) (hp : EnPre w wb bs rs es hs (flatE el) (flatL l) base) (hn : rs.length + el.length * 2 ≤ 1200000000000) (hh : hs.length ≤ 1200000000000) (hl : el.length ≤ 1000000000) :
  Calls Tryz.prog 71 #[.pointer (some ⟨wb, 1, none⟩), v.val] w (entPost w wb ps ds bs es v rs hs (flatE el) el.length) := by
 have HVO : Hid (∀ k, v.val.ownBlock = some k → base ≤ k ∧ k < w.heap.size) := ho.own.lt
 have HVF : Hid (∀ i (h : i < (flatE el).length), ∀ k, (flatE el)[i].val.ownBlock = some k → v.val.ownBlock ≠ some k) := fun i h k hk hv => owns_apart ho.own (ho.ob i h (by rw [flatL_length, ← ho.len, ← flatE_length]; exact h)) (by decide) k hv hk
 have HS0 : Hid (EnSt w wb ps ds es rs bs hs v el.length (entsC el) (flatE el) (flatL l) base w bs rs 0) := ⟨hW, hB, hE, ho.own, fun i h1 h2 _ => ho.ob i h1 h2, by simp, fun k hk _ => Or.inl hk, Frame.refl _ _, fun k hk => (hp.b0 k hk).2⟩
 have hvn : v.n = el.length := (SlV.ofOwn (s := v) ho.own).2
 have HVN : Hid (v.n = el.length) := hvn
 have hvI : (v.n : Int) ≤ 1000000000 := by rw [hvn]; omega
 have HP : Hid (EnPre w wb bs rs es hs (flatE el) (flatL l) base) := hp
 have HN : Hid (rs.length + el.length * 2 ≤ 1200000000000) := hn
 have HH : Hid (hs.length ≤ 1200000000000) := hh
 have HL : Hid (el.length ≤ 1000000000) := hl
 clear hW hB hE ho hp hn hh hl hvn
 unfold SlR.val
 go_enter Tryz.func71, Tryz.ntmps71
 go_upto_block 0 with fail
 go_cut [] (fun wx => ∃ (bs2 : SlR) (rs2 : List BkR), Hid (EnSt w wb ps ds es rs bs hs v el.length (entsC el) (flatE el) (flatL l) base wx bs2 rs2 (el.length * 2)))
 case first =>
  go_wp2_with fail
  go_loopw [4] (fun ix wr => ∃ (k : Nat) (bs2 : SlR) (rs2 : List BkR), k ≤ el.length ∧ ix = .int .i64 (k : Int) ∧ Hid (EnSt w wb ps ds es rs bs hs v el.length (entsC el) (flatE el) (flatL l) base wr bs2 rs2 (k * 2))) (fun ix _ => el.length - (intOf ix).toNat)
  case atStart => exact ⟨0, bs, rs, by omega, by simp, HS0⟩
  case round =>
   obtain ⟨k, bs2, rs2, hk, rfl, HS⟩ := hrel
   have hkM : (k : Int) ≤ 1000000000 := by have := HL.out; omega
   by_cases hlt : k < el.length
   ·have hkI : (k : Int) < v.n := by rw [HVN.out]; omega
    obtain ⟨b, o, hca, hbb, c0, c1⟩ := entsC_cells (SlV.ofOwn (s := v) HS.out.own).1 k hlt
    have hf2 : (flatE el).length = el.length * 2 := flatE_length el
    obtain ⟨g0, g1⟩ := flatE_get el k hlt
    have hj0 : k * 2 < (flatE el).length := by rw [hf2]; omega
    have hj1 : k * 2 + 1 < (flatE el).length := by rw [hf2]; omega
    have e0 : (flatE el)[k * 2] = el[k].1 := by rw [List.getElem?_eq_getElem hj0] at g0; exact Option.some.inj g0
    have e1 : (flatE el)[k * 2 + 1] = el[k].2 := by rw [List.getElem?_eq_getElem hj1] at g1; exact Option.some.inj g1
    have hll0 : k * 2 < (flatL l).length := by rw [← HP.out.ln]; exact hj0
    have hll1 : k * 2 + 1 < (flatL l).length := by rw [← HP.out.ln]; exact hj1
    have hbw : base ≤ wr.heap.size := Nat.le_trans HP.out.bb HS.out.fr.size
    have HB1 : Hid (Calls _ _ _ _ _) := book_byte wb ps bs2 ds es (flatE el)[k * 2] rs2 (flatL l)[k * 2] base wr HS.out.row HS.out.bk (HS.out.ob _ hj0 hll0 (Nat.le_refl _)) (HP.out.l12 _ (List.getElem_mem hll0)) (by rw [HS.out.len]; have := HN.out; omega) hbw (EnSt.v HP.out HS.out hj0) HS.out.bw
    rw [e0] at HB1
    have HNX : Hid (∀ (w' : World) (bs' : SlR) (r : BkR), RowV w' wb 34 [ps.val, bs'.val, ds.val, es.val] → BkAt w' bs' (rs2 ++ [r]) → Frame (fun k_1 => k_1 = wb ∨ el[k].1.val.ownBlock = some k_1 ∨ bs2.val.ownBlock = some k_1) wr w' → (∀ k_1, bookF bs' (rs2 ++ [r]) k_1 → k_1 < wr.heap.size → bookF bs2 rs2 k_1 ∨ el[k].1.val.ownBlock = some k_1) → EnSt w wb ps ds es rs bs hs v el.length (entsC el) (flatE el) (flatL l) base w' bs' (rs2 ++ [r]) (k * 2 + 1)) := fun w' bs' r a1 a2 a3 a4 => EnSt.next HP.out HS.out hj0 a1 a2 (by rw [e0]; exact a3) (by rw [e0]; exact a4)
    unfold SlR.val at HB1 c0 c1
    obtain ⟨va, vn, vc⟩ := v
    simp only at hca hkI hvI HVN
    subst hca
    have HE0 : Hid ((flatE el)[k * 2 + 1] = el[k].2) := e1
    clear g0 g1 e0 e1 c1
    generalize el[k].1 = s1 at *
    generalize hs2 : el[k].2 = s2 at *
    go_wp2_with fail
    refine HB1.out.mono ?_
    rintro e w2 ⟨rfl, bs3, r, a1, a2, a3, a4⟩
    rw [← hs2] at HE0
    have HS3 : Hid (EnSt w wb ps ds es rs bs hs ⟨some ⟨b, o, none⟩, vn, vc⟩ el.length (entsC el) (flatE el) (flatL l) base w2 bs3 (rs2 ++ [r]) (k * 2 + 1)) := HNX.out w2 bs3 r a1 a2 a3 a4
    obtain ⟨b', o', hca', hbb', d0, d1⟩ := entsC_cells (SlV.ofOwn (s := ⟨some ⟨b, o, none⟩, vn, vc⟩) HS3.out.own).1 k hlt
    cases hca'
    have hbw2 : base ≤ w2.heap.size := Nat.le_trans HP.out.bb HS3.out.fr.size
    have HB2 : Hid (Calls _ _ _ _ _) := book_byte wb ps bs3 ds es (flatE el)[k * 2 + 1] (rs2 ++ [r]) (flatL l)[k * 2 + 1] base w2 HS3.out.row HS3.out.bk (HS3.out.ob _ hj1 hll1 (Nat.le_refl _)) (HP.out.l12 _ (List.getElem_mem hll1)) (by rw [HS3.out.len]; have := HN.out; omega) hbw2 (EnSt.v HP.out HS3.out hj1) HS3.out.bw
    rw [HE0.out] at HB2
    have HNY : Hid (∀ (w' : World) (bs' : SlR) (r' : BkR), RowV w' wb 34 [ps.val, bs'.val, ds.val, es.val] → BkAt w' bs' (rs2 ++ [r] ++ [r']) → Frame (fun k_1 => k_1 = wb ∨ el[k].2.val.ownBlock = some k_1 ∨ bs3.val.ownBlock = some k_1) w2 w' → (∀ k_1, bookF bs' (rs2 ++ [r] ++ [r']) k_1 → k_1 < w2.heap.size → bookF bs3 (rs2 ++ [r]) k_1 ∨ el[k].2.val.ownBlock = some k_1) → EnSt w wb ps ds es rs bs hs ⟨some ⟨b, o, none⟩, vn, vc⟩ el.length (entsC el) (flatE el) (flatL l) base w' bs' (rs2 ++ [r] ++ [r']) ((k + 1) * 2)) := fun w' bs' r' b1 b2 b3 b4 => by
     have := EnSt.next HP.out HS3.out hj1 b1 b2 (by rw [HE0.out]; exact b3) (by rw [HE0.out]; exact b4)
     rw [show k * 2 + 1 + 1 = (k + 1) * 2 by omega] at this
     exact this
    unfold SlR.val at HB2 d1
    clear a1 a2 a3 a4 HB1 HNX d0 c0 hs2 HE0
    generalize el[k].2 = s3 at *
    go_wp2_with fail
    refine HB2.out.mono ?_
    rintro e w3 ⟨rfl, bs4, r', b1, b2, b3, b4⟩
    have HS4 := HNY.out w3 bs4 r' b1 b2 b3 b4
    clear b1 b2 b3 b4 HB2 HNY d1
    go_wp2
    exact ⟨⟨k + 1, bs4, _, hlt, by go_num, HS4⟩, by simp [intOf]; omega⟩
   ·have hkI : ¬ (k : Int) < v.n := by rw [HVN.out]; omega
    obtain rfl : k = el.length := by omega
    go_wp2_with fail
    go_meet
    case rel => exact ⟨bs2, rs2, HS⟩
 case rest =>
  obtain ⟨bs2, rs2, HS2⟩ := hcut
  have hen' := (owns_cap (a := es.a) (n' := es.n) (cap := es.cap) HS2.out.be.own).1
  have hhI : (es.n : Int) ≤ 1200000000000 := by rw [hen']; have := HH.out; omega
  have HE : Hid ((hs.length : Int) = (es.n : Int)) := by unfold Hid; rw [hen']
  have HOE : Hid (Calls _ _ _ _ _) := ownEntries_any v el.length (entsC el) base hs.length wc HS2.out.own HL.out (by have := HH.out; omega) (Nat.le_trans HP.out.bb HS2.out.fr.size)
  rw [HE.out] at HOE
  have c3 : wc.cell? ⟨wb, 3, none⟩ = some (.slice es.a es.n es.cap) := HS2.out.row.cell 3 (by simp)
  unfold SlR.val at HOE
  clear hen' HS0
  go_wp2_with fail
  refine HOE.out.mono ?_
  rintro e w1 ⟨r, kb, rfl, hr1, hmk1, hf1, hg1, hkb1⟩
  have hvlt : ∀ k, v.val.ownBlock = some k → base ≤ k ∧ k < wc.heap.size := HS2.out.own.lt
  have hnb : ∀ k, bookF bs2 rs2 k → ¬ v.val.ownBlock = some k := fun k hk e => by
   have h1 := HVO.out k e
   rcases HS2.out.old k hk h1.2 with g | ⟨i, hi, _, g⟩
   ·have := (HP.out.b0 k g).1; omega
   ·exact HVF.out i hi k g e
  have hne : ∀ k, bookE es hs k → ¬ v.val.ownBlock = some k := fun k hk e => by have := (HP.out.e0 k hk).1; have := (hvlt k e).1; omega
  have hwv : ¬ v.val.ownBlock = some wb := fun e => by have := (hvlt wb e).1; have := HP.out.wl; omega
  have hW1 : RowV w1 wb 34 [ps.val, bs2.val, ds.val, es.val] := RowV.of_block HS2.out.row (hf1.block _ HS2.out.row.lt hwv)
  have hB1 : BkAt w1 bs2 rs2 := HS2.out.bk.frame hf1 hnb
  have hE1 : BeAt w1 es hs := HS2.out.be.frame hf1 hne
  have hbx : Below w1.heap.size w1 ((w1.alloc (.cells #[.slice r.l.a r.l.n r.l.cap, .slice r.one.a r.one.n r.one.cap, .slice r.two.a r.two.n r.two.cap, .slice r.three.a r.three.n r.three.cap, .int .i64 (hs.length : Int)] 65)).alloc (.cells #[.slice r.l.a r.l.n r.l.cap, .slice r.one.a r.one.n r.one.cap, .slice r.two.a r.two.n r.two.cap, .slice r.three.a r.three.n r.three.cap, .int .i64 (hs.length : Int)] 65)).drew := by
   have hz : Below w1.heap.size w1 ((w1.alloc (.cells #[.slice r.l.a r.l.n r.l.cap, .slice r.one.a r.one.n r.one.cap, .slice r.two.a r.two.n r.two.cap, .slice r.three.a r.three.n r.three.cap, .int .i64 (hs.length : Int)] 65)).alloc (.cells #[.slice r.l.a r.l.n r.l.cap, .slice r.one.a r.one.n r.one.cap, .slice r.two.a r.two.n r.two.cap, .slice r.three.a r.three.n r.three.cap, .int .i64 (hs.length : Int)] 65)) := ((Below.refl _ _).alloc (Nat.le_refl _) _).alloc (by simp) _
   exact ⟨hz.os, hz.tape, hz.output, hz.size, hz.block⟩
  have hR0 : RowV (w1.alloc (.cells #[.slice r.l.a r.l.n r.l.cap, .slice r.one.a r.one.n r.one.cap, .slice r.two.a r.two.n r.two.cap, .slice r.three.a r.three.n r.three.cap, .int .i64 (hs.length : Int)] 65)) w1.heap.size 65 [.slice r.l.a r.l.n r.l.cap, .slice r.one.a r.one.n r.one.cap, .slice r.two.a r.two.n r.two.cap, .slice r.three.a r.three.n r.three.cap, .int .i64 (hs.length : Int)] := RowV.new w1 _ _
  have x0 := hR0.cell 0 (by simp)
  have x1 := hR0.cell 1 (by simp)
  have x2 := hR0.cell 2 (by simp)
  have x3 := hR0.cell 3 (by simp)
  have x4 := hR0.cell 4 (by simp)
  simp only [List.getElem_cons_zero, List.getElem_cons_succ] at x0 x1 x2 x3 x4
  have y3 : (w1.alloc (.cells #[.slice r.l.a r.l.n r.l.cap, .slice r.one.a r.one.n r.one.cap, .slice r.two.a r.two.n r.two.cap, .slice r.three.a r.three.n r.three.cap, .int .i64 (hs.length : Int)] 65)).cell? ⟨wb, 3, none⟩ = some (.slice es.a es.n es.cap) := (hW1.alloc _).cell 3 (by simp)
  have HOX : Hid (World.ownsRow ((w1.alloc (.cells #[.slice r.l.a r.l.n r.l.cap, .slice r.one.a r.one.n r.one.cap, .slice r.two.a r.two.n r.two.cap, .slice r.three.a r.three.n r.three.cap, .int .i64 (hs.length : Int)] 65)).alloc (.cells #[.slice r.l.a r.l.n r.l.cap, .slice r.one.a r.one.n r.one.cap, .slice r.two.a r.two.n r.two.cap, .slice r.three.a r.three.n r.three.cap, .int .i64 (hs.length : Int)] 65)).drew 0 65 5 (.slice es.a es.n es.cap) hs.length (bksF 0 (hs.map (·.r)))) := (hE1.below hbx).own
  have HSX : Hid (SlV ((w1.alloc (.cells #[.slice r.l.a r.l.n r.l.cap, .slice r.one.a r.one.n r.one.cap, .slice r.two.a r.two.n r.two.cap, .slice r.three.a r.three.n r.three.cap, .int .i64 (hs.length : Int)] 65)).alloc (.cells #[.slice r.l.a r.l.n r.l.cap, .slice r.one.a r.one.n r.one.cap, .slice r.two.a r.two.n r.two.cap, .slice r.three.a r.three.n r.three.cap, .int .i64 (hs.length : Int)] 65)).drew (some ⟨w1.heap.size + 1, 0, none⟩) (bkC r hs.length)) := by
   have := SlV.alloc_new (w1.alloc (.cells #[.slice r.l.a r.l.n r.l.cap, .slice r.one.a r.one.n r.one.cap, .slice r.two.a r.two.n r.two.cap, .slice r.three.a r.three.n r.three.cap, .int .i64 (hs.length : Int)] 65)) (bkC r hs.length) 65
   simp only [World.size_alloc] at this
   exact this
  have H1 : Hid (∀ u ∈ bkC r hs.length, u.oneCell' = true) := fun u hu => bk_one hu
  have HW2 : Hid (RowV ((w1.alloc (.cells #[.slice r.l.a r.l.n r.l.cap, .slice r.one.a r.one.n r.one.cap, .slice r.two.a r.two.n r.two.cap, .slice r.three.a r.three.n r.three.cap, .int .i64 (hs.length : Int)] 65)).alloc (.cells #[.slice r.l.a r.l.n r.l.cap, .slice r.one.a r.one.n r.one.cap, .slice r.two.a r.two.n r.two.cap, .slice r.three.a r.three.n r.three.cap, .int .i64 (hs.length : Int)] 65)).drew wb 34 [ps.val, bs2.val, ds.val, es.val]) := RowV.below hW1 hW1.lt hbx
  have HB2 : Hid (BkAt ((w1.alloc (.cells #[.slice r.l.a r.l.n r.l.cap, .slice r.one.a r.one.n r.one.cap, .slice r.two.a r.two.n r.two.cap, .slice r.three.a r.three.n r.three.cap, .int .i64 (hs.length : Int)] 65)).alloc (.cells #[.slice r.l.a r.l.n r.l.cap, .slice r.one.a r.one.n r.one.cap, .slice r.two.a r.two.n r.two.cap, .slice r.three.a r.three.n r.three.cap, .int .i64 (hs.length : Int)] 65)).drew bs2 rs2) := hB1.below hbx
  have HE2 : Hid (BeAt ((w1.alloc (.cells #[.slice r.l.a r.l.n r.l.cap, .slice r.one.a r.one.n r.one.cap, .slice r.two.a r.two.n r.two.cap, .slice r.three.a r.three.n r.three.cap, .int .i64 (hs.length : Int)] 65)).alloc (.cells #[.slice r.l.a r.l.n r.l.cap, .slice r.one.a r.one.n r.one.cap, .slice r.two.a r.two.n r.two.cap, .slice r.three.a r.three.n r.three.cap, .int .i64 (hs.length : Int)] 65)).drew es hs) := hE1.below hbx
  have HR2 : Hid (BkOk ((w1.alloc (.cells #[.slice r.l.a r.l.n r.l.cap, .slice r.one.a r.one.n r.one.cap, .slice r.two.a r.two.n r.two.cap, .slice r.three.a r.three.n r.three.cap, .int .i64 (hs.length : Int)] 65)).alloc (.cells #[.slice r.l.a r.l.n r.l.cap, .slice r.one.a r.one.n r.one.cap, .slice r.two.a r.two.n r.two.cap, .slice r.three.a r.three.n r.three.cap, .int .i64 (hs.length : Int)] 65)).drew (patE kb) 2 r) := hr1.below hbx
  have HM2 : Hid (MkAt ((w1.alloc (.cells #[.slice r.l.a r.l.n r.l.cap, .slice r.one.a r.one.n r.one.cap, .slice r.two.a r.two.n r.two.cap, .slice r.three.a r.three.n r.three.cap, .int .i64 (hs.length : Int)] 65)).alloc (.cells #[.slice r.l.a r.l.n r.l.cap, .slice r.one.a r.one.n r.one.cap, .slice r.two.a r.two.n r.two.cap, .slice r.three.a r.three.n r.three.cap, .int .i64 (hs.length : Int)] 65)).drew hs.length kb) := hmk1.below hbx
  have HG1 : Hid (∀ k, bkF r k → v.val.ownBlock = some k ∨ wc.heap.size + 1 < k) := hg1
  have HKB : Hid (kb = wc.heap.size + 1) := hkb1
  have HFR : Hid (Frame (fun k => v.val.ownBlock = some k) wc ((w1.alloc (.cells #[.slice r.l.a r.l.n r.l.cap, .slice r.one.a r.one.n r.one.cap, .slice r.two.a r.two.n r.two.cap, .slice r.three.a r.three.n r.three.cap, .int .i64 (hs.length : Int)] 65)).alloc (.cells #[.slice r.l.a r.l.n r.l.cap, .slice r.one.a r.one.n r.one.cap, .slice r.two.a r.two.n r.two.cap, .slice r.three.a r.three.n r.three.cap, .int .i64 (hs.length : Int)] 65)).drew) := hf1.trans (Frame.of_below_all hbx)
  have hwb1 : wb < w1.heap.size := hW1.lt
  have hne1 : wb ≠ w1.heap.size := by omega
  clear hbx hR0 hW1 hB1 hE1 hf1 hr1 hmk1 hg1 hkb1 hnb hne hwv HOE c3
  unfold bkC
  unfold SlR.val
  go_wp2
  go_region_law ((refine step_appendV (by rfl) (.tmp 37) (.tmp 39) 30 (by rfl) 0 65 _ 5 104 Tryz.underlying30 Tryz.infoEntBk rfl (by decide) (.slice es.a es.n es.cap) hs.length (bksF 0 (hs.map (·.r))) (by rfl) HOX.out ⟨w1.heap.size + 1, 0, none⟩ 1 1 (bkC r hs.length) (by rfl) rfl HSX.out H1.out (by have := HH.out; unfold maxLen; omega) (by have := HH.out; omega) (Nat.zero_le _) ?_; intro a2 n2 c2 w2 ho2 hf2 hat2; have hW3 := RowV.of_block HW2.out (hf2.block _ HW2.out.lt (fun e => owns_ne HOX.out HW2.out (by decide) e)); have z1 : w2.cell? ⟨wb, 3, none⟩ = some (.slice es.a es.n es.cap) := RowV.cell hW3 3 (by simp); have z2 : w2.frozen? ⟨wb, 3, none⟩ = false := RowV.frozen hW3 3))
  all_goals
   go_wp2
   go_returns
   exact ent_fin HP.out HS2.out hW3 HB2.out HE2.out HR2.out HM2.out HG1.out HKB.out HFR.out HVO.out HVF.out ho2 hf2 hat2
end Go.Proofs.YtekegfbjbainhaaGreat


namespace Go.Proofs.YtekegfbjbainhaaGreat
open Go.RowKit
attribute [local go_sem ↓] Go.wp_at_zero Go.wp_at_succ
def signB (m : Nat) : List UInt8 := [UInt8.ofNat m, UInt8.ofNat (m / 256), UInt8.ofNat (m / 65536), 77, 0, 0, 0, 0]
theorem signB_length (m : Nat) : (signB m).length = 8 := rfl
theorem u8c_nat (n : Nat) : u8c (UInt8.ofNat n) = .int .u8 ((n : Int) % 256) := by
 unfold u8c
 rw [UInt8.toNat_ofNat']
 simp
theorem signB_cells (m : Nat) : (signB m).map u8c = [.int .u8 ((m : Int) % 256), .int .u8 ((m : Int) / 256 % 256), .int .u8 ((m : Int) / 65536 % 256), .int .u8 77, .int .u8 0, .int .u8 0, .int .u8 0, .int .u8 0] := by
 unfold signB
 rw [List.map_cons, List.map_cons, List.map_cons, u8c_nat, u8c_nat, u8c_nat]
 rfl
set_option maxRecDepth 100000 in
set_option maxHeartbeats 1000000 in
theorem sign_any (m : Nat) (w : World) (hm : m ≤ 140737488355328) :
  Calls Tryz.prog 101 #[.int .i64 (m : Int)] w fun e w' => e = .returned (dV (signB m)) ∧ Below w.heap.size w w' := by
 have hmI : (m : Int) ≤ 140737488355328 := by omega
 have hm0 : (0 : Int) ≤ m := by omega
 unfold dV
 rw [signB_cells]
 go_enter Tryz.func101, Tryz.ntmps101
 go_wp2
 go_returns
 exact ⟨rfl, by go_grown⟩
def patD (m : Nat) : Nat → Value := fun j => ((signB m).map u8c).getD (j % 8) (.int .u8 0)
theorem patD_at (m k j : Nat) (hj : j < 8) : patD m (k * 8 + j) = ((signB m).map u8c).getD j (.int .u8 0) := by
 unfold patD
 rw [show (k * 8 + j) % 8 = j by omega]
set_option maxRecDepth 100000 in
set_option maxHeartbeats 2000000 in
theorem allDigests_any (s : SlR) (m : Nat) (w : World) (h : PatSl w (patD m) 8 s) (hn : s.n ≤ 140737488355328) (hm : m ≤ 140737488355328) :
  Calls Tryz.prog 58 #[s.val, .int .i64 (m : Int)] w fun e w' => e = .returned (.bool true) ∧ Below w.heap.size w w' := by
 have hmI : (m : Int) ≤ 140737488355328 := by omega
 have hm0 : (0 : Int) ≤ m := by omega
 have hnI : (s.n : Int) ≤ 140737488355328 := by omega
 have HP : Hid (PatSl w (patD m) 8 s) := h
 have HSG : Hid (∀ W, Calls Tryz.prog 101 #[.int .i64 (m : Int)] W fun e w' => e = .returned (dV (signB m)) ∧ Below W.heap.size W w') := fun W => sign_any m W hm
 have HEQ : Hid (∀ W, (Op.equalIn 10000 36 (dV (signB m)) (dV (signB m))).run Tryz.prog W = .ok true W) := fun W => by
  have h := run_equalIn_bytes (P := Tryz.prog) W 9998 36 5 8 Tryz.underlying36 Tryz.underlying5 Tryz.sizeU8 (signB m) (signB m) rfl rfl
  rw [beq_self_eq_true] at h
  exact h
 have HPA := fun k j hj => patD_at m k j hj
 clear h
 unfold dV at HEQ HSG
 rw [signB_cells] at HEQ HSG HPA
 generalize ((m : Int) % 256) = x0 at *
 generalize ((m : Int) / 256 % 256) = x1 at *
 generalize ((m : Int) / 65536 % 256) = x2 at *
 have heq := HEQ.out
 unfold SlR.val
 go_enter Tryz.func58, Tryz.ntmps58
 go_wp2_with fail
 go_loopw [5] (fun i wr => ∃ k : Nat, k ≤ s.n ∧ i = .int .i64 k ∧ Hid (Below w.heap.size w wr)) (fun i _ => s.n - (intOf i).toNat)
 case atStart => exact ⟨0, by omega, rfl, Below.refl _ _⟩
 case round =>
  obtain ⟨k, hk, rfl, HB⟩ := hrel
  by_cases hlt : k < s.n
  ·have hltI : (k : Int) < s.n := by omega
   have HC : ∀ j, j < 8 → ∃ g, s.a = some ⟨g, 0, none⟩ ∧ g < w.heap.size ∧ wr.cell? ⟨g, k * 8 + j, none⟩ = some (patD m (k * 8 + j)) := fun j hj => by
    obtain ⟨g, ha, hg, hc⟩ := HP.out (k * 8 + j) (by omega)
    exact ⟨g, ha, hg, by rw [HB.out.cell (p := ⟨g, k * 8 + j, none⟩) hg]; exact hc⟩
   obtain ⟨g, ha, hg, c0⟩ := HC 0 (by omega)
   obtain ⟨_, ha', _, c1⟩ := HC 1 (by omega)
   rw [ha] at ha'; cases ha'
   obtain ⟨_, ha', _, c2⟩ := HC 2 (by omega)
   rw [ha] at ha'; cases ha'
   obtain ⟨_, ha', _, c3⟩ := HC 3 (by omega)
   rw [ha] at ha'; cases ha'
   obtain ⟨_, ha', _, c4⟩ := HC 4 (by omega)
   rw [ha] at ha'; cases ha'
   obtain ⟨_, ha', _, c5⟩ := HC 5 (by omega)
   rw [ha] at ha'; cases ha'
   obtain ⟨_, ha', _, c6⟩ := HC 6 (by omega)
   rw [ha] at ha'; cases ha'
   obtain ⟨_, ha', _, c7⟩ := HC 7 (by omega)
   rw [ha] at ha'; cases ha'
   rw [HPA k _ (by omega)] at c0 c1 c2 c3 c4 c5 c6 c7
   simp only [List.getD_cons_zero, List.getD_cons_succ, Nat.add_zero] at c0 c1 c2 c3 c4 c5 c6 c7
   have HGW : Hid (g < wr.heap.size) := Nat.lt_of_lt_of_le hg HB.out.size
   rw [ha]
   clear HC
   go_wp2_with fail
   go_region_held3 (fun W => W.cell? ⟨g, k * 8, none⟩ = some (.int .u8 x0) ∧ W.cell? ⟨g, k * 8 + 1, none⟩ = some (.int .u8 x1) ∧ W.cell? ⟨g, k * 8 + 2, none⟩ = some (.int .u8 x2) ∧ W.cell? ⟨g, k * 8 + 3, none⟩ = some (.int .u8 77) ∧ W.cell? ⟨g, k * 8 + 4, none⟩ = some (.int .u8 0) ∧ W.cell? ⟨g, k * 8 + 5, none⟩ = some (.int .u8 0) ∧ W.cell? ⟨g, k * 8 + 6, none⟩ = some (.int .u8 0) ∧ W.cell? ⟨g, k * 8 + 7, none⟩ = some (.int .u8 0)) (go_keep)
    ((go_at_call 101; refine (HSG.out _).mono ?_; rintro r w2 ⟨rfl, hb2⟩; have q0 : w2.cell? ⟨g, k * 8, none⟩ = some (.int .u8 x0) := (by rw [hb2.cell (p := ⟨g, k * 8, none⟩) (by show g < wr.heap.size; exact HGW.out)]; exact c0); have q1 : w2.cell? ⟨g, k * 8 + 1, none⟩ = some (.int .u8 x1) := (by rw [hb2.cell (p := ⟨g, k * 8 + 1, none⟩) (by show g < wr.heap.size; exact HGW.out)]; exact c1); have q2 : w2.cell? ⟨g, k * 8 + 2, none⟩ = some (.int .u8 x2) := (by rw [hb2.cell (p := ⟨g, k * 8 + 2, none⟩) (by show g < wr.heap.size; exact HGW.out)]; exact c2); have q3 : w2.cell? ⟨g, k * 8 + 3, none⟩ = some (.int .u8 77) := (by rw [hb2.cell (p := ⟨g, k * 8 + 3, none⟩) (by show g < wr.heap.size; exact HGW.out)]; exact c3); have q4 : w2.cell? ⟨g, k * 8 + 4, none⟩ = some (.int .u8 0) := (by rw [hb2.cell (p := ⟨g, k * 8 + 4, none⟩) (by show g < wr.heap.size; exact HGW.out)]; exact c4); have q5 : w2.cell? ⟨g, k * 8 + 5, none⟩ = some (.int .u8 0) := (by rw [hb2.cell (p := ⟨g, k * 8 + 5, none⟩) (by show g < wr.heap.size; exact HGW.out)]; exact c5); have q6 : w2.cell? ⟨g, k * 8 + 6, none⟩ = some (.int .u8 0) := (by rw [hb2.cell (p := ⟨g, k * 8 + 6, none⟩) (by show g < wr.heap.size; exact HGW.out)]; exact c6); have q7 : w2.cell? ⟨g, k * 8 + 7, none⟩ = some (.int .u8 0) := (by rw [hb2.cell (p := ⟨g, k * 8 + 7, none⟩) (by show g < wr.heap.size; exact HGW.out)]; exact c7)))
   all_goals
    have HB2 : Hid (Below w.heap.size w w2) := by
     have h2 : Below wr.heap.size wr w2 := ⟨hb2.os, hb2.tape, hb2.output, hb2.size, hb2.block⟩
     exact HB.out.trans (h2.mono HB.out.size)
    clear hb2
    go_wp2
    refine ⟨⟨k + 1, by omega, by go_num, HB2⟩, by simp [intOf]; omega⟩
  ·have hltI : ¬ (k : Int) < s.n := by omega
   go_wp2
   go_ret
   exact ⟨rfl, HB.out⟩
set_option maxRecDepth 100000 in
set_option maxHeartbeats 1000000 in
theorem stillD_any (r : BkR) (m : Nat) (w : World) (h : BkOk w (patD m) 8 r) (hm : m ≤ 140737488355328) :
  Calls Tryz.prog 25 #[.agg (bkC r m).toArray] w fun e w' => e = .returned (.bool true) ∧ Below w.heap.size w w' := by
 have hb : Below w.heap.size w (w.alloc (.cells #[.slice r.l.a r.l.n r.l.cap, .slice r.one.a r.one.n r.one.cap, .slice r.two.a r.two.n r.two.cap, .slice r.three.a r.three.n r.three.cap, .int .i64 (m : Int)] 62)) := (Below.refl _ _).alloc (Nat.le_refl _) _
 have HR : Hid (RowV (w.alloc (.cells #[.slice r.l.a r.l.n r.l.cap, .slice r.one.a r.one.n r.one.cap, .slice r.two.a r.two.n r.two.cap, .slice r.three.a r.three.n r.three.cap, .int .i64 (m : Int)] 62)) w.heap.size 62 [.slice r.l.a r.l.n r.l.cap, .slice r.one.a r.one.n r.one.cap, .slice r.two.a r.two.n r.two.cap, .slice r.three.a r.three.n r.three.cap, .int .i64 (m : Int)]) := RowV.new w _ _
 have HH : Hid (∀ W, Below w.heap.size w W → (Calls Tryz.prog 58 #[r.l.val, .int .i64 (m : Int)] W fun e w' => e = .returned (.bool true) ∧ Below W.heap.size W w') ∧ (Calls Tryz.prog 58 #[r.one.val, .int .i64 (m : Int)] W fun e w' => e = .returned (.bool true) ∧ Below W.heap.size W w') ∧ (Calls Tryz.prog 58 #[r.two.val, .int .i64 (m : Int)] W fun e w' => e = .returned (.bool true) ∧ Below W.heap.size W w') ∧ (Calls Tryz.prog 58 #[r.three.val, .int .i64 (m : Int)] W fun e w' => e = .returned (.bool true) ∧ Below W.heap.size W w')) := fun W hb => by
  have h' := h.below hb
  exact ⟨allDigests_any r.l m _ h'.l (by have := h.nl; omega) hm, allDigests_any r.one m _ h'.one (by have := h.n1; omega) hm, allDigests_any r.two m _ h'.two (by have := h.n2; omega) hm, allDigests_any r.three m _ h'.three (by have := h.n3; omega) hm⟩
 have HB : Hid (Below w.heap.size w _) := hb
 clear h hb
 unfold bkC
 unfold SlR.val at HH ⊢
 go_enter Tryz.func25, Tryz.ntmps25
 go_wp2_with fail
 refine (HH.out _ HB.out).1.mono ?_
 rintro e w1 ⟨rfl, hb1⟩
 have HB1 : Hid (Below w.heap.size w w1) := HB.out.trans (hb1.mono HB.out.size)
 have HR1 := RowV.below HR.out HR.out.lt hb1
 have c1 := HR1.cell 1 (by simp)
 have c2 := HR1.cell 2 (by simp)
 have c3 := HR1.cell 3 (by simp)
 have c4 := HR1.cell 4 (by simp)
 simp only [List.getElem_cons_zero, List.getElem_cons_succ] at c1 c2 c3 c4
 have HR1 : Hid _ := HR1
 clear hb1 HR
 go_wp2_with fail
 refine (HH.out _ HB1.out).2.1.mono ?_
 rintro e w2 ⟨rfl, hb2⟩
 have HB2 : Hid (Below w.heap.size w w2) := HB1.out.trans (hb2.mono HB1.out.size)
 have HR2 := RowV.below HR1.out (RowV.lt HR1.out) hb2
 clear c1 c2 c3 c4
 have c2 := HR2.cell 2 (by simp)
 have c3 := HR2.cell 3 (by simp)
 have c4 := HR2.cell 4 (by simp)
 simp only [List.getElem_cons_zero, List.getElem_cons_succ] at c2 c3 c4
 have HR2 : Hid _ := HR2
 clear hb2 HR1
 go_wp2_with fail
 refine (HH.out _ HB2.out).2.2.1.mono ?_
 rintro e w3 ⟨rfl, hb3⟩
 have HB3 : Hid (Below w.heap.size w w3) := HB2.out.trans (hb3.mono HB2.out.size)
 have HR3 := RowV.below HR2.out (RowV.lt HR2.out) hb3
 clear c2 c3 c4
 have c3 := HR3.cell 3 (by simp)
 have c4 := HR3.cell 4 (by simp)
 simp only [List.getElem_cons_zero, List.getElem_cons_succ] at c3 c4
 clear hb3 HR2 HR3
 go_wp2_with fail
 refine (HH.out _ HB3.out).2.2.2.mono ?_
 rintro e w4 ⟨rfl, hb4⟩
 have HB4 : Hid (Below w.heap.size w w4) := HB3.out.trans (hb4.mono HB3.out.size)
 clear hb4
 go_wp2
 go_ret
 exact ⟨rfl, HB4.out⟩
structure BdAt (w : World) (ds : SlR) (gs : List BkR) : Prop where
 own : w.ownsRow 0 62 5 ds.val gs.length (bksF 0 gs)
 ok : ∀ i (h : i < gs.length), BkOk w (patD i) 8 gs[i]
 apart : ∀ r ∈ gs, ∀ k, bkF r k → ds.val.ownBlock ≠ some k
theorem BdAt.frame {w w' : World} {S : Nat → Prop} {ds : SlR} {gs : List BkR} (h : BdAt w ds gs) (hf : Frame S w w') (hS : ∀ k, bookF ds gs k → ¬ S k) : BdAt w' ds gs :=
 ⟨owns_frame h.own hf (fun k hk => hS k (Or.inl hk)), fun i hi => (h.ok i hi).frame hf (fun k hk => hS k (Or.inr ⟨gs[i], List.getElem_mem hi, hk⟩)), h.apart⟩
theorem BdAt.below {w w' : World} {ds : SlR} {gs : List BkR} (h : BdAt w ds gs) (hb : Below w.heap.size w w') : BdAt w' ds gs := h.frame (Frame.of_below_all (S := fun _ => False) hb) (fun _ _ e => e)
theorem BdAt.lt {w : World} {ds : SlR} {gs : List BkR} (h : BdAt w ds gs) : ∀ k, bookF ds gs k → k < w.heap.size := fun k hk => by
 rcases hk with hk | ⟨r, hr, hk⟩
 ·exact (h.own.lt k hk).2
 ·obtain ⟨i, hi, rfl⟩ := List.getElem_of_mem hr
  exact (h.ok i hi).lt k hk
theorem BdAt.nil (w : World) : BdAt w ⟨none, 0, 0⟩ [] := ⟨World.ownsRow_nil _ _ _ _, fun i h => absurd h (Nat.not_lt_zero _), fun r hr => (by cases hr)⟩
end Go.Proofs.YtekegfbjbainhaaGreat


namespace Go.Proofs.YtekegfbjbainhaaGreat
open Go.RowKit
theorem Tryz.sizeDigsB : (Tryz.prog.info? 62).map (·.size) = some 5 := by kernel_rfl
theorem Tryz.infoDigP : (Tryz.prog.info? 36).map (fun i => (i.zero, i.size, i.bytes)) = some (some (.agg #[.int .u8 0, .int .u8 0, .int .u8 0, .int .u8 0, .int .u8 0, .int .u8 0, .int .u8 0, .int .u8 0]), 8, 8) := by kernel_rfl
theorem patD_mod (m k : Nat) : (fun j => patD m (k * 8 + j)) = fun j => ((signB m).map u8c).getD (j % 8) (.int .u8 0) := funext fun j => by
 unfold patD
 rw [show (k * 8 + j) % 8 = j % 8 by omega]
theorem mark_moreD {W : World} {base k m : Nat} {v : Value} {y0 y1 y2 y3 y4 y5 y6 y7 : UInt8} (hy : signB m = [y0, y1, y2, y3, y4, y5, y6, y7]) (q : Nat) (hq : q = 1 ∨ q = 2 ∨ q = 3) (h : W.ownsRow base 36 8 v k (patL (patD m) (k * 8))) : (W.alloc (.cells (List.replicate q [Value.int .u8 (y0.toNat : Int), Value.int .u8 (y1.toNat : Int), Value.int .u8 (y2.toNat : Int), Value.int .u8 (y3.toNat : Int), Value.int .u8 (y4.toNat : Int), Value.int .u8 (y5.toNat : Int), Value.int .u8 (y6.toNat : Int), Value.int .u8 (y7.toNat : Int)]).flatten.toArray 36)).ownsRow base 36 8 v k (patL (patD m) (k * 8)) ∧ SlV (W.alloc (.cells (List.replicate q [Value.int .u8 (y0.toNat : Int), Value.int .u8 (y1.toNat : Int), Value.int .u8 (y2.toNat : Int), Value.int .u8 (y3.toNat : Int), Value.int .u8 (y4.toNat : Int), Value.int .u8 (y5.toNat : Int), Value.int .u8 (y6.toNat : Int), Value.int .u8 (y7.toNat : Int)]).flatten.toArray 36)) (some ⟨W.heap.size, 0, none⟩) (patL (fun j => patD m (k * 8 + j)) (q * 8)) := by
 refine ⟨h.alloc _, ?_⟩
 have e : patL (fun j => patD m (k * 8 + j)) (q * 8) = (List.replicate q [Value.int .u8 (y0.toNat : Int), Value.int .u8 (y1.toNat : Int), Value.int .u8 (y2.toNat : Int), Value.int .u8 (y3.toNat : Int), Value.int .u8 (y4.toNat : Int), Value.int .u8 (y5.toNat : Int), Value.int .u8 (y6.toNat : Int), Value.int .u8 (y7.toNat : Int)]).flatten := by
  rw [patD_mod, hy]
  rcases hq with rfl | rfl | rfl
  ·rfl
  ·rfl
  ·rfl
 rw [e]
 exact SlV.alloc_new W _ _
theorem patD_set8 (m : Nat) (xs : List Value) (k : Nat) {y0 y1 y2 y3 y4 y5 y6 y7 : UInt8} (hy : signB m = [y0, y1, y2, y3, y4, y5, y6, y7]) (h : k * 8 + 7 < xs.length) :
  ((((((((patL (patD m) (k * 8) ++ xs.drop (k * 8)).set (k * 8) (Value.int .u8 (y0.toNat : Int))).set (k * 8 + 1) (Value.int .u8 (y1.toNat : Int))).set (k * 8 + 2) (Value.int .u8 (y2.toNat : Int))).set (k * 8 + 3) (Value.int .u8 (y3.toNat : Int))).set (k * 8 + 4) (Value.int .u8 (y4.toNat : Int))).set (k * 8 + 5) (Value.int .u8 (y5.toNat : Int))).set (k * 8 + 6) (Value.int .u8 (y6.toNat : Int))).set (k * 8 + 7) (Value.int .u8 (y7.toNat : Int)) = patL (patD m) ((k + 1) * 8) ++ xs.drop ((k + 1) * 8) := by
 have hp : ∀ j, j < 8 → patD m (k * 8 + j) = ([y0, y1, y2, y3, y4, y5, y6, y7].map u8c).getD j (.int .u8 0) := fun j hj => by rw [patD_at m k j hj, hy]
 have e0 : Value.int .u8 (y0.toNat : Int) = patD m (k * 8) := (hp 0 (by omega)).symm
 have e1 : Value.int .u8 (y1.toNat : Int) = patD m (k * 8 + 1) := (hp 1 (by omega)).symm
 have e2 : Value.int .u8 (y2.toNat : Int) = patD m (k * 8 + 2) := (hp 2 (by omega)).symm
 have e3 : Value.int .u8 (y3.toNat : Int) = patD m (k * 8 + 3) := (hp 3 (by omega)).symm
 have e4 : Value.int .u8 (y4.toNat : Int) = patD m (k * 8 + 4) := (hp 4 (by omega)).symm
 have e5 : Value.int .u8 (y5.toNat : Int) = patD m (k * 8 + 5) := (hp 5 (by omega)).symm
 have e6 : Value.int .u8 (y6.toNat : Int) = patD m (k * 8 + 6) := (hp 6 (by omega)).symm
 have e7 : Value.int .u8 (y7.toNat : Int) = patD m (k * 8 + 7) := (hp 7 (by omega)).symm
 rw [e0, pat_set _ _ _ (by omega), e1, pat_set _ _ _ (by omega), e2, pat_set _ _ _ (by omega), e3, pat_set _ _ _ (by omega), e4, pat_set _ _ _ (by omega), e5, pat_set _ _ _ (by omega), e6, pat_set _ _ _ (by omega), e7, pat_set _ _ _ (by omega), show (k + 1) * 8 = k * 8 + 7 + 1 by omega]
set_option maxRecDepth 100000 in
set_option maxHeartbeats 4000000 in
theorem ownDigests_any (v : SlR) (n : Nat) (xs : List Value) (base m : Nat) (w : World) (ho : w.ownsRow base 36 8 v.val n xs) (hL : n ≤ 1000000000) (hm : m ≤ 140737488355328) (hb : base ≤ w.heap.size) :
  Calls Tryz.prog 98 #[v.val, .int .i64 (m : Int)] w fun e w' => ∃ r : BkR, e = .returned (.agg (bkC r m).toArray) ∧ BkOk w' (patD m) 8 r ∧ Frame (fun k => v.val.ownBlock = some k) w w' ∧ (∀ k, bkF r k → v.val.ownBlock = some k ∨ w.heap.size < k) := by
 have hcp := owns_cap (a := v.a) (n' := v.n) (cap := v.cap) ho
 obtain ⟨va, vn, vc⟩ := v
 unfold SlR.val at ho ⊢
 simp only at ho hcp ⊢
 obtain ⟨h1, h2, h3, h4⟩ := hcp
 subst h1
 have hmI : (m : Int) ≤ 140737488355328 := by omega
 have hxl : xs.length = vn * 8 := ho.1
 have hA : Below w.heap.size w (w.alloc (.cells #[.slice none 0 0, .slice none 0 0, .slice none 0 0, .slice none 0 0, .int .i64 0] 62)) := (Below.refl _ _).alloc (Nat.le_refl _) _
 have HVL : Hid (∀ k, (Value.slice va vn vc).ownBlock = some k → base ≤ k ∧ k < w.heap.size) := ho.lt
 have hnI : (vn : Int) ≤ 1000000000 := by omega
 have HAD : Hid (va = none ∧ vn = 0 ∧ vc = 0 ∨ ∃ g, va = some ⟨g, 0, none⟩ ∧ base ≤ g ∧ g < w.heap.size) := h4
 have HB : Hid (base ≤ w.heap.size) := hb
 have HL : Hid (vn ≤ 1000000000) := hL
 have HXL : Hid (xs.length = vn * 8) := hxl
 have HSG : Hid (Calls _ _ _ _ _) := sign_any m (w.alloc (.cells #[.slice none 0 0, .slice none 0 0, .slice none 0 0, .slice none 0 0, .int .i64 0] 62)) hm
 obtain ⟨y0, y1, y2, y3, y4, y5, y6, y7, hy⟩ := list8 (signB m) (signB_length m)
 have HY : Hid (signB m = [y0, y1, y2, y3, y4, y5, y6, y7]) := hy
 rw [hy] at HSG
 go_enter Tryz.func98, Tryz.ntmps98
 go_wp2_with fail
 refine HSG.out.mono ?_
 rintro e w1 ⟨rfl, hb1⟩
 have hz1 := hb1.size
 simp only [World.size_alloc] at hz1
 have hb1' : Below w.heap.size w w1 := hA.trans (hb1.mono hA.size)
 have HR0 : Hid (RowV (w1.alloc (.cells #[Value.int .u8 (y0.toNat : Int), Value.int .u8 (y1.toNat : Int), Value.int .u8 (y2.toNat : Int), Value.int .u8 (y3.toNat : Int), Value.int .u8 (y4.toNat : Int), Value.int .u8 (y5.toNat : Int), Value.int .u8 (y6.toNat : Int), Value.int .u8 (y7.toNat : Int)] 36)) w.heap.size 62 [.slice none 0 0, .slice none 0 0, .slice none 0 0, .slice none 0 0, .int .i64 0]) := ((RowV.new w 62 [.slice none 0 0, .slice none 0 0, .slice none 0 0, .slice none 0 0, .int .i64 0]).below (by simp) hb1).alloc _
 have HX0 : Hid (RowV (w1.alloc (.cells #[Value.int .u8 (y0.toNat : Int), Value.int .u8 (y1.toNat : Int), Value.int .u8 (y2.toNat : Int), Value.int .u8 (y3.toNat : Int), Value.int .u8 (y4.toNat : Int), Value.int .u8 (y5.toNat : Int), Value.int .u8 (y6.toNat : Int), Value.int .u8 (y7.toNat : Int)] 36)) w1.heap.size 36 [Value.int .u8 (y0.toNat : Int), Value.int .u8 (y1.toNat : Int), Value.int .u8 (y2.toNat : Int), Value.int .u8 (y3.toNat : Int), Value.int .u8 (y4.toNat : Int), Value.int .u8 (y5.toNat : Int), Value.int .u8 (y6.toNat : Int), Value.int .u8 (y7.toNat : Int)]) := RowV.new w1 36 [Value.int .u8 (y0.toNat : Int), Value.int .u8 (y1.toNat : Int), Value.int .u8 (y2.toNat : Int), Value.int .u8 (y3.toNat : Int), Value.int .u8 (y4.toNat : Int), Value.int .u8 (y5.toNat : Int), Value.int .u8 (y6.toNat : Int), Value.int .u8 (y7.toNat : Int)]
 have HO0 : Hid ((w1.alloc (.cells #[Value.int .u8 (y0.toNat : Int), Value.int .u8 (y1.toNat : Int), Value.int .u8 (y2.toNat : Int), Value.int .u8 (y3.toNat : Int), Value.int .u8 (y4.toNat : Int), Value.int .u8 (y5.toNat : Int), Value.int .u8 (y6.toNat : Int), Value.int .u8 (y7.toNat : Int)] 36)).ownsRow base 36 8 (.slice va vn vc) vn xs) := (owns_below ho hb1').alloc _
 have HF0 : Hid (Frame (fun k => (Value.slice va vn vc).ownBlock = some k) w (w1.alloc (.cells #[Value.int .u8 (y0.toNat : Int), Value.int .u8 (y1.toNat : Int), Value.int .u8 (y2.toNat : Int), Value.int .u8 (y3.toNat : Int), Value.int .u8 (y4.toNat : Int), Value.int .u8 (y5.toNat : Int), Value.int .u8 (y6.toNat : Int), Value.int .u8 (y7.toNat : Int)] 36))) := Frame.of_below_all (hb1'.alloc hb1'.size _)
 have hxne : w1.heap.size ≠ w.heap.size := by omega
 have HXB : Hid (w.heap.size < w1.heap.size) := by unfold Hid; omega
 unfold dV u8c
 simp only [List.map_cons, List.map_nil]
 clear hA ho h2 h3 h4 hb hL hxl hb1 hb1' hz1 hy HSG
 go_upto_region 2 with fail
 generalize w1.alloc (.cells #[Value.int .u8 (y0.toNat : Int), Value.int .u8 (y1.toNat : Int), Value.int .u8 (y2.toNat : Int), Value.int .u8 (y3.toNat : Int), Value.int .u8 (y4.toNat : Int), Value.int .u8 (y5.toNat : Int), Value.int .u8 (y6.toNat : Int), Value.int .u8 (y7.toNat : Int)] 36) = W at *
 generalize w1.heap.size = xb at *
 go_wp2
 go_loopw [6] (fun i wr => ∃ k : Nat, k ≤ vn ∧ i = .int .i64 k ∧ Hid (wr.ownsRow base 36 8 (.slice va vn vc) vn (patL (patD m) (k * 8) ++ xs.drop (k * 8))) ∧ Hid (Frame (fun k => (Value.slice va vn vc).ownBlock = some k) w wr) ∧ Hid (RowV wr w.heap.size 62 [.slice none 0 0, .slice none 0 0, .slice none 0 0, .slice none 0 0, .int .i64 0]) ∧ Hid (RowV wr xb 36 [Value.int .u8 (y0.toNat : Int), Value.int .u8 (y1.toNat : Int), Value.int .u8 (y2.toNat : Int), Value.int .u8 (y3.toNat : Int), Value.int .u8 (y4.toNat : Int), Value.int .u8 (y5.toNat : Int), Value.int .u8 (y6.toNat : Int), Value.int .u8 (y7.toNat : Int)])) (fun i _ => vn - (intOf i).toNat)
 case atStart => exact ⟨0, by omega, by simp, by unfold Hid; simpa [patL] using HO0.out, HF0, HR0, HX0⟩
 case round =>
  obtain ⟨k, hk, rfl, HO, HF, HR, HX⟩ := hrel
  have x0 : wr.cell? ⟨xb, 0, none⟩ = some (.int .u8 (y0.toNat : Int)) := RowV.cell? HX.out 0
  have x1 : wr.cell? ⟨xb, 1, none⟩ = some (.int .u8 (y1.toNat : Int)) := RowV.cell? HX.out 1
  have x2 : wr.cell? ⟨xb, 2, none⟩ = some (.int .u8 (y2.toNat : Int)) := RowV.cell? HX.out 2
  have x3 : wr.cell? ⟨xb, 3, none⟩ = some (.int .u8 (y3.toNat : Int)) := RowV.cell? HX.out 3
  have x4 : wr.cell? ⟨xb, 4, none⟩ = some (.int .u8 (y4.toNat : Int)) := RowV.cell? HX.out 4
  have x5 : wr.cell? ⟨xb, 5, none⟩ = some (.int .u8 (y5.toNat : Int)) := RowV.cell? HX.out 5
  have x6 : wr.cell? ⟨xb, 6, none⟩ = some (.int .u8 (y6.toNat : Int)) := RowV.cell? HX.out 6
  have x7 : wr.cell? ⟨xb, 7, none⟩ = some (.int .u8 (y7.toNat : Int)) := RowV.cell? HX.out 7
  have hkM : (k : Int) ≤ 1000000000 := by omega
  by_cases hlt : k < vn
  ·have hltI : (k : Int) < vn := by omega
   obtain ⟨g, hva, hbg, hgw⟩ : ∃ g, va = some ⟨g, 0, none⟩ ∧ base ≤ g ∧ g < w.heap.size := by
    rcases HAD.out with ⟨_, h0, _⟩ | h
    ·omega
    ·exact h
   subst hva
   have hkx : k * 8 + 7 < xs.length := by have := HXL.out; omega
   have hlen : (patL (patD m) (k * 8) ++ xs.drop (k * 8)).length = xs.length := by rw [List.length_append, patL_length, List.length_drop]; omega
   obtain ⟨u0, hu0⟩ : ∃ u, (patL (patD m) (k * 8) ++ xs.drop (k * 8))[k * 8]? = some u := ⟨_, List.getElem?_eq_getElem (by rw [hlen]; omega)⟩
   have c0 := World.ownsRow.cellAt HO.out (k * 8) (by omega)
   rw [hu0] at c0
   have f0 := World.ownsRow.frozenAt HO.out (k * 8)
   obtain ⟨u1, hu1⟩ : ∃ u, (patL (patD m) (k * 8) ++ xs.drop (k * 8))[k * 8 + 1]? = some u := ⟨_, List.getElem?_eq_getElem (by rw [hlen]; omega)⟩
   have c1 := World.ownsRow.cellAt HO.out (k * 8 + 1) (by omega)
   rw [hu1] at c1
   have f1 := World.ownsRow.frozenAt HO.out (k * 8 + 1)
   obtain ⟨u2, hu2⟩ : ∃ u, (patL (patD m) (k * 8) ++ xs.drop (k * 8))[k * 8 + 2]? = some u := ⟨_, List.getElem?_eq_getElem (by rw [hlen]; omega)⟩
   have c2 := World.ownsRow.cellAt HO.out (k * 8 + 2) (by omega)
   rw [hu2] at c2
   have f2 := World.ownsRow.frozenAt HO.out (k * 8 + 2)
   obtain ⟨u3, hu3⟩ : ∃ u, (patL (patD m) (k * 8) ++ xs.drop (k * 8))[k * 8 + 3]? = some u := ⟨_, List.getElem?_eq_getElem (by rw [hlen]; omega)⟩
   have c3 := World.ownsRow.cellAt HO.out (k * 8 + 3) (by omega)
   rw [hu3] at c3
   have f3 := World.ownsRow.frozenAt HO.out (k * 8 + 3)
   obtain ⟨u4, hu4⟩ : ∃ u, (patL (patD m) (k * 8) ++ xs.drop (k * 8))[k * 8 + 4]? = some u := ⟨_, List.getElem?_eq_getElem (by rw [hlen]; omega)⟩
   have c4 := World.ownsRow.cellAt HO.out (k * 8 + 4) (by omega)
   rw [hu4] at c4
   have f4 := World.ownsRow.frozenAt HO.out (k * 8 + 4)
   obtain ⟨u5, hu5⟩ : ∃ u, (patL (patD m) (k * 8) ++ xs.drop (k * 8))[k * 8 + 5]? = some u := ⟨_, List.getElem?_eq_getElem (by rw [hlen]; omega)⟩
   have c5 := World.ownsRow.cellAt HO.out (k * 8 + 5) (by omega)
   rw [hu5] at c5
   have f5 := World.ownsRow.frozenAt HO.out (k * 8 + 5)
   obtain ⟨u6, hu6⟩ : ∃ u, (patL (patD m) (k * 8) ++ xs.drop (k * 8))[k * 8 + 6]? = some u := ⟨_, List.getElem?_eq_getElem (by rw [hlen]; omega)⟩
   have c6 := World.ownsRow.cellAt HO.out (k * 8 + 6) (by omega)
   rw [hu6] at c6
   have f6 := World.ownsRow.frozenAt HO.out (k * 8 + 6)
   obtain ⟨u7, hu7⟩ : ∃ u, (patL (patD m) (k * 8) ++ xs.drop (k * 8))[k * 8 + 7]? = some u := ⟨_, List.getElem?_eq_getElem (by rw [hlen]; omega)⟩
   have c7 := World.ownsRow.cellAt HO.out (k * 8 + 7) (by omega)
   rw [hu7] at c7
   have f7 := World.ownsRow.frozenAt HO.out (k * 8 + 7)
   have HO' : Hid (((((((((wr.setCell ⟨g, k * 8, none⟩ (Value.int .u8 (y0.toNat : Int))).setCell ⟨g, k * 8 + 1, none⟩ (Value.int .u8 (y1.toNat : Int))).setCell ⟨g, k * 8 + 2, none⟩ (Value.int .u8 (y2.toNat : Int))).setCell ⟨g, k * 8 + 3, none⟩ (Value.int .u8 (y3.toNat : Int))).setCell ⟨g, k * 8 + 4, none⟩ (Value.int .u8 (y4.toNat : Int))).setCell ⟨g, k * 8 + 5, none⟩ (Value.int .u8 (y5.toNat : Int))).setCell ⟨g, k * 8 + 6, none⟩ (Value.int .u8 (y6.toNat : Int))).setCell ⟨g, k * 8 + 7, none⟩ (Value.int .u8 (y7.toNat : Int))).ownsRow base 36 8 (.slice (some ⟨g, 0, none⟩) vn vc) vn (patL (patD m) ((k + 1) * 8) ++ xs.drop ((k + 1) * 8))) := by
    have h1 := (World.ownsRow.stored HO.out (k * 8) (Value.int .u8 (y0.toNat : Int))).1
    have h2 := (World.ownsRow.stored h1 (k * 8 + 1) (Value.int .u8 (y1.toNat : Int))).1
    have h3 := (World.ownsRow.stored h2 (k * 8 + 2) (Value.int .u8 (y2.toNat : Int))).1
    have h4 := (World.ownsRow.stored h3 (k * 8 + 3) (Value.int .u8 (y3.toNat : Int))).1
    have h5 := (World.ownsRow.stored h4 (k * 8 + 4) (Value.int .u8 (y4.toNat : Int))).1
    have h6 := (World.ownsRow.stored h5 (k * 8 + 5) (Value.int .u8 (y5.toNat : Int))).1
    have h7 := (World.ownsRow.stored h6 (k * 8 + 6) (Value.int .u8 (y6.toNat : Int))).1
    have h8 := (World.ownsRow.stored h7 (k * 8 + 7) (Value.int .u8 (y7.toNat : Int))).1
    rw [patD_set8 m xs k HY.out hkx] at h8
    exact h8
   have hft : Frame (fun q => (Value.slice (some ⟨g, 0, none⟩) vn vc).ownBlock = some q) wr ((((((((wr.setCell ⟨g, k * 8, none⟩ (Value.int .u8 (y0.toNat : Int))).setCell ⟨g, k * 8 + 1, none⟩ (Value.int .u8 (y1.toNat : Int))).setCell ⟨g, k * 8 + 2, none⟩ (Value.int .u8 (y2.toNat : Int))).setCell ⟨g, k * 8 + 3, none⟩ (Value.int .u8 (y3.toNat : Int))).setCell ⟨g, k * 8 + 4, none⟩ (Value.int .u8 (y4.toNat : Int))).setCell ⟨g, k * 8 + 5, none⟩ (Value.int .u8 (y5.toNat : Int))).setCell ⟨g, k * 8 + 6, none⟩ (Value.int .u8 (y6.toNat : Int))).setCell ⟨g, k * 8 + 7, none⟩ (Value.int .u8 (y7.toNat : Int))) := (((((((((Frame.refl (fun q => (Value.slice (some ⟨g, 0, none⟩) vn vc).ownBlock = some q) wr).setCell (p := ⟨g, k * 8, none⟩) rfl _).setCell (p := ⟨g, k * 8 + 1, none⟩) rfl _).setCell (p := ⟨g, k * 8 + 2, none⟩) rfl _).setCell (p := ⟨g, k * 8 + 3, none⟩) rfl _).setCell (p := ⟨g, k * 8 + 4, none⟩) rfl _).setCell (p := ⟨g, k * 8 + 5, none⟩) rfl _).setCell (p := ⟨g, k * 8 + 6, none⟩) rfl _).setCell (p := ⟨g, k * 8 + 7, none⟩) rfl _)
   have hno : ∀ q, w.heap.size ≤ q → ¬ (Value.slice (some ⟨g, 0, none⟩) vn vc).ownBlock = some q := fun q hq e => by have := (HVL.out q e).2; omega
   have HF' : Hid (Frame (fun k => (Value.slice (some ⟨g, 0, none⟩) vn vc).ownBlock = some k) w ((((((((wr.setCell ⟨g, k * 8, none⟩ (Value.int .u8 (y0.toNat : Int))).setCell ⟨g, k * 8 + 1, none⟩ (Value.int .u8 (y1.toNat : Int))).setCell ⟨g, k * 8 + 2, none⟩ (Value.int .u8 (y2.toNat : Int))).setCell ⟨g, k * 8 + 3, none⟩ (Value.int .u8 (y3.toNat : Int))).setCell ⟨g, k * 8 + 4, none⟩ (Value.int .u8 (y4.toNat : Int))).setCell ⟨g, k * 8 + 5, none⟩ (Value.int .u8 (y5.toNat : Int))).setCell ⟨g, k * 8 + 6, none⟩ (Value.int .u8 (y6.toNat : Int))).setCell ⟨g, k * 8 + 7, none⟩ (Value.int .u8 (y7.toNat : Int)))) := HF.out.trans hft
   have HR' : Hid (RowV ((((((((wr.setCell ⟨g, k * 8, none⟩ (Value.int .u8 (y0.toNat : Int))).setCell ⟨g, k * 8 + 1, none⟩ (Value.int .u8 (y1.toNat : Int))).setCell ⟨g, k * 8 + 2, none⟩ (Value.int .u8 (y2.toNat : Int))).setCell ⟨g, k * 8 + 3, none⟩ (Value.int .u8 (y3.toNat : Int))).setCell ⟨g, k * 8 + 4, none⟩ (Value.int .u8 (y4.toNat : Int))).setCell ⟨g, k * 8 + 5, none⟩ (Value.int .u8 (y5.toNat : Int))).setCell ⟨g, k * 8 + 6, none⟩ (Value.int .u8 (y6.toNat : Int))).setCell ⟨g, k * 8 + 7, none⟩ (Value.int .u8 (y7.toNat : Int))) w.heap.size 62 [.slice none 0 0, .slice none 0 0, .slice none 0 0, .slice none 0 0, .int .i64 0]) := RowV.of_block HR.out (hft.block _ HR.out.lt (hno _ (Nat.le_refl _)))
   have HX' : Hid (RowV ((((((((wr.setCell ⟨g, k * 8, none⟩ (Value.int .u8 (y0.toNat : Int))).setCell ⟨g, k * 8 + 1, none⟩ (Value.int .u8 (y1.toNat : Int))).setCell ⟨g, k * 8 + 2, none⟩ (Value.int .u8 (y2.toNat : Int))).setCell ⟨g, k * 8 + 3, none⟩ (Value.int .u8 (y3.toNat : Int))).setCell ⟨g, k * 8 + 4, none⟩ (Value.int .u8 (y4.toNat : Int))).setCell ⟨g, k * 8 + 5, none⟩ (Value.int .u8 (y5.toNat : Int))).setCell ⟨g, k * 8 + 6, none⟩ (Value.int .u8 (y6.toNat : Int))).setCell ⟨g, k * 8 + 7, none⟩ (Value.int .u8 (y7.toNat : Int))) xb 36 [Value.int .u8 (y0.toNat : Int), Value.int .u8 (y1.toNat : Int), Value.int .u8 (y2.toNat : Int), Value.int .u8 (y3.toNat : Int), Value.int .u8 (y4.toNat : Int), Value.int .u8 (y5.toNat : Int), Value.int .u8 (y6.toNat : Int), Value.int .u8 (y7.toNat : Int)]) := RowV.of_block HX.out (hft.block _ HX.out.lt (hno _ (by have := HXB.out; omega)))
   clear hbg hgw hft hno hlen hu0 hu1 hu2 hu3 hu4 hu5 hu6 hu7
   go_wp2
   exact ⟨⟨k + 1, by omega, by go_num, HO', HF', HR', HX'⟩, by simp [intOf]; omega⟩
  ·obtain rfl : k = vn := by omega
   have hltI : ¬ (k : Int) < k := by omega
   have HO1 : Hid (wr.ownsRow base 36 8 (.slice va k vc) k (patL (patD m) (k * 8))) := by
    have := HO.out
    rw [List.drop_eq_nil_of_le (by rw [HXL.out]; exact Nat.le_refl _), List.append_nil] at this
    exact this
   clear HO
   have HP1 : Hid (∀ j, (patD m j).oneCell' = true) := fun j => by
    unfold patD
    rw [HY.out]
    have hj : j % 8 < 8 := Nat.mod_lt _ (by omega)
    generalize j % 8 = q at *
    match q, hj with
    | 0, _ => rfl
    | 1, _ => rfl
    | 2, _ => rfl
    | 3, _ => rfl
    | 4, _ => rfl
    | 5, _ => rfl
    | 6, _ => rfl
    | 7, _ => rfl
   have HN1 : Hid (∀ q, (Value.slice va k vc).ownBlock = some q → q < w.heap.size) := fun q hq => (HVL.out q hq).2
   have HKR : Hid (∀ (W1 W2 : World) (b : Nat) (T : Nat) (l : List Value), w.heap.size ≤ b → RowV W1 b T l → Frame (fun q => (Value.slice va k vc).ownBlock = some q) W1 W2 → RowV W2 b T l) := fun W1 W2 b T l hb h hf => h.of_block (hf.block _ h.lt (fun e => by have := HN1.out _ e; omega))
   have HBW : Hid (base ≤ wr.heap.size) := Nat.le_trans HB.out HF.out.size
   have hxb1 : w.heap.size ≤ xb := by have := HXB.out; omega
   go_wp2_with (first
    | (at_builtin; have ox1 : (wr.alloc (.cells #[Value.int .u8 (y0.toNat : Int), Value.int .u8 (y1.toNat : Int), Value.int .u8 (y2.toNat : Int), Value.int .u8 (y3.toNat : Int), Value.int .u8 (y4.toNat : Int), Value.int .u8 (y5.toNat : Int), Value.int .u8 (y6.toNat : Int), Value.int .u8 (y7.toNat : Int)] 36)).ownsRow base 36 8 (.slice va k vc) k (patL (patD m) (k * 8)) := (mark_moreD HY.out 1 (Or.inl rfl) HO1.out).1; have sx1 : SlV (wr.alloc (.cells #[Value.int .u8 (y0.toNat : Int), Value.int .u8 (y1.toNat : Int), Value.int .u8 (y2.toNat : Int), Value.int .u8 (y3.toNat : Int), Value.int .u8 (y4.toNat : Int), Value.int .u8 (y5.toNat : Int), Value.int .u8 (y6.toNat : Int), Value.int .u8 (y7.toNat : Int)] 36)) (some ⟨wr.heap.size, 0, none⟩) (patL (fun j => patD m (k * 8 + j)) (1 * 8)) := (mark_moreD HY.out 1 (Or.inl rfl) HO1.out).2; refine wp_appendPat (by rfl) (.tmp 22) (.tmp 24) 41 (by rfl) base 36 _ 8 8 Tryz.underlying41 Tryz.infoDigP rfl (by decide) (patD m) (.slice va k vc) k (by rfl) ox1 ⟨wr.heap.size, 0, none⟩ 1 1 (by rfl) sx1 HP1.out (by decide) (by have := HL.out; unfold maxLen; omega) (by have := HL.out; omega) (by have := HBW.out; simp; omega) ?_; intro a2 c2 w2 ho2 hf2 hat2 hk2 hv2; have hX2 := HKR.out _ _ xb _ _ hxb1 (RowV.alloc HX.out _) hf2; have p0 : w2.cell? ⟨xb, 0, none⟩ = some (.int .u8 (y0.toNat : Int)) := RowV.cell? hX2 0; have p1 : w2.cell? ⟨xb, 1, none⟩ = some (.int .u8 (y1.toNat : Int)) := RowV.cell? hX2 1; have p2 : w2.cell? ⟨xb, 2, none⟩ = some (.int .u8 (y2.toNat : Int)) := RowV.cell? hX2 2; have p3 : w2.cell? ⟨xb, 3, none⟩ = some (.int .u8 (y3.toNat : Int)) := RowV.cell? hX2 3; have p4 : w2.cell? ⟨xb, 4, none⟩ = some (.int .u8 (y4.toNat : Int)) := RowV.cell? hX2 4; have p5 : w2.cell? ⟨xb, 5, none⟩ = some (.int .u8 (y5.toNat : Int)) := RowV.cell? hX2 5; have p6 : w2.cell? ⟨xb, 6, none⟩ = some (.int .u8 (y6.toNat : Int)) := RowV.cell? hX2 6; have p7 : w2.cell? ⟨xb, 7, none⟩ = some (.int .u8 (y7.toNat : Int)) := RowV.cell? hX2 7)
    | (at_builtin; have ox2 : (w2.alloc (.cells #[Value.int .u8 (y0.toNat : Int), Value.int .u8 (y1.toNat : Int), Value.int .u8 (y2.toNat : Int), Value.int .u8 (y3.toNat : Int), Value.int .u8 (y4.toNat : Int), Value.int .u8 (y5.toNat : Int), Value.int .u8 (y6.toNat : Int), Value.int .u8 (y7.toNat : Int), Value.int .u8 (y0.toNat : Int), Value.int .u8 (y1.toNat : Int), Value.int .u8 (y2.toNat : Int), Value.int .u8 (y3.toNat : Int), Value.int .u8 (y4.toNat : Int), Value.int .u8 (y5.toNat : Int), Value.int .u8 (y6.toNat : Int), Value.int .u8 (y7.toNat : Int)] 36)).ownsRow base 36 8 (.slice va k vc) k (patL (patD m) (k * 8)) := (mark_moreD HY.out 2 (Or.inr (Or.inl rfl)) hv2).1; have sx2 : SlV (w2.alloc (.cells #[Value.int .u8 (y0.toNat : Int), Value.int .u8 (y1.toNat : Int), Value.int .u8 (y2.toNat : Int), Value.int .u8 (y3.toNat : Int), Value.int .u8 (y4.toNat : Int), Value.int .u8 (y5.toNat : Int), Value.int .u8 (y6.toNat : Int), Value.int .u8 (y7.toNat : Int), Value.int .u8 (y0.toNat : Int), Value.int .u8 (y1.toNat : Int), Value.int .u8 (y2.toNat : Int), Value.int .u8 (y3.toNat : Int), Value.int .u8 (y4.toNat : Int), Value.int .u8 (y5.toNat : Int), Value.int .u8 (y6.toNat : Int), Value.int .u8 (y7.toNat : Int)] 36)) (some ⟨w2.heap.size, 0, none⟩) (patL (fun j => patD m (k * 8 + j)) (2 * 8)) := (mark_moreD HY.out 2 (Or.inr (Or.inl rfl)) hv2).2; refine wp_appendPat (by rfl) (.tmp 26) (.tmp 29) 41 (by rfl) base 36 _ 8 8 Tryz.underlying41 Tryz.infoDigP rfl (by decide) (patD m) (.slice va k vc) k (by rfl) ox2 ⟨w2.heap.size, 0, none⟩ 2 2 (by rfl) sx2 HP1.out (by decide) (by have := HL.out; unfold maxLen; omega) (by have := HL.out; omega) (by have := (Nat.le_trans HBW.out (Nat.le_trans (by simp) hf2.size) : base ≤ w2.heap.size); simp; omega) ?_; intro a3 c3 w3 ho3 hf3 hat3 hk3 hv3; have hX3 := HKR.out _ _ xb _ _ hxb1 (RowV.alloc hX2 _) hf3; have r0 : w3.cell? ⟨xb, 0, none⟩ = some (.int .u8 (y0.toNat : Int)) := RowV.cell? hX3 0; have r1 : w3.cell? ⟨xb, 1, none⟩ = some (.int .u8 (y1.toNat : Int)) := RowV.cell? hX3 1; have r2 : w3.cell? ⟨xb, 2, none⟩ = some (.int .u8 (y2.toNat : Int)) := RowV.cell? hX3 2; have r3 : w3.cell? ⟨xb, 3, none⟩ = some (.int .u8 (y3.toNat : Int)) := RowV.cell? hX3 3; have r4 : w3.cell? ⟨xb, 4, none⟩ = some (.int .u8 (y4.toNat : Int)) := RowV.cell? hX3 4; have r5 : w3.cell? ⟨xb, 5, none⟩ = some (.int .u8 (y5.toNat : Int)) := RowV.cell? hX3 5; have r6 : w3.cell? ⟨xb, 6, none⟩ = some (.int .u8 (y6.toNat : Int)) := RowV.cell? hX3 6; have r7 : w3.cell? ⟨xb, 7, none⟩ = some (.int .u8 (y7.toNat : Int)) := RowV.cell? hX3 7)
    | (at_builtin; have ox3 : (w3.alloc (.cells #[Value.int .u8 (y0.toNat : Int), Value.int .u8 (y1.toNat : Int), Value.int .u8 (y2.toNat : Int), Value.int .u8 (y3.toNat : Int), Value.int .u8 (y4.toNat : Int), Value.int .u8 (y5.toNat : Int), Value.int .u8 (y6.toNat : Int), Value.int .u8 (y7.toNat : Int), Value.int .u8 (y0.toNat : Int), Value.int .u8 (y1.toNat : Int), Value.int .u8 (y2.toNat : Int), Value.int .u8 (y3.toNat : Int), Value.int .u8 (y4.toNat : Int), Value.int .u8 (y5.toNat : Int), Value.int .u8 (y6.toNat : Int), Value.int .u8 (y7.toNat : Int), Value.int .u8 (y0.toNat : Int), Value.int .u8 (y1.toNat : Int), Value.int .u8 (y2.toNat : Int), Value.int .u8 (y3.toNat : Int), Value.int .u8 (y4.toNat : Int), Value.int .u8 (y5.toNat : Int), Value.int .u8 (y6.toNat : Int), Value.int .u8 (y7.toNat : Int)] 36)).ownsRow base 36 8 (.slice va k vc) k (patL (patD m) (k * 8)) := (mark_moreD HY.out 3 (Or.inr (Or.inr rfl)) hv3).1; have sx3 : SlV (w3.alloc (.cells #[Value.int .u8 (y0.toNat : Int), Value.int .u8 (y1.toNat : Int), Value.int .u8 (y2.toNat : Int), Value.int .u8 (y3.toNat : Int), Value.int .u8 (y4.toNat : Int), Value.int .u8 (y5.toNat : Int), Value.int .u8 (y6.toNat : Int), Value.int .u8 (y7.toNat : Int), Value.int .u8 (y0.toNat : Int), Value.int .u8 (y1.toNat : Int), Value.int .u8 (y2.toNat : Int), Value.int .u8 (y3.toNat : Int), Value.int .u8 (y4.toNat : Int), Value.int .u8 (y5.toNat : Int), Value.int .u8 (y6.toNat : Int), Value.int .u8 (y7.toNat : Int), Value.int .u8 (y0.toNat : Int), Value.int .u8 (y1.toNat : Int), Value.int .u8 (y2.toNat : Int), Value.int .u8 (y3.toNat : Int), Value.int .u8 (y4.toNat : Int), Value.int .u8 (y5.toNat : Int), Value.int .u8 (y6.toNat : Int), Value.int .u8 (y7.toNat : Int)] 36)) (some ⟨w3.heap.size, 0, none⟩) (patL (fun j => patD m (k * 8 + j)) (3 * 8)) := (mark_moreD HY.out 3 (Or.inr (Or.inr rfl)) hv3).2; refine wp_appendPat (by rfl) (.tmp 31) (.tmp 35) 41 (by rfl) base 36 _ 8 8 Tryz.underlying41 Tryz.infoDigP rfl (by decide) (patD m) (.slice va k vc) k (by rfl) ox3 ⟨w3.heap.size, 0, none⟩ 3 3 (by rfl) sx3 HP1.out (by decide) (by have := HL.out; unfold maxLen; omega) (by have := HL.out; omega) (by have := (Nat.le_trans HBW.out (Nat.le_trans (Nat.le_trans (by simp) hf2.size) (Nat.le_trans (by simp) hf3.size)) : base ≤ w3.heap.size); simp; omega) ?_; intro a4 c4 w4 ho4 hf4 hat4 hk4 hv4; have hR4 := HKR.out _ _ _ _ _ (Nat.le_refl _) (RowV.alloc (HKR.out _ _ _ _ _ (Nat.le_refl _) (RowV.alloc (HKR.out _ _ _ _ _ (Nat.le_refl _) (RowV.alloc HR.out _) hf2) _) hf3) _) hf4)
    | (refine wp_storeR (by rfl) 62 (.tmp 4) (.tmp 42) (by rfl) w.heap.size (by rfl) [.slice va k vc, .slice a2 (k + 1) c2, .slice a3 (k + 2) c3, .slice a4 (k + 3) c4, .int .i64 (m : Int)] (by rfl) hR4 rfl Tryz.sizeDigsB (fun u hu => bk_one hu) ?_; intro w5 hR5 hf5 hz5))
   have hwr : xb < wr.heap.size := HX.out.lt
   have hXB := HXB.out
   have z2 := hf2.size
   have z3 := hf3.size
   have z4 := hf4.size
   simp only [World.size_alloc] at z2 z3 z4
   have hb2 : Below w2.heap.size w2 (w2.alloc (.cells #[Value.int .u8 (y0.toNat : Int), Value.int .u8 (y1.toNat : Int), Value.int .u8 (y2.toNat : Int), Value.int .u8 (y3.toNat : Int), Value.int .u8 (y4.toNat : Int), Value.int .u8 (y5.toNat : Int), Value.int .u8 (y6.toNat : Int), Value.int .u8 (y7.toNat : Int), Value.int .u8 (y0.toNat : Int), Value.int .u8 (y1.toNat : Int), Value.int .u8 (y2.toNat : Int), Value.int .u8 (y3.toNat : Int), Value.int .u8 (y4.toNat : Int), Value.int .u8 (y5.toNat : Int), Value.int .u8 (y6.toNat : Int), Value.int .u8 (y7.toNat : Int)] 36)) := (Below.refl _ _).alloc (Nat.le_refl _) _
   have hb3 : Below w3.heap.size w3 (w3.alloc (.cells #[Value.int .u8 (y0.toNat : Int), Value.int .u8 (y1.toNat : Int), Value.int .u8 (y2.toNat : Int), Value.int .u8 (y3.toNat : Int), Value.int .u8 (y4.toNat : Int), Value.int .u8 (y5.toNat : Int), Value.int .u8 (y6.toNat : Int), Value.int .u8 (y7.toNat : Int), Value.int .u8 (y0.toNat : Int), Value.int .u8 (y1.toNat : Int), Value.int .u8 (y2.toNat : Int), Value.int .u8 (y3.toNat : Int), Value.int .u8 (y4.toNat : Int), Value.int .u8 (y5.toNat : Int), Value.int .u8 (y6.toNat : Int), Value.int .u8 (y7.toNat : Int), Value.int .u8 (y0.toNat : Int), Value.int .u8 (y1.toNat : Int), Value.int .u8 (y2.toNat : Int), Value.int .u8 (y3.toNat : Int), Value.int .u8 (y4.toNat : Int), Value.int .u8 (y5.toNat : Int), Value.int .u8 (y6.toNat : Int), Value.int .u8 (y7.toNat : Int)] 36)) := (Below.refl _ _).alloc (Nat.le_refl _) _
   have k23 : PatKeep (patD m) w2 w3 := (PatKeep.below hb2).trans hk3 hb2.size
   have k34 : PatKeep (patD m) w3 w4 := (PatKeep.below hb3).trans hk4 hb3.size
   have k24 : PatKeep (patD m) w2 w4 := k23.trans k34 (by omega)
   have g1 : ∀ q, (Value.slice a2 (k + 1) c2).ownBlock = some q → (Value.slice va k vc).ownBlock = some q ∨ w.heap.size < q := fun q hq => by
    rcases hat2 with e | e
    ·exact Or.inl (by rw [← e]; exact hq)
    ·rw [e] at hq; have := Option.some.inj hq; simp at this; exact Or.inr (by omega)
   have g2 : ∀ q, (Value.slice a3 (k + 2) c3).ownBlock = some q → (Value.slice va k vc).ownBlock = some q ∨ w.heap.size < q := fun q hq => by
    rcases hat3 with e | e
    ·exact Or.inl (by rw [← e]; exact hq)
    ·rw [e] at hq; have := Option.some.inj hq; simp at this; exact Or.inr (by omega)
   have g3 : ∀ q, (Value.slice a4 (k + 3) c4).ownBlock = some q → (Value.slice va k vc).ownBlock = some q ∨ w.heap.size < q := fun q hq => by
    rcases hat4 with e | e
    ·exact Or.inl (by rw [← e]; exact hq)
    ·rw [e] at hq; have := Option.some.inj hq; simp at this; exact Or.inr (by omega)
   have hne : ∀ q, ((Value.slice va k vc).ownBlock = some q ∨ w.heap.size < q) → ¬ q = w.heap.size := fun q hq e => by
    rcases hq with h | h
    ·have := HN1.out q h; omega
    ·omega
   have hfw : Frame (fun q => (Value.slice va k vc).ownBlock = some q) w w4 := (((((HF.out.alloc _).trans hf2).alloc _).trans hf3).alloc _).trans hf4
   have hl60 := HL.out
   refine ret_agg (k := 4) (cs := bkC ⟨⟨va, k, vc⟩, ⟨a2, k + 1, c2⟩, ⟨a3, k + 2, c3⟩, ⟨a4, k + 3, c4⟩⟩ m) rfl rfl hR5 Tryz.underlying62 rfl Tryz.sizeDigsB rfl ⟨⟨⟨va, k, vc⟩, ⟨a2, k + 1, c2⟩, ⟨a3, k + 2, c3⟩, ⟨a4, k + 3, c4⟩⟩, rfl, ⟨?_, ?_, ?_, ?_, by simp only; omega, by simp only; omega, by simp only; omega, by simp only; omega, ?_⟩, ?_, ?_⟩
   ·exact (PatSl.own (s := ⟨va, k, vc⟩) hv4).frame hf5 (fun q hq => hne q (Or.inl hq))
   ·exact ((PatSl.own (s := ⟨a2, k + 1, c2⟩) ho2).keep k24 (by omega)).frame hf5 (fun q hq => hne q (g1 q hq))
   ·exact ((PatSl.own (s := ⟨a3, k + 2, c3⟩) ho3).keep k34 (by omega)).frame hf5 (fun q hq => hne q (g2 q hq))
   ·exact (PatSl.own (s := ⟨a4, k + 3, c4⟩) ho4).frame hf5 (fun q hq => hne q (g3 q hq))
   ·intro q hq
    have z5 := hf5.size
    rcases hq with hq | hq | hq | hq
    ·have := (hv4.lt q hq).2; omega
    ·have := (ho2.lt q hq).2; omega
    ·have := (ho3.lt q hq).2; omega
    ·have := (ho4.lt q hq).2; omega
   ·exact Frame.inside hfw hf5 (fun q hlt' e => by omega)
   ·intro q hq
    rcases hq with hq | hq | hq | hq
    ·exact Or.inl hq
    ·exact g1 q hq
    ·exact g2 q hq
    ·exact g3 q hq
end Go.Proofs.YtekegfbjbainhaaGreat
