import Derived.Test.YtekegfbjbainhaaGreatKJoin28
import Derived.Test.YtekegfbjbainhaaGreatKJoin23
import Derived.Deep.CutBlock
import Derived.Deep.DeepCutAuto
set_option linter.unusedVariables false
set_option linter.unusedSimpArgs false

namespace Go.Proofs.YtekegfbjbainhaaGreat
open Go.RowKit
attribute [local go_sem ↓] Go.wp_at_zero Go.wp_at_succ
def flatE (es : List (SlR × SlR)) : List SlR := es.flatMap (fun e => [e.1, e.2])
def flatL (l : List ItR) : List (List UInt8) := l.flatMap (fun x => [x.key, x.more])
def apartS (a b : SlR) : Prop := ∀ k, a.val.ownBlock = some k → b.val.ownBlock ≠ some k
theorem flatE_length (es : List (SlR × SlR)) : (flatE es).length = es.length * 2 := by
 induction es with
 | nil => rfl
 | cons e es ih => simp only [flatE, List.flatMap_cons, List.length_append] at ih ⊢; rw [ih]; simp; omega
theorem flatL_length (l : List ItR) : (flatL l).length = l.length * 2 := by
 induction l with
 | nil => rfl
 | cons e es ih => simp only [flatL, List.flatMap_cons, List.length_append] at ih ⊢; rw [ih]; simp; omega
structure EntsO (w : World) (base : Nat) (v : SlR) (es : List (SlR × SlR)) (l : List ItR) : Prop where
 own : w.ownsRow base 164 2 v.val es.length (entsC es)
 len : es.length = l.length
 ob : ∀ i (h1 : i < (flatE es).length) (h2 : i < (flatL l).length), OwnB w base (flatE es)[i].val (flatL l)[i]
 pw : (flatE es).Pairwise apartS
theorem EntsO.nil (w : World) (base : Nat) : EntsO w base ⟨none, 0, 0⟩ [] [] := ⟨World.ownsRow_nil _ _ _ _, rfl, fun i h => absurd h (Nat.not_lt_zero _), List.Pairwise.nil⟩
theorem EntsO.frame {w w' : World} {S : Nat → Prop} {base : Nat} {v : SlR} {es : List (SlR × SlR)} {l : List ItR} (h : EntsO w base v es l) (hf : Frame S w w') (hS : ∀ k, S k → k < base) : EntsO w' base v es l :=
 ⟨owns_frame h.own hf (fun k hk e => by have := (h.own.lt k hk).1; have := hS k e; omega), h.len, fun i h1 h2 => owns_frame (h.ob i h1 h2) hf (fun k hk e => by have := ((h.ob i h1 h2).lt k hk).1; have := hS k e; omega), h.pw⟩
theorem EntsO.below {w w' : World} {base : Nat} {v : SlR} {es : List (SlR × SlR)} {l : List ItR} (h : EntsO w base v es l) (hf : Below w.heap.size w w') : EntsO w' base v es l := h.frame (Frame.of_below_all (S := fun _ => False) hf) (fun _ e => e.elim)
theorem EntsO.toBase {w : World} {base base' : Nat} {v : SlR} {es : List (SlR × SlR)} {l : List ItR} (h : EntsO w base v es l) (hb : base' ≤ base) : EntsO w base' v es l :=
 ⟨owns_base h.own (fun k hk => Nat.le_trans hb (h.own.lt k hk).1), h.len, fun i h1 h2 => owns_base (h.ob i h1 h2) (fun k hk => Nat.le_trans hb ((h.ob i h1 h2).lt k hk).1), h.pw⟩
theorem owns_apart {w : World} {base base' e e' size size' n n' : Nat} {v v' : Value} {xs xs' : List Value} (h : w.ownsRow base e size v n xs) (h' : w.ownsRow base' e' size' v' n' xs') (hne : e ≠ e') : ∀ k, v.ownBlock = some k → v'.ownBlock ≠ some k := fun k hk hk' => by
 rcases h.2 with ⟨hv, _⟩ | ⟨g, cap, cur, hv, hg, hb, _⟩
 ·rw [hv] at hk; simp [Value.ownBlock] at hk
 ·rcases h'.2 with ⟨hv', _⟩ | ⟨g', cap', cur', hv', hg', hb', _⟩
  ·rw [hv'] at hk'; simp [Value.ownBlock] at hk'
  ·rw [hv] at hk; rw [hv'] at hk'
   simp [Value.ownBlock] at hk hk'
   subst hk; subst hk'
   rw [hb] at hb'
   simp at hb'
   exact hne hb'.2
theorem EntsO.push {w w' : World} {base N : Nat} {v v' : SlR} {es : List (SlR × SlR)} {l : List ItR} {s1 s2 : SlR} {x : ItR} (h : EntsO w base v es l) (h1 : OwnB w base s1.val x.key) (h2 : OwnB w base s2.val x.more) (hlt : ∀ i (g : i < (flatE es).length), ∀ k, (flatE es)[i].val.ownBlock = some k → k < N) (hn1 : ∀ k, s1.val.ownBlock = some k → N ≤ k) (hn2 : ∀ k, s2.val.ownBlock = some k → N ≤ k) (h12 : apartS s1 s2)
  (ho : w'.ownsRow base 164 2 v'.val (es.length + 1) (entsC es ++ entsC [(s1, s2)])) (hf : Frame (fun k => v.val.ownBlock = some k) w w') : EntsO w' base v' (es ++ [(s1, s2)]) (l ++ [x]) := by
 have eE : flatE (es ++ [(s1, s2)]) = flatE es ++ [s1, s2] := by simp [flatE]
 have eL : flatL (l ++ [x]) = flatL l ++ [x.key, x.more] := by simp [flatL]
 have hll : (flatE es).length = (flatL l).length := by rw [flatE_length, flatL_length, h.len]
 refine ⟨by rw [List.length_append, entsC_append]; exact ho, by rw [List.length_append, List.length_append, h.len]; rfl, fun i g1 g2 => ?_, ?_⟩
 ·have key : OwnB w base (flatE (es ++ [(s1, s2)]))[i].val (flatL (l ++ [x]))[i] := by
   simp only [eE, eL] at g1 g2 ⊢
   by_cases hi : i < (flatE es).length
   ·rw [List.getElem_append_left hi, List.getElem_append_left (by rw [← hll]; exact hi)]
    exact h.ob i hi _
   ·rw [List.getElem_append_right (by omega), List.getElem_append_right (by rw [← hll]; omega)]
    simp only [← hll]
    have hd : i - (flatE es).length = 0 ∨ i - (flatE es).length = 1 := by simp at g1; omega
    rcases hd with e | e
    ·simp only [e]; exact h1
    ·simp only [e]; exact h2
  exact owns_frame key hf (fun k hk e => owns_apart key h.own (by decide) k hk e)
 ·rw [eE, List.pairwise_append]
  refine ⟨h.pw, by simp [h12], fun a ha b hb k hk hk' => ?_⟩
  obtain ⟨i, hi, rfl⟩ := List.mem_iff_getElem.1 ha
  have := hlt i hi k hk
  simp only [List.mem_cons, List.not_mem_nil, or_false] at hb
  rcases hb with rfl | rfl
  ·have := hn1 k hk'; omega
  ·have := hn2 k hk'; omega
def rngPP (w : World) (q : Nat × List ItR) (e : Ending) (w' : World) : Prop := ∃ (v : SlR) (es : List (SlR × SlR)), e = .returned (.tuple #[v.val, .int .i64 (q.1 : Int)]) ∧ Below w.heap.size w w' ∧ EntsO w' w.heap.size v es q.2
theorem rangeC_rrd (root fr tu proof : List UInt8) : rangeC root fr tu proof = (rrd root fr tu proof).map (fun es => es.filter (inR fr tu)) := by
 rw [rangeC_fin]
 unfold rrd finC
 cases rngRd root fr tu proof with
 | none => rfl
 | some q =>
  obtain ⟨es, r⟩ := q
  simp only
  by_cases h : r = []
  ·simp [h]
  ·simp [h]
theorem rrd_ok (root fr tu proof : List UInt8) (es : List ItR) (h : rrd root fr tu proof = some es) : es.length ≤ proof.length := by
 unfold rrd rngRd at h
 cases hp : pgO (some proof) root with
 | none => rw [hp] at h; cases h
 | some q =>
  obtain ⟨⟨lv, its⟩, r⟩ := q
  rw [hp] at h
  simp only at h
  cases hu : readU fr tu lv its r with
  | none => rw [hu] at h; cases h
  | some q2 =>
   obtain ⟨q1, r1⟩ := q2
   rw [hu] at h
   simp only at h
   split at h
   ·cases h
    have h1 := readU_len fr tu lv its r es r1 hu
    have h2 := pgO_len hp
    omega
   ·cases h
theorem readU_ok (fr tu : List UInt8) : ∀ (lv : Nat) (its : List ItR) (r : List UInt8) (es : List ItR) (r' : List UInt8), PageOk lv its → readU fr tu lv its r = some (es, r') → ∀ x ∈ es, x.key.length ≤ 12 ∧ x.more.length ≤ 12
 | 0, its, r, es, r', hok, h => by
  have h' : some (its, r) = some (es, r') := h
  simp only [Option.some.injEq, Prod.mk.injEq] at h'
  obtain ⟨rfl, rfl⟩ := h'
  exact fun x hx => ⟨(hok.key x hx).2, hok.low rfl x hx⟩
 | lv + 1, its, r, es, r', hok, h => by
  have key : ∀ (sel : List ItR) (s : List ItR × List UInt8), (∀ x ∈ s.1, x.key.length ≤ 12 ∧ x.more.length ≤ 12) → sel.foldlM (stepU (readU fr tu lv) lv) s = some (es, r') → ∀ x ∈ es, x.key.length ≤ 12 ∧ x.more.length ≤ 12 := by
   intro sel
   induction sel with
   | nil => intro s h0 hs; simp only [List.foldlM_nil] at hs; cases hs; exact h0
   | cons y ys ih =>
    intro s h0 hs
    simp only [List.foldlM_cons] at hs
    cases e : stepU (readU fr tu lv) lv s y with
    | none => rw [e] at hs; cases hs
    | some t =>
     rw [e] at hs
     refine ih t ?_ hs
     unfold stepU at e
     split at e
     ·cases e
     ·rename_i l its' r1 hp
      split at e
      ·rename_i hl
       subst hl
       cases e2 : readU fr tu l its' r1 with
       | none => rw [e2] at e; cases e
       | some q =>
        obtain ⟨q1, q2⟩ := q
        rw [e2] at e
        simp only [Option.map_some, Option.some.injEq] at e
        subst e
        intro x hx
        rcases List.mem_append.1 hx with hx | hx
        ·exact h0 x hx
        ·exact readU_ok fr tu l its' r1 q1 q2 (pgO_ok hp) e2 x hx
      ·cases e
  exact key _ _ (fun x hx => by cases hx) h
theorem rrd_lens (root fr tu proof : List UInt8) (es : List ItR) (h : rrd root fr tu proof = some es) : ∀ x ∈ es, x.key.length ≤ 12 ∧ x.more.length ≤ 12 := by
 unfold rrd rngRd at h
 cases hp : pgO (some proof) root with
 | none => rw [hp] at h; cases h
 | some q =>
  obtain ⟨⟨lv, its⟩, r⟩ := q
  rw [hp] at h
  simp only at h
  cases hu : readU fr tu lv its r with
  | none => rw [hu] at h; cases h
  | some q2 =>
   obtain ⟨q1, r1⟩ := q2
   rw [hu] at h
   simp only at h
   split at h
   ·cases h
    exact readU_ok fr tu lv its r es r1 (pgO_ok hp) hu
   ·cases h
end Go.Proofs.YtekegfbjbainhaaGreat


namespace Go.Proofs.YtekegfbjbainhaaGreat
open Go.RowKit
attribute [local go_sem ↓] Go.wp_at_zero Go.wp_at_succ
structure EBk where
 r : BkR
 kb : Nat
def ebF (h : EBk) (k : Nat) : Prop := bkF h.r k ∨ k = h.kb
structure BeAt (w : World) (es : SlR) (hs : List EBk) : Prop where
 own : w.ownsRow 0 65 5 es.val hs.length (bksF 0 (hs.map (·.r)))
 ok : ∀ i (h : i < hs.length), BkOk w (patE hs[i].kb) 2 hs[i].r ∧ MkAt w i hs[i].kb
 apart : ∀ h ∈ hs, ∀ k, ebF h k → es.val.ownBlock ≠ some k
def bookE (es : SlR) (hs : List EBk) (k : Nat) : Prop := es.val.ownBlock = some k ∨ ∃ h ∈ hs, ebF h k
theorem BeAt.frame {w w' : World} {S : Nat → Prop} {es : SlR} {hs : List EBk} (h : BeAt w es hs) (hf : Frame S w w') (hS : ∀ k, bookE es hs k → ¬ S k) : BeAt w' es hs :=
 ⟨owns_frame h.own hf (fun k hk => hS k (Or.inl hk)), fun i hi => ⟨(h.ok i hi).1.frame hf (fun k hk => hS k (Or.inr ⟨hs[i], List.getElem_mem hi, Or.inl hk⟩)), (h.ok i hi).2.frame hf (hS _ (Or.inr ⟨hs[i], List.getElem_mem hi, Or.inr rfl⟩))⟩, h.apart⟩
theorem BeAt.below {w w' : World} {es : SlR} {hs : List EBk} (h : BeAt w es hs) (hb : Below w.heap.size w w') : BeAt w' es hs := h.frame (Frame.of_below_all (S := fun _ => False) hb) (fun _ _ e => e)
theorem BeAt.lt {w : World} {es : SlR} {hs : List EBk} (h : BeAt w es hs) : ∀ k, bookE es hs k → k < w.heap.size := fun k hk => by
 rcases hk with hk | ⟨r, hr, hk | hk⟩
 ·exact (h.own.lt k hk).2
 ·obtain ⟨i, hi, rfl⟩ := List.getElem_of_mem hr
  exact (h.ok i hi).1.lt k hk
 ·obtain ⟨i, hi, rfl⟩ := List.getElem_of_mem hr
  rw [hk]; exact (h.ok i hi).2.lt
theorem BeAt.nil (w : World) : BeAt w ⟨none, 0, 0⟩ [] := ⟨World.ownsRow_nil _ _ _ _, fun i h => absurd h (Nat.not_lt_zero _), fun r hr => (by cases hr)⟩
structure EnSt (w0 : World) (wb : Nat) (ps ds es : SlR) (rs0 : List BkR) (bs0 : SlR) (hs : List EBk) (v : SlR) (n : Nat) (xs : List Value) (fl : List SlR) (ll : List (List UInt8)) (base : Nat) (w : World) (bs : SlR) (rs : List BkR) (j : Nat) : Prop where
 row : RowV w wb 34 [ps.val, bs.val, ds.val, es.val]
 bk : BkAt w bs rs
 be : BeAt w es hs
 own : w.ownsRow base 164 2 v.val n xs
 ob : ∀ i (h1 : i < fl.length) (h2 : i < ll.length), j ≤ i → OwnB w base fl[i].val ll[i]
 len : rs.length = rs0.length + j
 old : ∀ k, bookF bs rs k → k < w0.heap.size → bookF bs0 rs0 k ∨ ∃ i, ∃ h : i < fl.length, i < j ∧ fl[i].val.ownBlock = some k
 fr : Frame (fun k => k = wb ∨ bookF bs0 rs0 k ∨ ∃ x ∈ fl, x.val.ownBlock = some k) w0 w
 bw : ∀ k, bookF bs rs k → k ≠ wb
structure EnPre (w0 : World) (wb : Nat) (bs0 : SlR) (rs0 : List BkR) (es : SlR) (hs : List EBk) (fl : List SlR) (ll : List (List UInt8)) (base : Nat) : Prop where
 wl : wb < base
 bb : base ≤ w0.heap.size
 b0 : ∀ k, bookF bs0 rs0 k → k < base ∧ k ≠ wb
 e0 : ∀ k, bookE es hs k → k < base ∧ k ≠ wb ∧ ¬ bookF bs0 rs0 k
 fo : ∀ i (h : i < fl.length), ∀ k, fl[i].val.ownBlock = some k → base ≤ k ∧ k < w0.heap.size
 pw : fl.Pairwise apartS
 ln : fl.length = ll.length
 l12 : ∀ x ∈ ll, x.length ≤ 100000000000000
theorem EnSt.v {w0 w : World} {wb n base j : Nat} {ps ds es bs0 bs v : SlR} {rs0 rs : List BkR} {hs : List EBk} {xs : List Value} {fl : List SlR} {ll : List (List UInt8)} (p : EnPre w0 wb bs0 rs0 es hs fl ll base) (h : EnSt w0 wb ps ds es rs0 bs0 hs v n xs fl ll base w bs rs j) (hj : j < fl.length) : ∀ k, fl[j].val.ownBlock = some k → k ≠ wb ∧ ¬ bookF bs rs k := fun k hk => by
 have h1 := p.fo j hj k hk
 have h2 := p.wl
 refine ⟨by omega, fun hb => ?_⟩
 rcases h.old k hb h1.2 with g | ⟨i, hi, hij, g⟩
 ·have := (p.b0 k g).1; omega
 ·exact List.pairwise_iff_getElem.1 p.pw i j hi hj hij k g hk
theorem EnSt.next {w0 w w' : World} {wb n base j : Nat} {ps ds es bs0 bs bs' v : SlR} {rs0 rs : List BkR} {r : BkR} {hs : List EBk} {xs : List Value} {fl : List SlR} {ll : List (List UInt8)} (p : EnPre w0 wb bs0 rs0 es hs fl ll base) (h : EnSt w0 wb ps ds es rs0 bs0 hs v n xs fl ll base w bs rs j) (hj : j < fl.length)
  (hr : RowV w' wb 34 [ps.val, bs'.val, ds.val, es.val]) (hb : BkAt w' bs' (rs ++ [r])) (hf : Frame (fun k => k = wb ∨ fl[j].val.ownBlock = some k ∨ bs.val.ownBlock = some k) w w') (hn : ∀ k, bookF bs' (rs ++ [r]) k → k < w.heap.size → bookF bs rs k ∨ fl[j].val.ownBlock = some k) :
  EnSt w0 wb ps ds es rs0 bs0 hs v n xs fl ll base w' bs' (rs ++ [r]) (j + 1) := by
 have hz := h.fr.size
 have hbsn : ∀ k, bs.val.ownBlock = some k → k < w0.heap.size → bookF bs0 rs0 k ∨ base ≤ k := fun k hk hlt => by
  rcases h.old k (Or.inl hk) hlt with g | ⟨i, hi, _, g⟩
  ·exact Or.inl g
  ·exact Or.inr (p.fo i hi k g).1
 have hold : ∀ k, bookF bs' (rs ++ [r]) k → k < w0.heap.size → bookF bs0 rs0 k ∨ ∃ i, ∃ h : i < fl.length, i < j + 1 ∧ fl[i].val.ownBlock = some k := fun k hk hlt => by
  rcases hn k hk (by omega) with g | g
  ·rcases h.old k g hlt with g | ⟨i, hi, hij, g⟩
   ·exact Or.inl g
   ·exact Or.inr ⟨i, hi, by omega, g⟩
  ·exact Or.inr ⟨j, hj, by omega, g⟩
 refine ⟨hr, hb, ?_, ?_, ?_, by rw [List.length_append, h.len]; simp; omega, hold, ?_, ?_⟩
 ·refine h.be.frame hf (fun k hk e => ?_)
  have hk2 := p.e0 k hk
  have hbb := p.bb
  rcases e with e | e | e
  ·exact hk2.2.1 e
  ·have := (p.fo j hj k e).1; omega
  ·rcases hbsn k e (by omega) with g | g
   ·exact hk2.2.2 g
   ·omega
 ·refine owns_frame h.own hf (fun k hk e => ?_)
  have hk2 := (h.own.lt k hk).1
  have hwb := p.wl
  rcases e with e | e | e
  ·omega
  ·exact owns_apart h.own (h.ob j hj (by rw [← p.ln]; exact hj) (Nat.le_refl _)) (by decide) k hk e
  ·exact owns_apart h.own h.bk.own (by decide) k hk e
 ·intro i h1 h2 hij
  have ho := h.ob i h1 h2 (by omega)
  refine owns_frame ho hf (fun k hk e => ?_)
  have hk2 := (ho.lt k hk).1
  have hwb := p.wl
  rcases e with e | e | e
  ·omega
  ·exact List.pairwise_iff_getElem.1 p.pw j i hj h1 (by omega) k e hk
  ·exact owns_apart ho h.bk.own (by decide) k hk e
 ·refine h.fr.inside hf (fun k hlt e => ?_)
  rcases e with e | e | e
  ·exact Or.inl e
  ·exact Or.inr (Or.inr ⟨_, List.getElem_mem hj, e⟩)
  ·rcases h.old k (Or.inl e) hlt with g | ⟨i, hi, _, g⟩
   ·exact Or.inr (Or.inl g)
   ·exact Or.inr (Or.inr ⟨_, List.getElem_mem hi, g⟩)
 ·intro k hk e
  subst e
  have hwl : k < w0.heap.size := by have := p.wl; have := p.bb; omega
  rcases hold k hk hwl with g | ⟨i, hi, _, g⟩
  ·exact (p.b0 k g).2 rfl
  ·have := (p.fo i hi k g).1; have := p.wl; omega
end Go.Proofs.YtekegfbjbainhaaGreat


namespace Go.Proofs.YtekegfbjbainhaaGreat
open Go.RowKit
attribute [local go_sem ↓] Go.wp_at_zero Go.wp_at_succ
theorem flatE_get (el : List (SlR × SlR)) : ∀ (i : Nat) (h : i < el.length), (flatE el)[i * 2]? = some el[i].1 ∧ (flatE el)[i * 2 + 1]? = some el[i].2 := by
 induction el with
 | nil => intro i h; simp at h
 | cons e el ih =>
  intro i h
  cases i with
  | zero => simp [flatE]
  | succ i =>
   have := ih i (by simpa using h)
   simp only [flatE, List.flatMap_cons] at this ⊢
   rw [show (i + 1) * 2 = i * 2 + 1 + 1 by omega, show i * 2 + 1 + 1 + 1 = (i * 2 + 1) + 1 + 1 by omega]
   simpa using this
theorem entsC_cells {w : World} {a : Option Addr} {el : List (SlR × SlR)} (h : SlV w a (entsC el)) (i : Nat) (hi : i < el.length) : ∃ b o, a = some ⟨b, o, none⟩ ∧ b < w.heap.size ∧ w.cell? ⟨b, o + i * 2, none⟩ = some el[i].1.val ∧ w.cell? ⟨b, o + i * 2 + 1, none⟩ = some el[i].2.val := by
 have g := fun j (hj : j < 2) => flat_get entC 2 el (fun _ _ => rfl) i hi j hj
 obtain ⟨b, o, ha, hb, c0⟩ := SlV.at h (g 0 (by omega))
 obtain ⟨b1, o1, ha1, _, c1⟩ := SlV.at h (g 1 (by omega))
 rw [ha] at ha1; cases ha1
 exact ⟨b, o, ha, hb, c0, by rw [Nat.add_assoc]; exact c1⟩
theorem Tryz.infoEntBk : (Tryz.prog.info? 65).map (fun i => (i.zero, i.size, i.bytes)) = some (some (.agg #[.slice none 0 0, .slice none 0 0, .slice none 0 0, .slice none 0 0, .int .i64 0]), 5, 104) := by kernel_rfl
def entPost (w : World) (wb : Nat) (ps ds bs es v : SlR) (rs : List BkR) (hs : List EBk) (fl : List SlR) (n : Nat) (e : Ending) (w' : World) : Prop := e = .returned (.tuple #[]) ∧ ∃ (bs2 : SlR) (rs2 : List BkR) (es2 : SlR) (h : EBk), RowV w' wb 34 [ps.val, bs2.val, ds.val, es2.val] ∧ BkAt w' bs2 rs2 ∧ rs2.length = rs.length + n * 2 ∧ BeAt w' es2 (hs ++ [h]) ∧ Frame (fun k => k = wb ∨ bookF bs rs k ∨ es.val.ownBlock = some k ∨ (∃ x ∈ fl, x.val.ownBlock = some k) ∨ v.val.ownBlock = some k) w w' ∧
 (∀ k, bookF bs2 rs2 k ∨ bookE es2 (hs ++ [h]) k → k < w.heap.size → bookF bs rs k ∨ bookE es hs k ∨ (∃ x ∈ fl, x.val.ownBlock = some k) ∨ v.val.ownBlock = some k) ∧ (∀ k, bookE es2 (hs ++ [h]) k → ¬ bookF bs2 rs2 k ∧ k ≠ wb) ∧ (∀ k, bookF bs2 rs2 k → k ≠ wb)
theorem ent_fin {w wc WB w2 : World} {wb n base kb : Nat} {ps ds es bs bs2 v : SlR} {rs rs2 : List BkR} {r : BkR} {hs : List EBk} {xs : List Value} {fl : List SlR} {ll : List (List UInt8)} {a2 : Option Addr} {n2 c2 : Nat} (p : EnPre w wb bs rs es hs fl ll base) (s : EnSt w wb ps ds es rs bs hs v n xs fl ll base wc bs2 rs2 (n * 2)) (hW3 : RowV w2 wb 34 [ps.val, bs2.val, ds.val, es.val]) (hB : BkAt WB bs2 rs2) (hE : BeAt WB es hs) (hR : BkOk WB (patE kb) 2 r) (hM : MkAt WB hs.length kb)
  (hG : ∀ k, bkF r k → v.val.ownBlock = some k ∨ wc.heap.size + 1 < k) (hK : kb = wc.heap.size + 1) (hF : Frame (fun k => v.val.ownBlock = some k) wc WB) (hvo : ∀ k, v.val.ownBlock = some k → base ≤ k ∧ k < w.heap.size) (hvf : ∀ i (h : i < fl.length), ∀ k, fl[i].val.ownBlock = some k → v.val.ownBlock ≠ some k)
  (ho2 : w2.ownsRow 0 65 5 (.slice a2 n2 c2) (hs.length + 1) (bksF 0 (hs.map (·.r)) ++ bkC r hs.length)) (hf2 : Frame (fun k => es.val.ownBlock = some k) WB w2) (hat2 : (Value.slice a2 n2 c2).ownBlock = es.val.ownBlock ∨ (Value.slice a2 n2 c2).ownBlock = some WB.heap.size) :
  entPost w wb ps ds bs es v rs hs fl n (.returned (.tuple #[])) (w2.setCell ⟨wb, 3, none⟩ (.slice a2 n2 c2)) := by
 have hfs : Frame (fun k => k = wb) w2 (w2.setCell ⟨wb, 3, none⟩ (.slice a2 n2 c2)) := (Frame.refl (fun k => k = wb) _).setCell (p := ⟨wb, 3, none⟩) rfl _
 have z1 := s.fr.size
 have z2 := hF.size
 have hbb := p.bb
 have hwl := p.wl
 have heb : ∀ k, bookE es hs k → ¬ bookF bs2 rs2 k := fun k hk hb => by
  have h1 := p.e0 k hk
  rcases s.old k hb (by omega) with g | ⟨i, hi, _, g⟩
  ·exact h1.2.2 g
  ·have := (p.fo i hi k g).1; omega
 have hnb : ∀ k, bookF bs2 rs2 k → ¬ v.val.ownBlock = some k := fun k hk e => by
  have h1 := hvo k e
  rcases s.old k hk h1.2 with g | ⟨i, hi, _, g⟩
  ·have := (p.b0 k g).1; omega
  ·exact hvf i hi k g e
 have hes : ∀ k, es.val.ownBlock = some k → k < base := fun k hk => (p.e0 k (Or.inl hk)).1
 have hrk : ∀ k, bkF r k ∨ k = kb → base ≤ k ∧ k < WB.heap.size := fun k hk => by
  rcases hk with hk | hk
  ·refine ⟨?_, hR.lt k hk⟩
   rcases hG k hk with g | g
   ·exact (hvo k g).1
   ·omega
  ·rw [hk]; exact ⟨by omega, hM.lt⟩
 have hbl : ∀ k, (Value.slice a2 n2 c2).ownBlock = some k → es.val.ownBlock = some k ∨ k = WB.heap.size := fun k hk => by
  rcases hat2 with e | e
  ·exact Or.inl (by rw [← e]; exact hk)
  ·rw [e] at hk; exact Or.inr (Option.some.inj hk).symm
 have hz3 := hf2.size
 refine ⟨rfl, bs2, rs2, ⟨a2, n2, c2⟩, ⟨r, kb⟩, by simpa [SlR.val] using hW3.set 3 (.slice a2 n2 c2), ?_, s.len, ⟨?_, ?_, ?_⟩, ?_, ?_, ?_, s.bw⟩
 ·exact (hB.frame hf2 (fun k hk e => heb k (Or.inl e) hk)).frame hfs (fun k hk e => s.bw k hk e)
 ·rw [List.length_append, List.length_singleton, List.map_append, List.map_cons, List.map_nil, bksF_snoc, Nat.zero_add, List.length_map]
  exact owns_frame ho2 hfs (fun k hk e => owns_ne ho2 hW3 (by decide) (by rw [← e]; exact hk))
 ·intro i hi
  by_cases hlt : i < hs.length
  ·rw [List.getElem_append_left hlt]
   have hap : ∀ k, ebF hs[i] k → ¬ es.val.ownBlock = some k := fun k hk e => hE.apart _ (List.getElem_mem hlt) k hk e
   have hwb : ∀ k, ebF hs[i] k → ¬ k = wb := fun k hk e => (p.e0 k (Or.inr ⟨_, List.getElem_mem hlt, hk⟩)).2.1 e
   exact ⟨((hE.ok i hlt).1.frame hf2 (fun k hk => hap k (Or.inl hk))).frame hfs (fun k hk => hwb k (Or.inl hk)), ((hE.ok i hlt).2.frame hf2 (hap _ (Or.inr rfl))).frame hfs (hwb _ (Or.inr rfl))⟩
  ·have e : i = hs.length := by simp at hi; omega
   subst e
   rw [List.getElem_append_right (Nat.le_refl _)]
   simp only [Nat.sub_self, List.getElem_singleton]
   have h1 : ∀ k, bkF r k ∨ k = kb → ¬ es.val.ownBlock = some k := fun k hk e => by have := hrk k hk; have := hes k e; omega
   have h2 : ∀ k, bkF r k ∨ k = kb → ¬ k = wb := fun k hk e => by have := hrk k hk; omega
   exact ⟨(hR.frame hf2 (fun k hk => h1 k (Or.inl hk))).frame hfs (fun k hk => h2 k (Or.inl hk)), (hM.frame hf2 (h1 _ (Or.inr rfl))).frame hfs (h2 _ (Or.inr rfl))⟩
 ·intro x hx k hk e
  rcases List.mem_append.1 hx with hx | hx
  ·rcases hbl k e with g | g
   ·exact hE.apart x hx k hk g
   ·have := hE.lt k (Or.inr ⟨x, hx, hk⟩); omega
  ·simp only [List.mem_singleton] at hx
   subst hx
   have h1 := hrk k hk
   rcases hbl k e with g | g
   ·have := hes k g; omega
   ·omega
 ·refine (((s.fr.mono (fun k _ hk => ?_)).inside hF (fun k _ hk => Or.inr (Or.inr (Or.inr (Or.inr hk))))).inside hf2 (fun k _ hk => Or.inr (Or.inr (Or.inl hk)))).inside hfs (fun k _ hk => Or.inl hk)
  rcases hk with hk | hk | hk
  ·exact Or.inl hk
  ·exact Or.inr (Or.inl hk)
  ·exact Or.inr (Or.inr (Or.inr (Or.inl hk)))
 ·intro k hk hlt
  rcases hk with hk | hk | ⟨x, hx, hk⟩
  ·rcases s.old k hk hlt with g | ⟨i, hi, _, g⟩
   ·exact Or.inl g
   ·exact Or.inr (Or.inr (Or.inl ⟨_, List.getElem_mem hi, g⟩))
  ·rcases hbl k hk with g | g
   ·exact Or.inr (Or.inl (Or.inl g))
   ·omega
  ·rcases List.mem_append.1 hx with hx | hx
   ·exact Or.inr (Or.inl (Or.inr ⟨x, hx, hk⟩))
   ·simp only [List.mem_singleton] at hx
    subst hx
    rcases hk with hk | hk
    ·rcases hG k hk with g | g
     ·exact Or.inr (Or.inr (Or.inr g))
     ·omega
    ·have : k = kb := hk
     omega
 ·intro k hk
  rcases hk with hk | ⟨x, hx, hk⟩
  ·rcases hbl k hk with g | g
   ·exact ⟨heb k (Or.inl g), (p.e0 k (Or.inl g)).2.1⟩
   ·exact ⟨fun hb => by have := s.bk.lt k hb; omega, by omega⟩
  ·rcases List.mem_append.1 hx with hx | hx
   ·exact ⟨heb k (Or.inr ⟨x, hx, hk⟩), (p.e0 k (Or.inr ⟨x, hx, hk⟩)).2.1⟩
   ·simp only [List.mem_singleton] at hx
    subst hx
    have h1 := hrk k hk
    refine ⟨fun hb => ?_, by omega⟩
    rcases hk with hk | hk
    ·rcases hG k hk with g | g
     ·exact hnb k hb g
     ·have := s.bk.lt k hb; omega
    ·have : k = kb := hk
     have := s.bk.lt k hb; omega
set_option maxRecDepth 100000 in
set_option maxHeartbeats 4000000 in
theorem book_entry (wb : Nat) (ps bs ds es v : SlR) (rs : List BkR) (hs : List EBk) (el : List (SlR × SlR)) (l : List ItR) (base : Nat) (w : World) (hW : RowV w wb 34 [ps.val, bs.val, ds.val, es.val]) (hB : BkAt w bs rs) (hE : BeAt w es hs) (ho : EntsO w base v el l) (hp : EnPre w wb bs rs es hs (flatE el) (flatL l) base) (hn : rs.length + el.length * 2 ≤ 1200000000000) (hh : hs.length ≤ 1200000000000) (hl : el.length ≤ 1000000000) :
  Calls Tryz.prog 71 #[.pointer (some ⟨wb, 1, none⟩), v.val] w (entPost w wb ps ds bs es v rs hs (flatE el) el.length) := by
 have HVO : Hid (∀ k, v.val.ownBlock = some k → base ≤ k ∧ k < w.heap.size) := ho.own.lt
 have HVF : Hid (∀ i (h : i < (flatE el).length), ∀ k, (flatE el)[i].val.ownBlock = some k → v.val.ownBlock ≠ some k) := fun i h k hk hv => owns_apart ho.own (ho.ob i h (by rw [flatL_length, ← ho.len, ← flatE_length]; exact h)) (by decide) k hv hk
 have HS0 : Hid (EnSt w wb ps ds es rs bs hs v el.length (entsC el) (flatE el) (flatL l) base w bs rs 0) := ⟨hW, hB, hE, ho.own, fun i h1 h2 _ => ho.ob i h1 h2, by simp, fun k hk _ => Or.inl hk, Frame.refl _ _, fun k hk => (hp.b0 k hk).2⟩
 have hvn : v.n = el.length := (SlV.ofOwn (s := v) ho.own).2
 have HVN : Hid (v.n = el.length) := hvn
 have hvI : (v.n : Int) ≤ 1000000000 := by rw [hvn]; omega
 have HP : Hid (EnPre w wb bs rs es hs (flatE el) (flatL l) base) := hp
 have HN : Hid (rs.length + el.length * 2 ≤ 1200000000000) := hn
 have HH : Hid (hs.length ≤ 1200000000000) := hh
 have HL : Hid (el.length ≤ 1000000000) := hl
 clear hW hB hE ho hp hn hh hl hvn
 unfold SlR.val
 go_enter Tryz.func71, Tryz.ntmps71
 go_upto_block 0 with fail
 go_cut [] (fun wx => ∃ (bs2 : SlR) (rs2 : List BkR), Hid (EnSt w wb ps ds es rs bs hs v el.length (entsC el) (flatE el) (flatL l) base wx bs2 rs2 (el.length * 2)))
 case first =>
  go_wp2_with fail
  go_loopw [4] (fun ix wr => ∃ (k : Nat) (bs2 : SlR) (rs2 : List BkR), k ≤ el.length ∧ ix = .int .i64 (k : Int) ∧ Hid (EnSt w wb ps ds es rs bs hs v el.length (entsC el) (flatE el) (flatL l) base wr bs2 rs2 (k * 2))) (fun ix _ => el.length - (intOf ix).toNat)
  case atStart => exact ⟨0, bs, rs, by omega, by simp, HS0⟩
  case round =>
   obtain ⟨k, bs2, rs2, hk, rfl, HS⟩ := hrel
   have hkM : (k : Int) ≤ 1000000000 := by have := HL.out; omega
   by_cases hlt : k < el.length
   ·have hkI : (k : Int) < v.n := by rw [HVN.out]; omega
    obtain ⟨b, o, hca, hbb, c0, c1⟩ := entsC_cells (SlV.ofOwn (s := v) HS.out.own).1 k hlt
    have hf2 : (flatE el).length = el.length * 2 := flatE_length el
    obtain ⟨g0, g1⟩ := flatE_get el k hlt
    have hj0 : k * 2 < (flatE el).length := by rw [hf2]; omega
    have hj1 : k * 2 + 1 < (flatE el).length := by rw [hf2]; omega
    have e0 : (flatE el)[k * 2] = el[k].1 := by rw [List.getElem?_eq_getElem hj0] at g0; exact Option.some.inj g0
    have e1 : (flatE el)[k * 2 + 1] = el[k].2 := by rw [List.getElem?_eq_getElem hj1] at g1; exact Option.some.inj g1
    have hll0 : k * 2 < (flatL l).length := by rw [← HP.out.ln]; exact hj0
    have hll1 : k * 2 + 1 < (flatL l).length := by rw [← HP.out.ln]; exact hj1
    have hbw : base ≤ wr.heap.size := Nat.le_trans HP.out.bb HS.out.fr.size
    have HB1 : Hid (Calls _ _ _ _ _) := book_byte wb ps bs2 ds es (flatE el)[k * 2] rs2 (flatL l)[k * 2] base wr HS.out.row HS.out.bk (HS.out.ob _ hj0 hll0 (Nat.le_refl _)) (HP.out.l12 _ (List.getElem_mem hll0)) (by rw [HS.out.len]; have := HN.out; omega) hbw (EnSt.v HP.out HS.out hj0) HS.out.bw
    rw [e0] at HB1
    have HNX : Hid (∀ (w' : World) (bs' : SlR) (r : BkR), RowV w' wb 34 [ps.val, bs'.val, ds.val, es.val] → BkAt w' bs' (rs2 ++ [r]) → Frame (fun k_1 => k_1 = wb ∨ el[k].1.val.ownBlock = some k_1 ∨ bs2.val.ownBlock = some k_1) wr w' → (∀ k_1, bookF bs' (rs2 ++ [r]) k_1 → k_1 < wr.heap.size → bookF bs2 rs2 k_1 ∨ el[k].1.val.ownBlock = some k_1) → EnSt w wb ps ds es rs bs hs v el.length (entsC el) (flatE el) (flatL l) base w' bs' (rs2 ++ [r]) (k * 2 + 1)) := fun w' bs' r a1 a2 a3 a4 => EnSt.next HP.out HS.out hj0 a1 a2 (by rw [e0]; exact a3) (by rw [e0]; exact a4)
    unfold SlR.val at HB1 c0 c1
    obtain ⟨va, vn, vc⟩ := v
    simp only at hca hkI hvI HVN
    subst hca
    have HE0 : Hid ((flatE el)[k * 2 + 1] = el[k].2) := e1
    clear g0 g1 e0 e1 c1
    generalize el[k].1 = s1 at *
    generalize hs2 : el[k].2 = s2 at *
    go_wp2_with fail
    refine HB1.out.mono ?_
    rintro e w2 ⟨rfl, bs3, r, a1, a2, a3, a4⟩
    rw [← hs2] at HE0
    have HS3 : Hid (EnSt w wb ps ds es rs bs hs ⟨some ⟨b, o, none⟩, vn, vc⟩ el.length (entsC el) (flatE el) (flatL l) base w2 bs3 (rs2 ++ [r]) (k * 2 + 1)) := HNX.out w2 bs3 r a1 a2 a3 a4
    obtain ⟨b', o', hca', hbb', d0, d1⟩ := entsC_cells (SlV.ofOwn (s := ⟨some ⟨b, o, none⟩, vn, vc⟩) HS3.out.own).1 k hlt
    cases hca'
    have hbw2 : base ≤ w2.heap.size := Nat.le_trans HP.out.bb HS3.out.fr.size
    have HB2 : Hid (Calls _ _ _ _ _) := book_byte wb ps bs3 ds es (flatE el)[k * 2 + 1] (rs2 ++ [r]) (flatL l)[k * 2 + 1] base w2 HS3.out.row HS3.out.bk (HS3.out.ob _ hj1 hll1 (Nat.le_refl _)) (HP.out.l12 _ (List.getElem_mem hll1)) (by rw [HS3.out.len]; have := HN.out; omega) hbw2 (EnSt.v HP.out HS3.out hj1) HS3.out.bw
    rw [HE0.out] at HB2
    have HNY : Hid (∀ (w' : World) (bs' : SlR) (r' : BkR), RowV w' wb 34 [ps.val, bs'.val, ds.val, es.val] → BkAt w' bs' (rs2 ++ [r] ++ [r']) → Frame (fun k_1 => k_1 = wb ∨ el[k].2.val.ownBlock = some k_1 ∨ bs3.val.ownBlock = some k_1) w2 w' → (∀ k_1, bookF bs' (rs2 ++ [r] ++ [r']) k_1 → k_1 < w2.heap.size → bookF bs3 (rs2 ++ [r]) k_1 ∨ el[k].2.val.ownBlock = some k_1) → EnSt w wb ps ds es rs bs hs ⟨some ⟨b, o, none⟩, vn, vc⟩ el.length (entsC el) (flatE el) (flatL l) base w' bs' (rs2 ++ [r] ++ [r']) ((k + 1) * 2)) := fun w' bs' r' b1 b2 b3 b4 => by
     have := EnSt.next HP.out HS3.out hj1 b1 b2 (by rw [HE0.out]; exact b3) (by rw [HE0.out]; exact b4)
     rw [show k * 2 + 1 + 1 = (k + 1) * 2 by omega] at this
     exact this
    unfold SlR.val at HB2 d1
    clear a1 a2 a3 a4 HB1 HNX d0 c0 hs2 HE0
    generalize el[k].2 = s3 at *
    go_wp2_with fail
    refine HB2.out.mono ?_
    rintro e w3 ⟨rfl, bs4, r', b1, b2, b3, b4⟩
    have HS4 := HNY.out w3 bs4 r' b1 b2 b3 b4
    clear b1 b2 b3 b4 HB2 HNY d1
    go_wp2
    exact ⟨⟨k + 1, bs4, _, hlt, by go_num, HS4⟩, by simp [intOf]; omega⟩
   ·have hkI : ¬ (k : Int) < v.n := by rw [HVN.out]; omega
    obtain rfl : k = el.length := by omega
    go_wp2_with fail
    go_meet
    case rel => exact ⟨bs2, rs2, HS⟩
 case rest =>
  obtain ⟨bs2, rs2, HS2⟩ := hcut
  have hen' := (owns_cap (a := es.a) (n' := es.n) (cap := es.cap) HS2.out.be.own).1
  have hhI : (es.n : Int) ≤ 1200000000000 := by rw [hen']; have := HH.out; omega
  have HE : Hid ((hs.length : Int) = (es.n : Int)) := by unfold Hid; rw [hen']
  have HOE : Hid (Calls _ _ _ _ _) := ownEntries_any v el.length (entsC el) base hs.length wc HS2.out.own HL.out (by have := HH.out; omega) (Nat.le_trans HP.out.bb HS2.out.fr.size)
  rw [HE.out] at HOE
  have c3 : wc.cell? ⟨wb, 3, none⟩ = some (.slice es.a es.n es.cap) := HS2.out.row.cell 3 (by simp)
  unfold SlR.val at HOE
  clear hen' HS0
  go_wp2_with fail
  refine HOE.out.mono ?_
  rintro e w1 ⟨r, kb, rfl, hr1, hmk1, hf1, hg1, hkb1⟩
  have hvlt : ∀ k, v.val.ownBlock = some k → base ≤ k ∧ k < wc.heap.size := HS2.out.own.lt
  have hnb : ∀ k, bookF bs2 rs2 k → ¬ v.val.ownBlock = some k := fun k hk e => by
   have h1 := HVO.out k e
   rcases HS2.out.old k hk h1.2 with g | ⟨i, hi, _, g⟩
   ·have := (HP.out.b0 k g).1; omega
   ·exact HVF.out i hi k g e
  have hne : ∀ k, bookE es hs k → ¬ v.val.ownBlock = some k := fun k hk e => by have := (HP.out.e0 k hk).1; have := (hvlt k e).1; omega
  have hwv : ¬ v.val.ownBlock = some wb := fun e => by have := (hvlt wb e).1; have := HP.out.wl; omega
  have hW1 : RowV w1 wb 34 [ps.val, bs2.val, ds.val, es.val] := RowV.of_block HS2.out.row (hf1.block _ HS2.out.row.lt hwv)
  have hB1 : BkAt w1 bs2 rs2 := HS2.out.bk.frame hf1 hnb
  have hE1 : BeAt w1 es hs := HS2.out.be.frame hf1 hne
  have hbx : Below w1.heap.size w1 ((w1.alloc (.cells #[.slice r.l.a r.l.n r.l.cap, .slice r.one.a r.one.n r.one.cap, .slice r.two.a r.two.n r.two.cap, .slice r.three.a r.three.n r.three.cap, .int .i64 (hs.length : Int)] 65)).alloc (.cells #[.slice r.l.a r.l.n r.l.cap, .slice r.one.a r.one.n r.one.cap, .slice r.two.a r.two.n r.two.cap, .slice r.three.a r.three.n r.three.cap, .int .i64 (hs.length : Int)] 65)).drew := by
   have hz : Below w1.heap.size w1 ((w1.alloc (.cells #[.slice r.l.a r.l.n r.l.cap, .slice r.one.a r.one.n r.one.cap, .slice r.two.a r.two.n r.two.cap, .slice r.three.a r.three.n r.three.cap, .int .i64 (hs.length : Int)] 65)).alloc (.cells #[.slice r.l.a r.l.n r.l.cap, .slice r.one.a r.one.n r.one.cap, .slice r.two.a r.two.n r.two.cap, .slice r.three.a r.three.n r.three.cap, .int .i64 (hs.length : Int)] 65)) := ((Below.refl _ _).alloc (Nat.le_refl _) _).alloc (by simp) _
   exact ⟨hz.os, hz.tape, hz.output, hz.size, hz.block⟩
  have hR0 : RowV (w1.alloc (.cells #[.slice r.l.a r.l.n r.l.cap, .slice r.one.a r.one.n r.one.cap, .slice r.two.a r.two.n r.two.cap, .slice r.three.a r.three.n r.three.cap, .int .i64 (hs.length : Int)] 65)) w1.heap.size 65 [.slice r.l.a r.l.n r.l.cap, .slice r.one.a r.one.n r.one.cap, .slice r.two.a r.two.n r.two.cap, .slice r.three.a r.three.n r.three.cap, .int .i64 (hs.length : Int)] := RowV.new w1 _ _
  have x0 := hR0.cell 0 (by simp)
  have x1 := hR0.cell 1 (by simp)
  have x2 := hR0.cell 2 (by simp)
  have x3 := hR0.cell 3 (by simp)
  have x4 := hR0.cell 4 (by simp)
  simp only [List.getElem_cons_zero, List.getElem_cons_succ] at x0 x1 x2 x3 x4
  have y3 : (w1.alloc (.cells #[.slice r.l.a r.l.n r.l.cap, .slice r.one.a r.one.n r.one.cap, .slice r.two.a r.two.n r.two.cap, .slice r.three.a r.three.n r.three.cap, .int .i64 (hs.length : Int)] 65)).cell? ⟨wb, 3, none⟩ = some (.slice es.a es.n es.cap) := (hW1.alloc _).cell 3 (by simp)
  have HOX : Hid (World.ownsRow ((w1.alloc (.cells #[.slice r.l.a r.l.n r.l.cap, .slice r.one.a r.one.n r.one.cap, .slice r.two.a r.two.n r.two.cap, .slice r.three.a r.three.n r.three.cap, .int .i64 (hs.length : Int)] 65)).alloc (.cells #[.slice r.l.a r.l.n r.l.cap, .slice r.one.a r.one.n r.one.cap, .slice r.two.a r.two.n r.two.cap, .slice r.three.a r.three.n r.three.cap, .int .i64 (hs.length : Int)] 65)).drew 0 65 5 (.slice es.a es.n es.cap) hs.length (bksF 0 (hs.map (·.r)))) := (hE1.below hbx).own
  have HSX : Hid (SlV ((w1.alloc (.cells #[.slice r.l.a r.l.n r.l.cap, .slice r.one.a r.one.n r.one.cap, .slice r.two.a r.two.n r.two.cap, .slice r.three.a r.three.n r.three.cap, .int .i64 (hs.length : Int)] 65)).alloc (.cells #[.slice r.l.a r.l.n r.l.cap, .slice r.one.a r.one.n r.one.cap, .slice r.two.a r.two.n r.two.cap, .slice r.three.a r.three.n r.three.cap, .int .i64 (hs.length : Int)] 65)).drew (some ⟨w1.heap.size + 1, 0, none⟩) (bkC r hs.length)) := by
   have := SlV.alloc_new (w1.alloc (.cells #[.slice r.l.a r.l.n r.l.cap, .slice r.one.a r.one.n r.one.cap, .slice r.two.a r.two.n r.two.cap, .slice r.three.a r.three.n r.three.cap, .int .i64 (hs.length : Int)] 65)) (bkC r hs.length) 65
   simp only [World.size_alloc] at this
   exact this
  have H1 : Hid (∀ u ∈ bkC r hs.length, u.oneCell' = true) := fun u hu => bk_one hu
  have HW2 : Hid (RowV ((w1.alloc (.cells #[.slice r.l.a r.l.n r.l.cap, .slice r.one.a r.one.n r.one.cap, .slice r.two.a r.two.n r.two.cap, .slice r.three.a r.three.n r.three.cap, .int .i64 (hs.length : Int)] 65)).alloc (.cells #[.slice r.l.a r.l.n r.l.cap, .slice r.one.a r.one.n r.one.cap, .slice r.two.a r.two.n r.two.cap, .slice r.three.a r.three.n r.three.cap, .int .i64 (hs.length : Int)] 65)).drew wb 34 [ps.val, bs2.val, ds.val, es.val]) := RowV.below hW1 hW1.lt hbx
  have HB2 : Hid (BkAt ((w1.alloc (.cells #[.slice r.l.a r.l.n r.l.cap, .slice r.one.a r.one.n r.one.cap, .slice r.two.a r.two.n r.two.cap, .slice r.three.a r.three.n r.three.cap, .int .i64 (hs.length : Int)] 65)).alloc (.cells #[.slice r.l.a r.l.n r.l.cap, .slice r.one.a r.one.n r.one.cap, .slice r.two.a r.two.n r.two.cap, .slice r.three.a r.three.n r.three.cap, .int .i64 (hs.length : Int)] 65)).drew bs2 rs2) := hB1.below hbx
  have HE2 : Hid (BeAt ((w1.alloc (.cells #[.slice r.l.a r.l.n r.l.cap, .slice r.one.a r.one.n r.one.cap, .slice r.two.a r.two.n r.two.cap, .slice r.three.a r.three.n r.three.cap, .int .i64 (hs.length : Int)] 65)).alloc (.cells #[.slice r.l.a r.l.n r.l.cap, .slice r.one.a r.one.n r.one.cap, .slice r.two.a r.two.n r.two.cap, .slice r.three.a r.three.n r.three.cap, .int .i64 (hs.length : Int)] 65)).drew es hs) := hE1.below hbx
  have HR2 : Hid (BkOk ((w1.alloc (.cells #[.slice r.l.a r.l.n r.l.cap, .slice r.one.a r.one.n r.one.cap, .slice r.two.a r.two.n r.two.cap, .slice r.three.a r.three.n r.three.cap, .int .i64 (hs.length : Int)] 65)).alloc (.cells #[.slice r.l.a r.l.n r.l.cap, .slice r.one.a r.one.n r.one.cap, .slice r.two.a r.two.n r.two.cap, .slice r.three.a r.three.n r.three.cap, .int .i64 (hs.length : Int)] 65)).drew (patE kb) 2 r) := hr1.below hbx
  have HM2 : Hid (MkAt ((w1.alloc (.cells #[.slice r.l.a r.l.n r.l.cap, .slice r.one.a r.one.n r.one.cap, .slice r.two.a r.two.n r.two.cap, .slice r.three.a r.three.n r.three.cap, .int .i64 (hs.length : Int)] 65)).alloc (.cells #[.slice r.l.a r.l.n r.l.cap, .slice r.one.a r.one.n r.one.cap, .slice r.two.a r.two.n r.two.cap, .slice r.three.a r.three.n r.three.cap, .int .i64 (hs.length : Int)] 65)).drew hs.length kb) := hmk1.below hbx
  have HG1 : Hid (∀ k, bkF r k → v.val.ownBlock = some k ∨ wc.heap.size + 1 < k) := hg1
  have HKB : Hid (kb = wc.heap.size + 1) := hkb1
  have HFR : Hid (Frame (fun k => v.val.ownBlock = some k) wc ((w1.alloc (.cells #[.slice r.l.a r.l.n r.l.cap, .slice r.one.a r.one.n r.one.cap, .slice r.two.a r.two.n r.two.cap, .slice r.three.a r.three.n r.three.cap, .int .i64 (hs.length : Int)] 65)).alloc (.cells #[.slice r.l.a r.l.n r.l.cap, .slice r.one.a r.one.n r.one.cap, .slice r.two.a r.two.n r.two.cap, .slice r.three.a r.three.n r.three.cap, .int .i64 (hs.length : Int)] 65)).drew) := hf1.trans (Frame.of_below_all hbx)
  have hwb1 : wb < w1.heap.size := hW1.lt
  have hne1 : wb ≠ w1.heap.size := by omega
  clear hbx hR0 hW1 hB1 hE1 hf1 hr1 hmk1 hg1 hkb1 hnb hne hwv HOE c3
  unfold bkC
  unfold SlR.val
  go_wp2
  go_region_law ((refine step_appendV (by rfl) (.tmp 37) (.tmp 39) 30 (by rfl) 0 65 _ 5 104 Tryz.underlying30 Tryz.infoEntBk rfl (by decide) (.slice es.a es.n es.cap) hs.length (bksF 0 (hs.map (·.r))) (by rfl) HOX.out ⟨w1.heap.size + 1, 0, none⟩ 1 1 (bkC r hs.length) (by rfl) rfl HSX.out H1.out (by have := HH.out; unfold maxLen; omega) (by have := HH.out; omega) (Nat.zero_le _) ?_; intro a2 n2 c2 w2 ho2 hf2 hat2; have hW3 := RowV.of_block HW2.out (hf2.block _ HW2.out.lt (fun e => owns_ne HOX.out HW2.out (by decide) e)); have z1 : w2.cell? ⟨wb, 3, none⟩ = some (.slice es.a es.n es.cap) := RowV.cell hW3 3 (by simp); have z2 : w2.frozen? ⟨wb, 3, none⟩ = false := RowV.frozen hW3 3))
  all_goals
   go_wp2
   go_returns
   exact ent_fin HP.out HS2.out hW3 HB2.out HE2.out HR2.out HM2.out HG1.out HKB.out HFR.out HVO.out HVF.out ho2 hf2 hat2
end Go.Proofs.YtekegfbjbainhaaGreat
