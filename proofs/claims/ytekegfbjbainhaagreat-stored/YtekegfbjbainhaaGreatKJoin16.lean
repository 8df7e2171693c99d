import Derived.Test.YtekegfbjbainhaaGreatKJoin15
import Derived.Test.YtekegfbjbainhaaGreatKRef14
import Derived.Test.YtekegfbjbainhaaGreatKJoin3
/- A store of the program's beside the document's, as the statements keep them. -/
namespace Go.Proofs.YtekegfbjbainhaaGreat
set_option linter.unusedVariables false
set_option linter.unusedSimpArgs false
open Go.RowKit

structure PairD where
  pb : Nat
  sb : Nat
  rb : Nat
  done : SlR
  dn : Nat
  doneC : List Value
  N : Nat
  en : SlR
  tr : SlR
  mp : Option Nat
  es : List MEn
  xs : List EnP
  its : List ItR
  tds : List Nd
  now : SlR
  past : SlR
  roots : SlR
  nl : List ItR
  pastL : List (SlR × List ItR)
  rl : List (List UInt8)
  T : List (List (List Nd))
  pp : List (List ItR)
def PairD.sF (d : PairD) (k : Nat) : Prop := stoF d.sb d.en d.tr d.mp d.es d.xs d.tds k ∨ treeF d.T k
def PairD.rF (d : PairD) (k : Nat) : Prop := refF d.rb d.now d.past d.roots d.pastL k
def PairD.oF (d : PairD) (k : Nat) : Prop := k = d.pb ∨ d.done.val.ownBlock = some k
def PairD.F (d : PairD) (k : Nat) : Prop := d.oF k ∨ d.sF k ∨ d.rF k

/-- The pair as it lies; its three parts are apart. -/
structure PairAt (w : World) (d : PairD) : Prop where
  row : RowV w d.pb 94 [ptrV d.sb, ptrV d.rb, d.done.val]
  hdone : w.ownsRow 0 103 18 d.done.val d.dn d.doneC
  sto : StoAt w d.sb d.N d.en d.tr d.mp d.es d.xs d.its d.tds
  ref : RefAt w d.rb 0 d.now d.past d.roots d.nl d.pastL d.rl
  tre : StoT w d.sb d.mp d.es d.T d.tds d.pp
  os : ∀ k, d.oF k → ¬ d.sF k
  or : ∀ k, d.oF k → ¬ d.rF k
  sr : ∀ k, d.sF k → ¬ d.rF k
/-- .. and the two say the same. -/
structure PairOk (w : World) (d : PairD) : Prop where
  lay : PairAt w d
  nl : d.nl = d.its
  rl : d.rl = d.tds.map rootOf
  pl : d.pastL.length = d.tds.length
  dl : d.dn = d.tds.length
  t40 : d.tds.length ≤ 40
  cnt : d.N ≤ 500 * d.tds.length
  pst : d.pastL.map (·.2) = d.pp
  dc : d.doneC = comsC (d.tds.map rootOf)

theorem PairAt.lt {w : World} {d : PairD} (h : PairAt w d) : ∀ k, d.F k → k < w.heap.size := fun k hk => by
  rcases hk with (rfl | hk) | hk | hk
  · exact RowV.lt h.row
  · exact (h.hdone.lt k hk).2
  · rcases hk with hk | hk
    · exact h.sto.lt k hk
    · exact h.tre.lt k hk
  · exact h.ref.lt k hk
theorem PairAt.frame {w W : World} {S : Nat → Prop} {d : PairD} (h : PairAt w d) (hf : Frame S w W) (hS : ∀ k, d.F k → ¬ S k) : PairAt W d :=
  ⟨RowV.of_block h.row (hf.block _ (RowV.lt h.row) (hS _ (Or.inl (Or.inl rfl)))), owns_frame h.hdone hf (fun k hk => hS k (Or.inl (Or.inr hk))), h.sto.frame hf (fun k hk => hS k (Or.inr (Or.inl (Or.inl hk)))), h.ref.frame hf (fun k hk => hS k (Or.inr (Or.inr hk))), h.tre.frame hf (fun k hk => hS k (Or.inr (Or.inl (Or.inr hk)))), h.os, h.or, h.sr⟩
theorem PairAt.below {w W : World} {d : PairD} (h : PairAt w d) (hb : Below w.heap.size w W) : PairAt W d := h.frame (Frame.of_below_all (S := fun _ => False) hb) (fun _ _ e => e)
theorem PairOk.frame {w W : World} {S : Nat → Prop} {d : PairD} (h : PairOk w d) (hf : Frame S w W) (hS : ∀ k, d.F k → ¬ S k) : PairOk W d := ⟨h.lay.frame hf hS, h.nl, h.rl, h.pl, h.dl, h.t40, h.cnt, h.pst, h.dc⟩

/-- The program's store moves on. -/
theorem PairAt.setSto {w w' : World} {S : Nat → Prop} {d : PairD} (h : PairAt w d) {N : Nat} {en tr : SlR} {mp : Option Nat} {es : List MEn} {xs : List EnP} {its : List ItR} {tds : List Nd} (hs : StoAt w' d.sb N en tr mp es xs its tds) (hf : Frame S w w') (hS0 : ∀ k, S k → stoF d.sb d.en d.tr d.mp d.es d.xs d.tds k)
    (hn0 : ∀ k, stoF d.sb en tr mp es xs tds k → k < w.heap.size → stoF d.sb d.en d.tr d.mp d.es d.xs d.tds k) {T : List (List (List Nd))} {pp : List (List ItR)} (ht : StoT w' d.sb mp es T tds pp) (hnt : ∀ k, treeF T k → k < w.heap.size → d.sF k) :
    PairAt w' { d with N := N, en := en, tr := tr, mp := mp, es := es, xs := xs, its := its, tds := tds, T := T, pp := pp } ∧ (∀ k, PairD.F { d with N := N, en := en, tr := tr, mp := mp, es := es, xs := xs, its := its, tds := tds, T := T, pp := pp } k → k < w.heap.size → d.F k) := by
  have hS : ∀ k, S k → d.sF k := fun k hk => Or.inl (hS0 k hk)
  have hn : ∀ k, (stoF d.sb en tr mp es xs tds k ∨ treeF T k) → k < w.heap.size → d.sF k := fun k hk hlt => by
    rcases hk with hk | hk
    · exact Or.inl (hn0 k hk hlt)
    · exact hnt k hk hlt
  refine ⟨⟨RowV.of_block h.row (hf.block _ (RowV.lt h.row) (fun e => h.os _ (Or.inl rfl) (hS _ e))), owns_frame h.hdone hf (fun k hk e => h.os k (Or.inr hk) (hS k e)), hs, h.ref.frame hf (fun k hk e => h.sr k (hS k e) hk), ht, ?_, h.or, ?_⟩, ?_⟩
  · intro k hk hk'
    exact h.os k hk (hn k hk' (h.lt k (Or.inl hk)))
  · intro k hk hk'
    exact h.sr k (hn k hk (h.ref.lt k hk')) hk'
  · intro k hk hlt
    rcases hk with hk | hk | hk
    · exact Or.inl hk
    · exact Or.inr (Or.inl (hn k hk hlt))
    · exact Or.inr (Or.inr hk)
/-- The document's store moves on. -/
theorem PairAt.setRef {w w' : World} {S : Nat → Prop} {d : PairD} (h : PairAt w d) {now past roots : SlR} {nl : List ItR} {pastL : List (SlR × List ItR)} {rl : List (List UInt8)} (hs : RefAt w' d.rb 0 now past roots nl pastL rl) (hf : Frame S w w') (hS : ∀ k, S k → d.rF k)
    (hn : ∀ k, refF d.rb now past roots pastL k → k < w.heap.size → d.rF k) :
    PairAt w' { d with now := now, past := past, roots := roots, nl := nl, pastL := pastL, rl := rl } ∧ (∀ k, PairD.F { d with now := now, past := past, roots := roots, nl := nl, pastL := pastL, rl := rl } k → k < w.heap.size → d.F k) := by
  refine ⟨⟨RowV.of_block h.row (hf.block _ (RowV.lt h.row) (fun e => h.or _ (Or.inl rfl) (hS _ e))), owns_frame h.hdone hf (fun k hk e => h.or k (Or.inr hk) (hS k e)), h.sto.frame hf (fun k hk e => h.sr k (Or.inl hk) (hS k e)), hs, h.tre.frame hf (fun k hk e => h.sr k (Or.inr hk) (hS k e)), h.os, ?_, ?_⟩, ?_⟩
  · intro k hk hk'
    exact h.or k hk (hn k hk' (h.lt k (Or.inl hk)))
  · intro k hk hk'
    exact h.sr k hk (hn k hk' (h.lt k (Or.inr (Or.inl hk))))
  · intro k hk hlt
    rcases hk with hk | hk | hk
    · exact Or.inl hk
    · exact Or.inr (Or.inl hk)
    · exact Or.inr (Or.inr (hn k hk hlt))
/-- The list of commits moves on. -/
theorem PairAt.setDone {w w' : World} {S : Nat → Prop} {d : PairD} (h : PairAt w d) {done : SlR} {dn : Nat} {doneC : List Value} (hr : RowV w' d.pb 94 [ptrV d.sb, ptrV d.rb, done.val]) (ho : w'.ownsRow 0 103 18 done.val dn doneC) (hf : Frame S w w') (hS : ∀ k, S k → d.oF k)
    (hn : ∀ k, done.val.ownBlock = some k → k < w.heap.size → d.done.val.ownBlock = some k) :
    PairAt w' { d with done := done, dn := dn, doneC := doneC } ∧ (∀ k, PairD.F { d with done := done, dn := dn, doneC := doneC } k → k < w.heap.size → d.F k) := by
  have hm : ∀ k, (k = d.pb ∨ done.val.ownBlock = some k) → k < w.heap.size → d.oF k := fun k hk hlt => by
    rcases hk with hk | hk
    · exact Or.inl hk
    · exact Or.inr (hn k hk hlt)
  refine ⟨⟨hr, ho, h.sto.frame hf (fun k hk e => h.os k (hS k e) (Or.inl hk)), h.ref.frame hf (fun k hk e => h.or k (hS k e) hk), h.tre.frame hf (fun k hk e => h.os k (hS k e) (Or.inr hk)), ?_, ?_, h.sr⟩, ?_⟩
  · intro k hk hk'
    exact h.os k (hm k hk (h.lt k (Or.inr (Or.inl hk')))) hk'
  · intro k hk hk'
    exact h.or k (hm k hk (h.ref.lt k hk')) hk'
  · intro k hk hlt
    rcases hk with hk | hk | hk
    · exact Or.inl (hm k hk hlt)
    · exact Or.inr (Or.inl hk)
    · exact Or.inr (Or.inr hk)

theorem LentAt.bs {w : World} {b : Nat} {s : ByteArray} {a : Option Addr} {cap : Nat} (h : LentAt w b s a cap) : BS w ⟨a, s.size, cap⟩ s.data.toList := by
  refine ⟨h.sl, by simp, ?_, ?_⟩
  · intro e
    rcases h with ⟨_, h2, _⟩ | ⟨h1, _, _⟩
    · exact h2
    · rw [h1] at e; cases e
  · intro x hx
    rcases h with ⟨h1, _, _⟩ | ⟨h1, _, hr⟩
    · rw [h1] at hx; cases hx
    · rw [h1] at hx; cases hx; exact hr.lt
end Go.Proofs.YtekegfbjbainhaaGreat

/- A step of Delete, walked. -/
namespace Go.Proofs.YtekegfbjbainhaaGreat
set_option linter.unusedVariables false
set_option linter.unusedSimpArgs false
open Go.RowKit

/-- What a step of a store leaves. -/
def Stepped (d : PairD) (w w' : World) : Prop := ∃ d' : PairD, d'.pb = d.pb ∧ PairOk w' d' ∧ Frame d.F w w' ∧ (∀ k, d'.F k → k < w.heap.size → d.F k)

theorem Stepped.mk {d d' : PairD} {w w' : World} (h : PairOk w' d') (hp : d'.pb = d.pb) (hf : Frame d.F w w') (hn : ∀ k, d'.F k → k < w.heap.size → d.F k) : Stepped d w w' := ⟨d', hp, h, hf, hn⟩
theorem BS.drew {w : World} {s : SlR} {l : List UInt8} (h : BS w s l) : BS w.drew s l := ⟨h.sl, h.n, h.nil, h.lt⟩
theorem BS.ofString (w : World) (s : ByteArray) (cap : Nat) (t : TypeId) (fr : Nat × Nat) : BS (w.alloc (.cells (bytesRow s cap) t fr)) ⟨some ⟨w.heap.size, 0, none⟩, s.size, cap⟩ s.data.toList :=
  ⟨SlB.mk (by simp) (bytes_of_string _ _ _ _ _), by simp, fun e => (by cases e), fun x hx => (by cases hx; simp)⟩

set_option maxRecDepth 100000 in
set_option maxHeartbeats 1000000 in
theorem stored_del (d : PairD) (cs : List Value) (ob : Int) (s : ByteArray) (p : Value) (w : World) (h : PairOk w d) (k0 : cs[0]? = some (.int .i64 4)) (k2 : cs[2]? = some (.int .i64 ob)) (k4 : cs[4]? = some (.string s)) (hs : s.size ≤ 140737488351232) :
    Calls Tryz.prog 21 #[p, .agg cs.toArray, .pointer (some ⟨d.pb, 0, none⟩)] w fun e w' => e = .returned (.bool true) ∧ Stepped d w w' := by
  have HA : Hid (Below w.heap.size w (w.alloc (.cells cs.toArray 43))) := (Below.refl _ _).alloc (Nat.le_refl _) _
  have hsm : s.data.toList.length ≤ maxLen := by simp; unfold maxLen; omega
  have HSM : Hid (s.data.toList.length ≤ maxLen) := hsm
  have hpb : d.pb < w.heap.size := RowV.lt h.lay.row
  clear hsm
  go_enter Tryz.func21, Tryz.ntmps21
  go_wp2_with fail
  refine (lent_ok s _ _ hs).mono ?_
  rintro e w1 ⟨a, cap, rfl, hl1, hb1, hz1⟩
  simp only [World.size_alloc] at hb1 hz1 hl1
  have HB1 : Hid (Below w.heap.size w w1) := HA.out.trans (hb1.mono (by omega))
  have HP1 := h.lay.below HB1.out
  have z1 := hb1.size
  simp only [World.size_alloc] at z1
  have r0 : w1.cell? ⟨d.pb, 0, none⟩ = some (.pointer (some ⟨d.sb, 0, none⟩)) := RowV.cell HP1.row 0 (by simp)
  have HSD : Hid (Calls _ _ _ _ _) := sto_del d.sb d.N d.en d.tr d.mp d.es d.xs d.its d.tds ⟨a, s.size, cap⟩ s.data.toList w1 HP1.sto hl1.bs HSM.out
  unfold SlR.val at HSD
  go_wp2_with fail
  refine HSD.out.mono ?_
  rintro e w2 ⟨rfl, en, xs, hs2, hf2, hn2⟩
  have hdF : ∀ k, d.F k → k < w.heap.size := h.lay.lt
  have hsbF : d.sb < w.heap.size := RowV.lt h.lay.sto.row
  obtain ⟨HP2, hF2⟩ := HP1.setSto hs2 hf2 (fun k e => by subst e; exact Or.inl (Or.inl rfl)) hn2 (HP1.tre.next hf2 (fun k e => Or.inl e) (fun k hk _ => hk)) (fun k hk _ => Or.inr hk)
  have z2 := hf2.size
  have hl2 : LentAt w2 (w.heap.size + 1) s a cap := hl1.frame hf2 (by omega)
  have c4 : w2.cell? ⟨w.heap.size, 4, none⟩ = some (.string s) := by
    rw [World.cell?_of_block (a := ⟨w.heap.size, 4, none⟩) (hf2.block w.heap.size (by omega) (by omega)), hb1.cell (p := ⟨w.heap.size, 4, none⟩) (by show w.heap.size < _; omega)]
    simp [go_sem, k4]
  go_wp2_with fail
  refine (back_ok s a cap (w.heap.size + 1) _ hs hl2).mono ?_
  rintro e w3 ⟨rfl, hf3, hz3⟩
  have hlt := fun k (hk : a = some ⟨k, 0, none⟩) => hl1.lt hk
  have d4 : w3.cell? ⟨w.heap.size, 4, none⟩ = some (.string s) := by
    rw [← c4]
    exact World.cell?_of_block (hf3.block _ (by show w.heap.size < _; omega) (fun e => by have := hlt _ e; simp only at this; omega))
  have HP3 := HP2.frame hf3 (fun k hk e => by have h1 := hlt _ e; have h2 := hdF k (hF2 k hk (by omega)); omega)
  have r1 : w3.cell? ⟨d.pb, 1, none⟩ = some (.pointer (some ⟨d.rb, 0, none⟩)) := RowV.cell HP3.row 1 (by simp)
  have hcv := fun w => run_bytes_of_string (P := Tryz.prog) w 9 38 5 s Tryz.underlying9 Tryz.underlying38 Tryz.underlying5
  have hfr3 : Frame d.F w w3 := by
    have g1 : Frame d.F w w1 := Frame.of_below_all HB1.out
    have g2 : Frame d.F w w2 := g1.into hf2 (fun k hk e => by subst e; exact Or.inr (Or.inl (Or.inl (Or.inl (Or.inl rfl)))))
    exact g2.into hf3 (fun k hk e => by have := hlt _ e; omega)
  have HREF : Hid (∀ W a' n' cap', Below w3.heap.size w3 W → BS W ⟨a', n', cap'⟩ s.data.toList → Calls Tryz.prog 43 #[.pointer (some ⟨d.rb, 0, none⟩), .slice a' n' cap'] W fun e W' => e = .returned (.int .i64 (delE d.its s.data.toList : Int)) ∧ Stepped d w W') := by
    intro W a' n' cap' hb hbs
    have HPW := HP3.below hb
    have zW := hb.size
    refine (ref_del d.rb d.now d.past d.roots d.nl d.pastL d.rl ⟨a', n', cap'⟩ s.data.toList W HPW.ref (by rw [h.nl]; exact h.lay.sto.len) hbs HSM.out hbs.nil).mono ?_
    rintro e W' ⟨rfl, now', q1, q2, q3⟩
    obtain ⟨HP5, hF5⟩ := HPW.setRef q1 q2 (fun k e => by subst e; exact Or.inl rfl) q3
    refine ⟨by rw [h.nl], Stepped.mk ⟨HP5, ?_, h.rl, h.pl, h.dl, h.t40, h.cnt, h.pst, h.dc⟩ rfl ?_ ?_⟩
    · show delL d.nl _ = delL d.its _
      rw [h.nl]
    · exact (hfr3.into (Frame.of_below_all (S := d.F) hb) (fun k _ e => e)).into q2 (fun k _ e => by subst e; exact Or.inr (Or.inr (Or.inl rfl)))
    · intro k hk hlt'
      exact hF2 k (hF5 k hk (by omega)) (by omega)
  have g1 : w.heap.size < w3.heap.size := by omega
  have g2 : d.pb < w3.heap.size := by omega
  clear hb1 hz1 hl1 HB1 HP1 HSD hs2 hf2 hn2 HP2 hF2 hl2 c4 hf3 hlt HP3 hfr3 z1 z2 hz3 r0
  go_wp2
  go_region_with (first | (go_at_call 43; refine (HREF.out _ _ _ _ (by repeat' (first | (with_reducible exact Below.refl _ _) | (with_reducible refine Below.drew ?_) | (with_reducible refine Below.alloc ?_ ?_ _) | omega | (simp only [World.size_alloc, World.size_drew]; omega))) (by repeat' (first | (with_reducible exact BS.ofString _ _ _ _ _) | (with_reducible refine BS.drew ?_))) ).mono ?_; rintro e w4 ⟨rfl, hst4⟩))
  all_goals
    go_wp2
    go_ret
    exact ⟨rfl, hst4⟩
end Go.Proofs.YtekegfbjbainhaaGreat

/- A new store beside a new one of the document's. -/
namespace Go.Proofs.YtekegfbjbainhaaGreat
set_option linter.unusedVariables false
set_option linter.unusedSimpArgs false
open Go.RowKit

set_option maxRecDepth 100000 in
theorem new_any (w : World) : Calls Tryz.prog 36 #[] w fun e w' => e = .returned (.pointer (some ⟨w.heap.size, 0, none⟩)) ∧ w' = w.alloc (.cells #[.slice none 0 0, .map none, .slice none 0 0] 130) := by
  go_enter Tryz.func36, Tryz.ntmps36
  go_wp2
  go_ret
  exact ⟨rfl, rfl⟩

/-- The new pair. -/
def newD (pb sb rb : Nat) : PairD := ⟨pb, sb, rb, ⟨none, 0, 0⟩, 0, [], 0, ⟨none, 0, 0⟩, ⟨none, 0, 0⟩, none, [], [], [], [], ⟨none, 0, 0⟩, ⟨none, 0, 0⟩, ⟨none, 0, 0⟩, [], [], [], [], []⟩
theorem newD_F {pb sb rb k : Nat} (h : (newD pb sb rb).F k) : k = pb ∨ k = sb ∨ k = rb := by
  rcases h with (h | h) | h | h
  · exact Or.inl h
  · cases h
  · rcases h with ((h | h | ⟨e, he, _⟩) | (h | ⟨x, hx, _⟩) | ⟨e, he, _⟩ | h | ⟨nd, hn, _⟩) | ⟨L, hL, _⟩
    · exact Or.inr (Or.inl h)
    · cases h
    · cases he
    · cases h
    · cases hx
    · cases he
    · cases h
    · cases hn
    · cases hL
  · rcases h with h | h | h | h | ⟨q, hq, _⟩
    · exact Or.inr (Or.inr h)
    · cases h
    · cases h
    · cases h
    · cases hq
theorem newD_s {pb sb rb k : Nat} (h : (newD pb sb rb).sF k) : k = sb := by
  rcases h with ((h | h | ⟨e, he, _⟩) | (h | ⟨x, hx, _⟩) | ⟨e, he, _⟩ | h | ⟨nd, hn, _⟩) | ⟨L, hL, _⟩
  · exact h
  · cases h
  · cases he
  · cases h
  · cases hx
  · cases he
  · cases h
  · cases hn
  · cases hL
theorem newD_r {pb sb rb k : Nat} (h : (newD pb sb rb).rF k) : k = rb := by
  rcases h with h | h | h | h | ⟨q, hq, _⟩
  · exact h
  · cases h
  · cases h
  · cases h
  · cases hq
theorem newD_o {pb sb rb k : Nat} (h : (newD pb sb rb).oF k) : k = pb := by
  rcases h with h | h
  · exact h
  · cases h
theorem pair_new {w : World} {pb sb rb : Nat} (h1 : RowV w pb 94 [ptrV sb, ptrV rb, .slice none 0 0]) (h2 : RowV w sb 130 [.slice none 0 0, .map none, .slice none 0 0]) (h3 : RowV w rb 91 [.slice none 0 0, .slice none 0 0, .slice none 0 0])
    (n1 : pb ≠ sb) (n2 : pb ≠ rb) (n3 : sb ≠ rb) : PairOk w (newD pb sb rb) := by
  refine ⟨⟨h1, World.ownsRow_nil _ _ _ _, ⟨h2, ⟨rfl, fun e he => (by cases he), fun e he => (by cases he), fun e he => (by cases he), ?_, fun e he => (by cases he), fun e he => (by cases he), fun e he => (by cases he), List.nodup_nil⟩, ⟨World.ownsRow_nil _ _ _ _, rfl, fun i h _ => absurd h (by simp [newD])⟩, ?_, World.ownsRow_nil _ _ _ _, ?_, fun nd hn => (by cases hn), List.Pairwise.nil, fun x hx => (by cases hx), fun x hx => (by cases hx), by simp [newD]⟩,
    ⟨h3, World.ownsRow_nil _ _ _ _, World.ownsRow_nil _ _ _ _, fun q hq => (by cases hq), World.ownsRow_nil _ _ _ _, fun x hx => (by cases hx)⟩, ⟨fun L hL => (by cases hL), rfl, rfl, fun i L p nd e1 => (by simp [newD] at e1)⟩, ?_, ?_, ?_⟩, rfl, rfl, rfl, rfl, by simp [newD], by simp [newD], rfl, rfl⟩
  · intro i j e f _ he
    simp [newD] at he
  · intro k hk
    rcases hk with hk | ⟨x, hx, _⟩
    · cases hk
    · cases hx
  · intro k hk
    cases hk
  · intro k hk hk'
    exact n1 ((newD_o hk).symm.trans (newD_s hk'))
  · intro k hk hk'
    exact n2 ((newD_o hk).symm.trans (newD_r hk'))
  · intro k hk hk'
    exact n3 ((newD_s hk).symm.trans (newD_r hk'))
end Go.Proofs.YtekegfbjbainhaaGreat
