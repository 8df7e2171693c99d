import Derived.Test.YtekegfbjbainhaaGreatKJoin2
import Derived.Test.YtekegfbjbainhaaGreatKJoin1
import Derived.Deep.RegionHeld3
import Derived.Deep.DrawnRows
import Derived.Stop.BytesEq
import Derived.Deep.RegionWith
import Derived.Deep.MidRow
import Derived.Deep.QuietTactic
import Derived.BigQuiet
import Derived.Test.YtekegfbjbainhaaGreatKJoin12
import Derived.Great.Frames
set_option linter.unusedVariables false
set_option linter.unusedSimpArgs false

namespace Go.Proofs.YtekegfbjbainhaaGreat
open Go.RowKit
set_option maxRecDepth 100000 in
set_option maxHeartbeats 800000 in
theorem free_digest (cs : List Value) (oa : Int) (s : ByteArray) (p : Value) (w : World) (k0 : cs[0]? = some (.int .i64 1)) (k1 : cs[1]? = some (.int .i64 oa)) (k4 : cs[4]? = some (.string s)) (hs : s.size ≤ 140737488351232) :
  Calls Tryz.prog 19 #[p, .agg cs.toArray] w fun e w' => e = .returned (.bool true) ∧ Below w.heap.size w w' := by
 go_enter Tryz.func19, Tryz.ntmps19
 go_wp2_with fail
 refine (lent_ok s _ _ hs).mono ?_
 rintro e w1 ⟨a, cap, rfl, hl1, hb1, hz1⟩
 simp only [World.size_alloc] at hb1 hz1 hl1
 go_wp2_with fail
 refine (digest_any a _ cap s.data.toList w1 (by simp) (by simp; unfold maxLen; omega) hl1.sl).mono ?_
 rintro e w2 ⟨rfl, hb2⟩
 obtain ⟨x0, x1, x2, x3, x4, x5, x6, x7, hx⟩ := digV_form s.data.toList
 have HX : Hid (digV s.data.toList = _) := hx
 rw [hx]
 clear hx
 have c4 : w2.cell? ⟨w.heap.size, 4, none⟩ = some (.string s) := by
  rw [hb2.cell (p := ⟨w.heap.size, 4, none⟩) (by have := hb1.size; simp at this; show w.heap.size < _; omega), hb1.cell (p := ⟨w.heap.size, 4, none⟩) (by show w.heap.size < _; omega)]
  simp [go_sem, k4]
 have z2 := hb2.size
 have z1 := hb1.size
 simp only [World.size_alloc] at z1
 have c4a : ∀ X : Obj, (w2.alloc X).cell? ⟨w.heap.size, 4, none⟩ = some (.string s) := fun X => by
  rw [← c4]; exact Below.cell (B := w2.heap.size) ((Below.refl _ _).alloc (Nat.le_refl _) _) (p := ⟨w.heap.size, 4, none⟩) (by show w.heap.size < _; omega)
 go_wp2_with fail
 refine (back_ok s a cap (w.heap.size + 1) _ hs ?_).mono ?_
 ·exact (hl1.below hb2 (Nat.le_refl _)).below ((Below.refl _ _).alloc (Nat.le_refl _) _) (Nat.le_refl _)
 rintro e w3 ⟨rfl, hf3, hz3⟩
 simp only [World.size_alloc] at hz3
 have hlt := fun k (hk : a = some ⟨k, 0, none⟩) => hl1.lt hk
 have d4 : w3.cell? ⟨w.heap.size, 4, none⟩ = some (.string s) := by
  rw [← c4a]
  exact World.cell?_of_block (hf3.block _ (by show w.heap.size < _; simp; omega) (fun e => by have := hlt _ e; simp only at this; omega))
 have hd : RowV w3 w2.heap.size 36 [.int .u8 x0, .int .u8 x1, .int .u8 x2, .int .u8 x3, .int .u8 x4, .int .u8 x5, .int .u8 x6, .int .u8 x7] :=
  (RowV.new w2 36 _).of_block (hf3.block _ (by simp) (fun e => by have := hlt _ e; omega))
 have e0 := hd.cell 0 (by simp)
 have e1 := hd.cell 1 (by simp)
 have e2 := hd.cell 2 (by simp)
 have e3 := hd.cell 3 (by simp)
 have e4 := hd.cell 4 (by simp)
 have e5 := hd.cell 5 (by simp)
 have e6 := hd.cell 6 (by simp)
 have e7 := hd.cell 7 (by simp)
 simp only [List.getElem_cons_zero, List.getElem_cons_succ] at e0 e1 e2 e3 e4 e5 e6 e7
 have hcv := fun w => run_bytes_of_string (P := Tryz.prog) w 9 38 5 s Tryz.underlying9 Tryz.underlying38 Tryz.underlying5
 have hB3 : Hid (Below w.heap.size w w3) := by
  have h1 : Below w.heap.size w w2 := (((Below.refl _ _).alloc (Nat.le_refl _) _).trans (hb1.mono (by omega))).trans (hb2.mono (by omega))
  exact (h1.alloc (by omega) _).trans (hf3.below (by simp; omega) (fun k hk => by have := hlt _ hk; omega))
 clear c4 c4a hf3 hb2 hb1 hl1 hd hlt
 have heq : ∀ w, (Op.equalIn 10000 36 (Value.agg #[.int .u8 x0, .int .u8 x1, .int .u8 x2, .int .u8 x3, .int .u8 x4, .int .u8 x5, .int .u8 x6, .int .u8 x7]) (Value.agg #[.int .u8 x0, .int .u8 x1, .int .u8 x2, .int .u8 x3, .int .u8 x4, .int .u8 x5, .int .u8 x6, .int .u8 x7])).run Tryz.prog w = .ok true w := fun w => by
  have h := run_equalIn_bytes (P := Tryz.prog) w 9998 36 5 8 Tryz.underlying36 Tryz.underlying5 Tryz.sizeU8 (digB s.data.toList) (digB s.data.toList) rfl rfl
  rw [beq_self_eq_true] at h
  rw [← HX.out]
  exact h
 have g1 : w2.heap.size < w3.heap.size := by omega
 have g2 : w.heap.size < w3.heap.size := by omega
 clear hz3 hz1 z1 z2
 go_wp2
 go_region_with (first | (go_at_call 10; refine (refDigest_any _ _ _ s.data.toList _ (by simp) (by simp; unfold maxLen; omega) (by exact SlB.mk (by simp) (bytes_of_string _ _ _ _ _))).mono ?_; rintro e w4 ⟨rfl, hb4⟩; obtain ⟨hc4, _⟩ := bcell hb4; rw [HX.out]))
 all_goals
  go_wp2
  go_ret
  refine ⟨rfl, Below.trans ?_ (hb4.mono (by simp only [World.size_alloc, World.size_drew]; omega))⟩
  repeat' (first | (with_reducible exact hB3.out) | (with_reducible refine Below.drew ?_) | (with_reducible refine Below.alloc ?_ ?_ _) | omega | (simp only [World.size_alloc, World.size_drew]; omega))
end Go.Proofs.YtekegfbjbainhaaGreat


namespace Go.Proofs.YtekegfbjbainhaaGreat
open Go.RowKit
theorem rangeAt_new (w : World) (cs : List Value) (t : TypeId) : (w.alloc (.cells cs.toArray t)).rangeAt w.heap.size 0 cs := fun j v hv => by
 rw [Nat.zero_add, World.cell?_alloc_new]; simpa using hv
theorem Tryz.rowOp : ∃ d, Tryz.prog.underlying 43 = some d ∧ d.isRow = true := ⟨_, Tryz.underlying43, rfl⟩
theorem Tryz.sizeOp : (Tryz.prog.info? 43).map (·.size) = some 24 := by kernel_rfl
set_option maxRecDepth 100000 in
set_option maxHeartbeats 800000 in
theorem step_digest (cs : List Value) (oa : Int) (s : ByteArray) (p : Value) (w : World) (hlen : cs.length = 24) (k0 : cs[0]? = some (.int .i64 1)) (k1 : cs[1]? = some (.int .i64 oa)) (k4 : cs[4]? = some (.string s)) (hs : s.size ≤ 140737488351232) :
  Calls Tryz.prog 12 #[p, .agg cs.toArray] w fun e w' => e = .returned (.bool true) ∧ Below w.heap.size w w' := by
 obtain ⟨d, hd1, hd2⟩ := Tryz.rowOp
 have hsz : Hid ((Tryz.prog.info? 43).map (·.size) = some cs.length) := by rw [hlen]; exact Tryz.sizeOp
 have HD : Hid (Tryz.prog.underlying 43 = some d) := hd1
 have HD2 : Hid (d.isRow = true) := hd2
 have HL : Hid (cs.length = 24) := hlen
 clear hd1 hd2 hlen
 go_enter Tryz.func12, Tryz.ntmps12
 go_wp2_with (refine wpList_load_mid (by rfl) 43 (.tmp 3) (by rfl) w.heap.size 0 (by rfl) cs d (rangeAt_new w cs 43) HD.out HD2.out hsz.out ?_)
 refine (free_digest cs oa s p _ k0 k1 k4 hs).mono ?_
 rintro e w1 ⟨rfl, hb1⟩
 go_wp2
 go_ret
 exact ⟨rfl, ((Below.refl _ _).alloc (Nat.le_refl _) _).trans (hb1.mono (by simp))⟩
def ScriptAt (w : World) (a : Option Addr) (n : Nat) (f : Nat → OpR) : Prop :=
 ∀ i, i < n → ∃ b o, a = some ⟨b, o, none⟩ ∧ b < w.heap.size ∧ w.rangeAt b (o + i * 24) (f i).cells ∧ (f i).s.size ≤ 140737488351232 ∧ (f i).t.size ≤ 140737488351232 ∧ (f i).u.size ≤ 140737488351232
def KindsAt (w : World) (kb : Nat) (ks : List Int) : Prop := ∀ j (h : j < ks.length), w.cell? ⟨kb, j, none⟩ = some (.int .i64 ks[j])
theorem any_snoc (ks : List Int) (j : Nat) (h : j < ks.length) (x : Int) : (ks.take (j + 1)).any (fun y => x == y) = ((ks.take j).any (fun y => x == y) || x == ks[j]) := by
 rw [List.take_succ_eq_append_getElem h, List.any_append]; simp
end Go.Proofs.YtekegfbjbainhaaGreat


namespace Go.Proofs.YtekegfbjbainhaaGreat
open Go.RowKit
structure PairD where
 pb : Nat
 sb : Nat
 rb : Nat
 done : SlR
 dn : Nat
 doneC : List Value
 N : Nat
 en : SlR
 tr : SlR
 mp : Option Nat
 es : List MEn
 xs : List EnP
 its : List ItR
 tds : List Nd
 now : SlR
 past : SlR
 roots : SlR
 nl : List ItR
 pastL : List (SlR × List ItR)
 rl : List (List UInt8)
 T : List (List (List Nd))
 pp : List (List ItR)
def PairD.sF (d : PairD) (k : Nat) : Prop := stoF d.sb d.en d.tr d.mp d.es d.xs d.tds k ∨ treeF d.T k
def PairD.rF (d : PairD) (k : Nat) : Prop := refF d.rb d.now d.past d.roots d.pastL k
def PairD.oF (d : PairD) (k : Nat) : Prop := k = d.pb ∨ d.done.val.ownBlock = some k
def PairD.F (d : PairD) (k : Nat) : Prop := d.oF k ∨ d.sF k ∨ d.rF k
structure PairAt (w : World) (d : PairD) : Prop where
 row : RowV w d.pb 94 [ptrV d.sb, ptrV d.rb, d.done.val]
 hdone : w.ownsRow 0 103 18 d.done.val d.dn d.doneC
 sto : StoAt w d.sb d.N d.en d.tr d.mp d.es d.xs d.its d.tds
 ref : RefAt w d.rb 0 d.now d.past d.roots d.nl d.pastL d.rl
 tre : StoT w d.sb d.mp d.es d.T d.tds d.pp
 os : ∀ k, d.oF k → ¬ d.sF k
 or : ∀ k, d.oF k → ¬ d.rF k
 sr : ∀ k, d.sF k → ¬ d.rF k
structure PairOk (w : World) (d : PairD) : Prop where
 lay : PairAt w d
 nl : d.nl = d.its
 rl : d.rl = d.tds.map rootOf
 pl : d.pastL.length = d.tds.length
 dl : d.dn = d.tds.length
 t40 : d.tds.length ≤ 40
 cnt : d.N ≤ 500 * d.tds.length
 pst : d.pastL.map (·.2) = d.pp
 dc : d.doneC = comsC (d.tds.map rootOf)
theorem PairAt.lt {w : World} {d : PairD} (h : PairAt w d) : ∀ k, d.F k → k < w.heap.size := fun k hk => by
 rcases hk with (rfl | hk) | hk | hk
 ·exact RowV.lt h.row
 ·exact (h.hdone.lt k hk).2
 ·rcases hk with hk | hk
  ·exact h.sto.lt k hk
  ·exact h.tre.lt k hk
 ·exact h.ref.lt k hk
theorem PairAt.frame {w W : World} {S : Nat → Prop} {d : PairD} (h : PairAt w d) (hf : Frame S w W) (hS : ∀ k, d.F k → ¬ S k) : PairAt W d :=
 ⟨RowV.of_block h.row (hf.block _ (RowV.lt h.row) (hS _ (Or.inl (Or.inl rfl)))), owns_frame h.hdone hf (fun k hk => hS k (Or.inl (Or.inr hk))), h.sto.frame hf (fun k hk => hS k (Or.inr (Or.inl (Or.inl hk)))), h.ref.frame hf (fun k hk => hS k (Or.inr (Or.inr hk))), h.tre.frame hf (fun k hk => hS k (Or.inr (Or.inl (Or.inr hk)))), h.os, h.or, h.sr⟩
theorem PairAt.below {w W : World} {d : PairD} (h : PairAt w d) (hb : Below w.heap.size w W) : PairAt W d := h.frame (Frame.of_below_all (S := fun _ => False) hb) (fun _ _ e => e)
theorem PairOk.frame {w W : World} {S : Nat → Prop} {d : PairD} (h : PairOk w d) (hf : Frame S w W) (hS : ∀ k, d.F k → ¬ S k) : PairOk W d := ⟨h.lay.frame hf hS, h.nl, h.rl, h.pl, h.dl, h.t40, h.cnt, h.pst, h.dc⟩
theorem PairAt.setSto {w w' : World} {S : Nat → Prop} {d : PairD} (h : PairAt w d) {N : Nat} {en tr : SlR} {mp : Option Nat} {es : List MEn} {xs : List EnP} {its : List ItR} {tds : List Nd} (hs : StoAt w' d.sb N en tr mp es xs its tds) (hf : Frame S w w') (hS0 : ∀ k, S k → stoF d.sb d.en d.tr d.mp d.es d.xs d.tds k)
  (hn0 : ∀ k, stoF d.sb en tr mp es xs tds k → k < w.heap.size → stoF d.sb d.en d.tr d.mp d.es d.xs d.tds k) {T : List (List (List Nd))} {pp : List (List ItR)} (ht : StoT w' d.sb mp es T tds pp) (hnt : ∀ k, treeF T k → k < w.heap.size → d.sF k) :
  PairAt w' { d with N := N, en := en, tr := tr, mp := mp, es := es, xs := xs, its := its, tds := tds, T := T, pp := pp } ∧ (∀ k, PairD.F { d with N := N, en := en, tr := tr, mp := mp, es := es, xs := xs, its := its, tds := tds, T := T, pp := pp } k → k < w.heap.size → d.F k) := by
 have hS : ∀ k, S k → d.sF k := fun k hk => Or.inl (hS0 k hk)
 have hn : ∀ k, (stoF d.sb en tr mp es xs tds k ∨ treeF T k) → k < w.heap.size → d.sF k := fun k hk hlt => by
  rcases hk with hk | hk
  ·exact Or.inl (hn0 k hk hlt)
  ·exact hnt k hk hlt
 refine ⟨⟨RowV.of_block h.row (hf.block _ (RowV.lt h.row) (fun e => h.os _ (Or.inl rfl) (hS _ e))), owns_frame h.hdone hf (fun k hk e => h.os k (Or.inr hk) (hS k e)), hs, h.ref.frame hf (fun k hk e => h.sr k (hS k e) hk), ht, ?_, h.or, ?_⟩, ?_⟩
 ·intro k hk hk'
  exact h.os k hk (hn k hk' (h.lt k (Or.inl hk)))
 ·intro k hk hk'
  exact h.sr k (hn k hk (h.ref.lt k hk')) hk'
 ·intro k hk hlt
  rcases hk with hk | hk | hk
  ·exact Or.inl hk
  ·exact Or.inr (Or.inl (hn k hk hlt))
  ·exact Or.inr (Or.inr hk)
theorem PairAt.setRef {w w' : World} {S : Nat → Prop} {d : PairD} (h : PairAt w d) {now past roots : SlR} {nl : List ItR} {pastL : List (SlR × List ItR)} {rl : List (List UInt8)} (hs : RefAt w' d.rb 0 now past roots nl pastL rl) (hf : Frame S w w') (hS : ∀ k, S k → d.rF k)
  (hn : ∀ k, refF d.rb now past roots pastL k → k < w.heap.size → d.rF k) :
  PairAt w' { d with now := now, past := past, roots := roots, nl := nl, pastL := pastL, rl := rl } ∧ (∀ k, PairD.F { d with now := now, past := past, roots := roots, nl := nl, pastL := pastL, rl := rl } k → k < w.heap.size → d.F k) := by
 refine ⟨⟨RowV.of_block h.row (hf.block _ (RowV.lt h.row) (fun e => h.or _ (Or.inl rfl) (hS _ e))), owns_frame h.hdone hf (fun k hk e => h.or k (Or.inr hk) (hS k e)), h.sto.frame hf (fun k hk e => h.sr k (Or.inl hk) (hS k e)), hs, h.tre.frame hf (fun k hk e => h.sr k (Or.inr hk) (hS k e)), h.os, ?_, ?_⟩, ?_⟩
 ·intro k hk hk'
  exact h.or k hk (hn k hk' (h.lt k (Or.inl hk)))
 ·intro k hk hk'
  exact h.sr k hk (hn k hk' (h.lt k (Or.inr (Or.inl hk))))
 ·intro k hk hlt
  rcases hk with hk | hk | hk
  ·exact Or.inl hk
  ·exact Or.inr (Or.inl hk)
  ·exact Or.inr (Or.inr (hn k hk hlt))
theorem PairAt.setDone {w w' : World} {S : Nat → Prop} {d : PairD} (h : PairAt w d) {done : SlR} {dn : Nat} {doneC : List Value} (hr : RowV w' d.pb 94 [ptrV d.sb, ptrV d.rb, done.val]) (ho : w'.ownsRow 0 103 18 done.val dn doneC) (hf : Frame S w w') (hS : ∀ k, S k → d.oF k)
  (hn : ∀ k, done.val.ownBlock = some k → k < w.heap.size → d.done.val.ownBlock = some k) :
  PairAt w' { d with done := done, dn := dn, doneC := doneC } ∧ (∀ k, PairD.F { d with done := done, dn := dn, doneC := doneC } k → k < w.heap.size → d.F k) := by
 have hm : ∀ k, (k = d.pb ∨ done.val.ownBlock = some k) → k < w.heap.size → d.oF k := fun k hk hlt => by
  rcases hk with hk | hk
  ·exact Or.inl hk
  ·exact Or.inr (hn k hk hlt)
 refine ⟨⟨hr, ho, h.sto.frame hf (fun k hk e => h.os k (hS k e) (Or.inl hk)), h.ref.frame hf (fun k hk e => h.or k (hS k e) hk), h.tre.frame hf (fun k hk e => h.os k (hS k e) (Or.inr hk)), ?_, ?_, h.sr⟩, ?_⟩
 ·intro k hk hk'
  exact h.os k (hm k hk (h.lt k (Or.inr (Or.inl hk')))) hk'
 ·intro k hk hk'
  exact h.or k (hm k hk (h.ref.lt k hk')) hk'
 ·intro k hk hlt
  rcases hk with hk | hk | hk
  ·exact Or.inl (hm k hk hlt)
  ·exact Or.inr (Or.inl hk)
  ·exact Or.inr (Or.inr hk)
theorem LentAt.bs {w : World} {b : Nat} {s : ByteArray} {a : Option Addr} {cap : Nat} (h : LentAt w b s a cap) : BS w ⟨a, s.size, cap⟩ s.data.toList := by
 refine ⟨h.sl, by simp, ?_, ?_⟩
 ·intro e
  rcases h with ⟨_, h2, _⟩ | ⟨h1, _, _⟩
  ·exact h2
  ·rw [h1] at e; cases e
 ·intro x hx
  rcases h with ⟨h1, _, _⟩ | ⟨h1, _, hr⟩
  ·rw [h1] at hx; cases hx
  ·rw [h1] at hx; cases hx; exact hr.lt
end Go.Proofs.YtekegfbjbainhaaGreat


namespace Go.Proofs.YtekegfbjbainhaaGreat
open Go.RowKit
def Stepped (d : PairD) (w w' : World) : Prop := ∃ d' : PairD, d'.pb = d.pb ∧ PairOk w' d' ∧ Frame d.F w w' ∧ (∀ k, d'.F k → k < w.heap.size → d.F k)
theorem Stepped.mk {d d' : PairD} {w w' : World} (h : PairOk w' d') (hp : d'.pb = d.pb) (hf : Frame d.F w w') (hn : ∀ k, d'.F k → k < w.heap.size → d.F k) : Stepped d w w' := ⟨d', hp, h, hf, hn⟩
theorem BS.drew {w : World} {s : SlR} {l : List UInt8} (h : BS w s l) : BS w.drew s l := ⟨h.sl, h.n, h.nil, h.lt⟩
theorem BS.ofString (w : World) (s : ByteArray) (cap : Nat) (t : TypeId) (fr : Nat × Nat) : BS (w.alloc (.cells (bytesRow s cap) t fr)) ⟨some ⟨w.heap.size, 0, none⟩, s.size, cap⟩ s.data.toList :=
 ⟨SlB.mk (by simp) (bytes_of_string _ _ _ _ _), by simp, fun e => (by cases e), fun x hx => (by cases hx; simp)⟩
set_option maxRecDepth 100000 in
set_option maxHeartbeats 1000000 in
theorem stored_del (d : PairD) (cs : List Value) (ob : Int) (s : ByteArray) (p : Value) (w : World) (h : PairOk w d) (k0 : cs[0]? = some (.int .i64 4)) (k2 : cs[2]? = some (.int .i64 ob)) (k4 : cs[4]? = some (.string s)) (hs : s.size ≤ 140737488351232) :
  Calls Tryz.prog 21 #[p, .agg cs.toArray, .pointer (some ⟨d.pb, 0, none⟩)] w fun e w' => e = .returned (.bool true) ∧ Stepped d w w' := by
 have HA : Hid (Below w.heap.size w (w.alloc (.cells cs.toArray 43))) := (Below.refl _ _).alloc (Nat.le_refl _) _
 have hsm : s.data.toList.length ≤ maxLen := by simp; unfold maxLen; omega
 have HSM : Hid (s.data.toList.length ≤ maxLen) := hsm
 have hpb : d.pb < w.heap.size := RowV.lt h.lay.row
 clear hsm
 go_enter Tryz.func21, Tryz.ntmps21
 go_wp2_with fail
 refine (lent_ok s _ _ hs).mono ?_
 rintro e w1 ⟨a, cap, rfl, hl1, hb1, hz1⟩
 simp only [World.size_alloc] at hb1 hz1 hl1
 have HB1 : Hid (Below w.heap.size w w1) := HA.out.trans (hb1.mono (by omega))
 have HP1 := h.lay.below HB1.out
 have z1 := hb1.size
 simp only [World.size_alloc] at z1
 have r0 : w1.cell? ⟨d.pb, 0, none⟩ = some (.pointer (some ⟨d.sb, 0, none⟩)) := RowV.cell HP1.row 0 (by simp)
 have HSD : Hid (Calls _ _ _ _ _) := sto_del d.sb d.N d.en d.tr d.mp d.es d.xs d.its d.tds ⟨a, s.size, cap⟩ s.data.toList w1 HP1.sto hl1.bs HSM.out
 unfold SlR.val at HSD
 go_wp2_with fail
 refine HSD.out.mono ?_
 rintro e w2 ⟨rfl, en, xs, hs2, hf2, hn2⟩
 have hdF : ∀ k, d.F k → k < w.heap.size := h.lay.lt
 have hsbF : d.sb < w.heap.size := RowV.lt h.lay.sto.row
 obtain ⟨HP2, hF2⟩ := HP1.setSto hs2 hf2 (fun k e => by subst e; exact Or.inl (Or.inl rfl)) hn2 (HP1.tre.next hf2 (fun k e => Or.inl e) (fun k hk _ => hk)) (fun k hk _ => Or.inr hk)
 have z2 := hf2.size
 have hl2 : LentAt w2 (w.heap.size + 1) s a cap := hl1.frame hf2 (by omega)
 have c4 : w2.cell? ⟨w.heap.size, 4, none⟩ = some (.string s) := by
  rw [World.cell?_of_block (a := ⟨w.heap.size, 4, none⟩) (hf2.block w.heap.size (by omega) (by omega)), hb1.cell (p := ⟨w.heap.size, 4, none⟩) (by show w.heap.size < _; omega)]
  simp [go_sem, k4]
 go_wp2_with fail
 refine (back_ok s a cap (w.heap.size + 1) _ hs hl2).mono ?_
 rintro e w3 ⟨rfl, hf3, hz3⟩
 have hlt := fun k (hk : a = some ⟨k, 0, none⟩) => hl1.lt hk
 have d4 : w3.cell? ⟨w.heap.size, 4, none⟩ = some (.string s) := by
  rw [← c4]
  exact World.cell?_of_block (hf3.block _ (by show w.heap.size < _; omega) (fun e => by have := hlt _ e; simp only at this; omega))
 have HP3 := HP2.frame hf3 (fun k hk e => by have h1 := hlt _ e; have h2 := hdF k (hF2 k hk (by omega)); omega)
 have r1 : w3.cell? ⟨d.pb, 1, none⟩ = some (.pointer (some ⟨d.rb, 0, none⟩)) := RowV.cell HP3.row 1 (by simp)
 have hcv := fun w => run_bytes_of_string (P := Tryz.prog) w 9 38 5 s Tryz.underlying9 Tryz.underlying38 Tryz.underlying5
 have hfr3 : Frame d.F w w3 := by
  have g1 : Frame d.F w w1 := Frame.of_below_all HB1.out
  have g2 : Frame d.F w w2 := g1.into hf2 (fun k hk e => by subst e; exact Or.inr (Or.inl (Or.inl (Or.inl (Or.inl rfl)))))
  exact g2.into hf3 (fun k hk e => by have := hlt _ e; omega)
 have HREF : Hid (∀ W a' n' cap', Below w3.heap.size w3 W → BS W ⟨a', n', cap'⟩ s.data.toList → Calls Tryz.prog 43 #[.pointer (some ⟨d.rb, 0, none⟩), .slice a' n' cap'] W fun e W' => e = .returned (.int .i64 (delE d.its s.data.toList : Int)) ∧ Stepped d w W') := by
  intro W a' n' cap' hb hbs
  have HPW := HP3.below hb
  have zW := hb.size
  refine (ref_del d.rb d.now d.past d.roots d.nl d.pastL d.rl ⟨a', n', cap'⟩ s.data.toList W HPW.ref (by rw [h.nl]; exact h.lay.sto.len) hbs HSM.out hbs.nil).mono ?_
  rintro e W' ⟨rfl, now', q1, q2, q3⟩
  obtain ⟨HP5, hF5⟩ := HPW.setRef q1 q2 (fun k e => by subst e; exact Or.inl rfl) q3
  refine ⟨by rw [h.nl], Stepped.mk ⟨HP5, ?_, h.rl, h.pl, h.dl, h.t40, h.cnt, h.pst, h.dc⟩ rfl ?_ ?_⟩
  ·show delL d.nl _ = delL d.its _
   rw [h.nl]
  ·exact (hfr3.into (Frame.of_below_all (S := d.F) hb) (fun k _ e => e)).into q2 (fun k _ e => by subst e; exact Or.inr (Or.inr (Or.inl rfl)))
  ·intro k hk hlt'
   exact hF2 k (hF5 k hk (by omega)) (by omega)
 have g1 : w.heap.size < w3.heap.size := by omega
 have g2 : d.pb < w3.heap.size := by omega
 clear hb1 hz1 hl1 HB1 HP1 HSD hs2 hf2 hn2 HP2 hF2 hl2 c4 hf3 hlt HP3 hfr3 z1 z2 hz3 r0
 go_wp2
 go_region_with (first | (go_at_call 43; refine (HREF.out _ _ _ _ (by repeat' (first | (with_reducible exact Below.refl _ _) | (with_reducible refine Below.drew ?_) | (with_reducible refine Below.alloc ?_ ?_ _) | omega | (simp only [World.size_alloc, World.size_drew]; omega))) (by repeat' (first | (with_reducible exact BS.ofString _ _ _ _ _) | (with_reducible refine BS.drew ?_))) ).mono ?_; rintro e w4 ⟨rfl, hst4⟩))
 all_goals
  go_wp2
  go_ret
  exact ⟨rfl, hst4⟩
end Go.Proofs.YtekegfbjbainhaaGreat


namespace Go.Proofs.YtekegfbjbainhaaGreat
open Go.RowKit
theorem BS.ofString' (b : Nat) (w : World) (s : ByteArray) (cap : Nat) (t : TypeId) (fr : Nat × Nat) (hb : b = w.heap.size) : BS (w.alloc (.cells (bytesRow s cap) t fr)) ⟨some ⟨b, 0, none⟩, s.size, cap⟩ s.data.toList := by
 subst hb; exact BS.ofString _ _ _ _ _
theorem BS.alloc {w : World} {s : SlR} {l : List UInt8} (h : BS w s l) (X : Obj) : BS (w.alloc X) s l := h.below ((Below.refl _ _).alloc (Nat.le_refl _) _)
set_option maxRecDepth 100000 in
set_option maxHeartbeats 2000000 in
theorem stored_put (d : PairD) (cs : List Value) (ob : Int) (s t : ByteArray) (p : Value) (w : World) (h : PairOk w d) (k0 : cs[0]? = some (.int .i64 3)) (k2 : cs[2]? = some (.int .i64 ob)) (k4 : cs[4]? = some (.string s)) (k5 : cs[5]? = some (.string t)) (hs : s.size ≤ 140737488351232) (ht : t.size ≤ 140737488351232) :
  Calls Tryz.prog 21 #[p, .agg cs.toArray, .pointer (some ⟨d.pb, 0, none⟩)] w fun e w' => e = .returned (.bool true) ∧ Stepped d w w' := by
 have HA : Hid (Below w.heap.size w (w.alloc (.cells cs.toArray 43))) := (Below.refl _ _).alloc (Nat.le_refl _) _
 have hsm : s.data.toList.length ≤ maxLen := by simp; unfold maxLen; omega
 have HSM : Hid (s.data.toList.length ≤ maxLen) := hsm
 have htm : t.data.toList.length ≤ maxLen := by simp; unfold maxLen; omega
 have HTM : Hid (t.data.toList.length ≤ maxLen) := htm
 have hpb : d.pb < w.heap.size := RowV.lt h.lay.row
 clear hsm htm
 go_enter Tryz.func21, Tryz.ntmps21
 go_wp2_with fail
 refine (lent_ok s _ _ hs).mono ?_
 rintro e w0 ⟨a, cap, rfl, hl0, hb0, hz0⟩
 simp only [World.size_alloc] at hb0 hz0 hl0
 have z0 := hb0.size
 simp only [World.size_alloc] at z0
 have q2 : w0.cell? ⟨w.heap.size, 2, none⟩ = some (.int .i64 ob) := by
  rw [hb0.cell (p := ⟨w.heap.size, 2, none⟩) (by show w.heap.size < _; omega)]; simp [go_sem, k2]
 have q5 : w0.cell? ⟨w.heap.size, 5, none⟩ = some (.string t) := by
  rw [hb0.cell (p := ⟨w.heap.size, 5, none⟩) (by show w.heap.size < _; omega)]; simp [go_sem, k5]
 go_wp2_with fail
 refine (lent_ok t _ _ ht).mono ?_
 rintro e w1 ⟨ta, tcap, rfl, hm1, hb1, hz1⟩
 have z1 := hb1.size
 have hl1 : LentAt w1 (w.heap.size + 1) s a cap := hl0.below hb1 (Nat.le_refl _)
 have HB1 : Hid (Below w.heap.size w w1) := (HA.out.trans (hb0.mono (by omega))).trans (hb1.mono (by omega))
 have HP1 := h.lay.below HB1.out
 have r0 : w1.cell? ⟨d.pb, 0, none⟩ = some (.pointer (some ⟨d.sb, 0, none⟩)) := RowV.cell HP1.row 0 (by simp)
 have HSD : Hid (Calls _ _ _ _ _) := sto_put d.sb d.N d.en d.tr d.mp d.es d.xs d.its d.tds ⟨a, s.size, cap⟩ ⟨ta, t.size, tcap⟩ s.data.toList t.data.toList w1 HP1.sto hl1.bs hm1.bs HSM.out HTM.out
 unfold SlR.val at HSD
 go_wp2_with fail
 refine HSD.out.mono ?_
 rintro e w2 ⟨rfl, en, xs, hs2, hf2, hn2⟩
 have hdF : ∀ k, d.F k → k < w.heap.size := h.lay.lt
 have hsbF : d.sb < w.heap.size := RowV.lt h.lay.sto.row
 obtain ⟨HP2, hF2⟩ := HP1.setSto hs2 hf2 (fun k e => by subst e; exact Or.inl (Or.inl rfl)) hn2 (HP1.tre.next hf2 (fun k e => Or.inl e) (fun k hk _ => hk)) (fun k hk _ => Or.inr hk)
 have z2 := hf2.size
 have hl2 : LentAt w2 (w.heap.size + 1) s a cap := hl1.frame hf2 (by omega)
 have hm2 : LentAt w2 w0.heap.size t ta tcap := hm1.frame hf2 (by omega)
 have hop : ∀ i v, cs[i]? = some v → w2.cell? ⟨w.heap.size, i, none⟩ = some v := fun i v hv => by
  rw [World.cell?_of_block (a := ⟨w.heap.size, i, none⟩) (hf2.block w.heap.size (by omega) (by omega)), hb1.cell (p := ⟨w.heap.size, i, none⟩) (by show w.heap.size < _; omega), hb0.cell (p := ⟨w.heap.size, i, none⟩) (by show w.heap.size < _; omega)]
  simp [go_sem, hv]
 have c4 := hop 4 _ k4
 go_wp2_with fail
 refine (back_ok s a cap (w.heap.size + 1) _ hs hl2).mono ?_
 rintro e w3 ⟨rfl, hf3, hz3⟩
 have hlt := fun k (hk : a = some ⟨k, 0, none⟩) => hl1.lt hk
 have hop3 : ∀ i v, cs[i]? = some v → w3.cell? ⟨w.heap.size, i, none⟩ = some v := fun i v hv => by
  rw [← hop i v hv]
  exact World.cell?_of_block (hf3.block _ (by show w.heap.size < _; omega) (fun e => by have := hlt _ e; simp only at this; omega))
 have e5 := hop3 5 _ k5
 have hm3 : LentAt w3 w0.heap.size t ta tcap := by
  rcases hm2 with hh | ⟨x1, x2, x3⟩
  ·exact Or.inl hh
  ·exact Or.inr ⟨x1, x2, RowV.of_block x3 (hf3.block _ x3.lt (fun e => by
    have := hlt _ e
    rcases hl0 with ⟨y1, _⟩ | ⟨y1, _, y3⟩
    ·rw [y1] at e; cases e
    ·have := y3.lt; omega))⟩
 clear c4
 go_wp2_with fail
 refine (back_ok t ta tcap w0.heap.size _ ht hm3).mono ?_
 rintro e w4 ⟨rfl, hf4, hz4⟩
 have hlt4 := fun k (hk : ta = some ⟨k, 0, none⟩) => hm3.lt hk
 have hltw := fun k (hk : ta = some ⟨k, 0, none⟩) => hm1.lt hk
 have d4 : w4.cell? ⟨w.heap.size, 4, none⟩ = some (.string s) := by
  rw [← hop3 4 _ k4]
  exact World.cell?_of_block (hf4.block _ (by show w.heap.size < _; omega) (fun e => by have := hlt4 _ e; simp only at this; omega))
 have d5 : w4.cell? ⟨w.heap.size, 5, none⟩ = some (.string t) := by
  rw [← hop3 5 _ k5]
  exact World.cell?_of_block (hf4.block _ (by show w.heap.size < _; omega) (fun e => by have := hlt4 _ e; simp only at this; omega))
 have HP3 := HP2.frame hf3 (fun k hk e => by have h1 := hlt _ e; have h2 := hdF k (hF2 k hk (by omega)); omega)
 have HP4 := HP3.frame hf4 (fun k hk e => by have h1 := hltw _ e; have h2 := hdF k (hF2 k hk (by omega)); omega)
 have r1 : w4.cell? ⟨d.pb, 1, none⟩ = some (.pointer (some ⟨d.rb, 0, none⟩)) := RowV.cell HP4.row 1 (by simp)
 have hcv := fun w => run_bytes_of_string (P := Tryz.prog) w 9 38 5 s Tryz.underlying9 Tryz.underlying38 Tryz.underlying5
 have hcw := fun w => run_bytes_of_string (P := Tryz.prog) w 9 38 5 t Tryz.underlying9 Tryz.underlying38 Tryz.underlying5
 have hfr4 : Frame d.F w w4 := by
  have g1 : Frame d.F w w1 := Frame.of_below_all HB1.out
  have g2 : Frame d.F w w2 := g1.into hf2 (fun k hk e => by subst e; exact Or.inr (Or.inl (Or.inl (Or.inl (Or.inl rfl)))))
  exact (g2.into hf3 (fun k hk e => by have := hlt _ e; omega)).into hf4 (fun k hk e => by have := hlt4 _ e; omega)
 have HREF : Hid (∀ W a' n' cap' a'' n'' cap'', Below w4.heap.size w4 W → BS W ⟨a', n', cap'⟩ s.data.toList → BS W ⟨a'', n'', cap''⟩ t.data.toList → Calls Tryz.prog 41 #[.pointer (some ⟨d.rb, 0, none⟩), .slice a' n' cap', .slice a'' n'' cap''] W fun e W' => e = .returned (.int .i64 (putE d.its s.data.toList t.data.toList : Int)) ∧ Stepped d w W') := by
  intro W a' n' cap' a'' n'' cap'' hb hbs hbt
  have HPW := HP4.below hb
  have zW := hb.size
  refine (ref_put d.rb d.now d.past d.roots d.nl d.pastL d.rl ⟨a', n', cap'⟩ ⟨a'', n'', cap''⟩ s.data.toList t.data.toList W HPW.ref (by rw [h.nl]; exact h.lay.sto.len) hbs hbt HSM.out HTM.out hbs.nil hbt.nil).mono ?_
  rintro e W' ⟨rfl, now', q1, q2, q3⟩
  obtain ⟨HP5, hF5⟩ := HPW.setRef q1 q2 (fun k e => by subst e; exact Or.inl rfl) q3
  refine ⟨by rw [h.nl], Stepped.mk ⟨HP5, ?_, h.rl, h.pl, h.dl, h.t40, h.cnt, h.pst, h.dc⟩ rfl ?_ ?_⟩
  ·show putL d.nl _ _ = putL d.its _ _
   rw [h.nl]
  ·exact (hfr4.into (Frame.of_below_all (S := d.F) hb) (fun k _ e => e)).into q2 (fun k _ e => by subst e; exact Or.inr (Or.inr (Or.inl rfl)))
  ·intro k hk hlt'
   exact hF2 k (hF5 k hk (by omega)) (by omega)
 have g1 : w.heap.size < w4.heap.size := by omega
 have g2 : d.pb < w4.heap.size := by omega
 clear hb0 hz0 hl0 hb1 hz1 hl1 hm1 HB1 HP1 HSD hs2 hf2 hn2 HP2 hF2 hl2 hm2 hf3 hf4 hlt hlt4 hltw HP3 HP4 hfr4 z0 z1 z2 hz3 hz4 r0 q2 q5 hop hop3 e5 hm3
 go_wp2
 go_region_with (first | (go_at_call 41; refine (HREF.out _ _ _ _ _ _ _ (by repeat' (first | (with_reducible exact Below.refl _ _) | (with_reducible refine Below.drew ?_) | (with_reducible refine Below.alloc ?_ ?_ _) | omega | (simp only [World.size_alloc, World.size_drew]; omega))) (by repeat' (first | (with_reducible refine BS.ofString' _ _ _ _ _ _ ?_; simp) | (with_reducible refine BS.drew ?_) | (with_reducible refine BS.alloc ?_ _))) (by repeat' (first | (with_reducible refine BS.ofString' _ _ _ _ _ _ ?_; simp) | (with_reducible refine BS.drew ?_) | (with_reducible refine BS.alloc ?_ _))) ).mono ?_; rintro e w5 ⟨rfl, hst5⟩))
 all_goals
  go_wp2
  go_ret
  exact ⟨rfl, hst5⟩
end Go.Proofs.YtekegfbjbainhaaGreat


namespace Go.Proofs.YtekegfbjbainhaaGreat
open Go.RowKit
def comG (i j : Int) (x0 x1 x2 x3 x4 x5 x6 x7 s0 s1 s2 s3 s4 s5 s6 s7 : UInt8) : List Value := [.int .i64 i, .int .u8 (x0.toNat : Int), .int .u8 (x1.toNat : Int), .int .u8 (x2.toNat : Int), .int .u8 (x3.toNat : Int), .int .u8 (x4.toNat : Int), .int .u8 (x5.toNat : Int), .int .u8 (x6.toNat : Int), .int .u8 (x7.toNat : Int), .int .i64 j, .int .u8 (s0.toNat : Int), .int .u8 (s1.toNat : Int), .int .u8 (s2.toNat : Int), .int .u8 (s3.toNat : Int), .int .u8 (s4.toNat : Int), .int .u8 (s5.toNat : Int), .int .u8 (s6.toNat : Int), .int .u8 (s7.toNat : Int)]
theorem comG_one {i j : Int} {x0 x1 x2 x3 x4 x5 x6 x7 s0 s1 s2 s3 s4 s5 s6 s7 : UInt8} : ∀ v ∈ comG i j x0 x1 x2 x3 x4 x5 x6 x7 s0 s1 s2 s3 s4 s5 s6 s7, v.oneCell' = true := by
 intro v hv
 simp only [comG, List.mem_cons, List.not_mem_nil, or_false] at hv
 rcases hv with rfl | rfl | rfl | rfl | rfl | rfl | rfl | rfl | rfl | rfl | rfl | rfl | rfl | rfl | rfl | rfl | rfl | rfl <;> rfl
theorem Tryz.infoCommit : (Tryz.prog.info? 103).map (fun i => (i.zero, i.size, i.bytes)) = some (some (.agg zero18.toArray), 18, 32) := by kernel_rfl
theorem PairAt.pushDone {W W1 : World} {d : PairD} (h : PairAt W d) {done' : SlR} {C : List Value} (ho : W1.ownsRow 0 103 18 done'.val (d.dn + 1) (d.doneC ++ C)) (hf : Frame (fun k => d.done.val.ownBlock = some k) W W1) (hat : done'.val.ownBlock = d.done.val.ownBlock ∨ done'.val.ownBlock = some W.heap.size) :
  PairAt (W1.setCell ⟨d.pb, 2, none⟩ done'.val) { d with done := done', dn := d.dn + 1, doneC := d.doneC ++ C } ∧ (∀ k, PairD.F { d with done := done', dn := d.dn + 1, doneC := d.doneC ++ C } k → k < W.heap.size → d.F k) ∧ Frame d.F W (W1.setCell ⟨d.pb, 2, none⟩ done'.val) := by
 have hr1 : RowV W1 d.pb 94 [ptrV d.sb, ptrV d.rb, d.done.val] := RowV.of_block h.row (hf.block _ (RowV.lt h.row) (fun e => owns_ne h.hdone h.row (by decide) e))
 have hf2 : Frame (fun k => k = d.pb) W1 (W1.setCell ⟨d.pb, 2, none⟩ done'.val) := (Frame.refl (fun k => k = d.pb) _).setCell (p := ⟨d.pb, 2, none⟩) rfl _
 have hfo : Frame d.oF W (W1.setCell ⟨d.pb, 2, none⟩ done'.val) := Frame.into (hf.mono (fun k _ hk => Or.inr hk)) hf2 (fun k _ hk => Or.inl hk)
 obtain ⟨g1, g2⟩ := h.setDone (done := done') (dn := d.dn + 1) (doneC := d.doneC ++ C) (by simpa using RowV.set hr1 2 done'.val) (owns_frame ho hf2 (fun k hk e => owns_ne ho hr1 (by decide) (by rw [hk, e]))) hfo (fun k hk => hk) (fun k hk hlt => by
  rcases hat with e | e
  ·rw [← e]; exact hk
  ·rw [e] at hk; have := Option.some.inj hk; omega)
 exact ⟨g1, g2, hfo.mono (fun k _ hk => Or.inl hk)⟩
set_option maxRecDepth 100000 in
theorem bs18' (v0 v1 v2 v3 v4 v5 v6 v7 v8 v9 v10 v11 v12 v13 v14 v15 v16 v17 : Value) (W : World) : (Instr.buildSlice 92 1 #[(0, Value.agg #[v0, v1, v2, v3, v4, v5, v6, v7, v8, v9, v10, v11, v12, v13, v14, v15, v16, v17])]).run Tryz.prog W = .ok (.slice (some ⟨W.heap.size, 0, none⟩) 1 1) (W.alloc (.cells #[v0, v1, v2, v3, v4, v5, v6, v7, v8, v9, v10, v11, v12, v13, v14, v15, v16, v17] 103)) := by
 kernel_rfl
theorem bs18 (C : List Value) (hC : C.length = 18) (W : World) : (Instr.buildSlice 92 1 #[(0, Value.agg C.toArray)]).run Tryz.prog W = .ok (.slice (some ⟨W.heap.size, 0, none⟩) 1 1) (W.alloc (.cells C.toArray 103)) := by
 match C, hC with
 | [v0, v1, v2, v3, v4, v5, v6, v7, v8, v9, v10, v11, v12, v13, v14, v15, v16, v17], _ => exact bs18' v0 v1 v2 v3 v4 v5 v6 v7 v8 v9 v10 v11 v12 v13 v14 v15 v16 v17 W
theorem any_one {P : Program} {md : Region.Mode} {ops : Array Oper} {Q : Exit → Act → World → Prop} {i fuel : Nat} {o : Oper} {listed : Array Bool} {a : Act} {w : World} (hi : ops[i]? = some o) (hgd : o.guard = none) (hr : Region.ready md ops listed = [i])
  (h : ∀ K : Act → World → Prop, (∀ a w, wpAny P md ops Q fuel (listed.setIfInBounds i true) a w → K a w) → Oper.wp P o a w K Q) : wpAny P md ops Q (fuel + 1) listed a w :=
 wpAny_ready hr (List.cons_ne_nil _ _) (AllReady.cons hi (fun K hK => by rw [if_pos (by simp [Region.wanted, hgd])]; exact h K hK) AllReady.nil)
theorem any_two {P : Program} {md : Region.Mode} {ops : Array Oper} {Q : Exit → Act → World → Prop} {i j fuel : Nat} {o u : Oper} {listed : Array Bool} {a : Act} {w : World} (hi : ops[i]? = some o) (hgd : o.guard = none) (hj : ops[j]? = some u) (hgu : u.guard = none) (hr : Region.ready md ops listed = [i, j])
  (h : ∀ K : Act → World → Prop, (∀ a w, wpAny P md ops Q fuel (listed.setIfInBounds i true) a w → K a w) → Oper.wp P o a w K Q)
  (h' : ∀ K : Act → World → Prop, (∀ a w, wpAny P md ops Q fuel (listed.setIfInBounds j true) a w → K a w) → Oper.wp P u a w K Q) : wpAny P md ops Q (fuel + 1) listed a w :=
 wpAny_ready hr (List.cons_ne_nil _ _) (AllReady.cons hi (fun K hK => by rw [if_pos (by simp [Region.wanted, hgd])]; exact h K hK) (AllReady.cons hj (fun K hK => by rw [if_pos (by simp [Region.wanted, hgu])]; exact h' K hK) AllReady.nil))
theorem op_load1 {o : Oper} {a : Act} {w : World} {K : Act → World → Prop} {Q : Exit → Act → World → Prop} (x : Operand) (ho : o.op = .load 92 x)
  (b k : Nat) (v : Value) (hx : a.eval x = .pointer (some ⟨b, k, none⟩)) (hc : w.cell? ⟨b, k, none⟩ = some v)
  (h : K (a.put o.dst v) w) : Oper.wp Tryz.prog o a w K Q := by
 unfold Oper.wp execOp
 simp only [ho, hx]
 go_simp
 exact h
theorem op_store1 {o : Oper} {a : Act} {w : World} {K : Act → World → Prop} {Q : Exit → Act → World → Prop} (x y : Operand) (ho : o.op = .store 92 x y)
  (b k : Nat) (v : Value) (sa : Option Addr) (n c : Nat) (hx : a.eval x = .pointer (some ⟨b, k, none⟩)) (hy : a.eval y = .slice sa n c) (hc : w.cell? ⟨b, k, none⟩ = some v) (hf : w.frozen? ⟨b, k, none⟩ = false)
  (h : K (a.put o.dst undef) (w.setCell ⟨b, k, none⟩ (.slice sa n c))) : Oper.wp Tryz.prog o a w K Q := by
 unfold Oper.wp execOp
 simp only [ho, hx, hy]
 go_simp
 exact h
theorem op_buildR {o : Oper} {a : Act} {w : World} {K : Act → World → Prop} {Q : Exit → Act → World → Prop} (t e : TypeId) (x : Operand) (ho : o.op = .buildSlice t 1 #[(0, x)])
  (C : List Value) (hx : a.eval x = .agg C.toArray) (hb : ∀ W, (Instr.buildSlice t 1 #[(0, .agg C.toArray)]).run Tryz.prog W = .ok (.slice (some ⟨W.heap.size, 0, none⟩) 1 1) (W.alloc (.cells C.toArray e)))
  (h : K (a.put o.dst (.slice (some ⟨w.heap.size, 0, none⟩) 1 1)) (w.alloc (.cells C.toArray e))) : Oper.wp Tryz.prog o a w K Q := by
 unfold Oper.wp execOp
 simp only [ho, List.map_toArray, List.map_cons, List.map_nil, hx, Sem.run_bind, hb, Result.andThen_ok, Sem.run_pure]
 exact h
structure TailOk (md : Region.Mode) (ops : Array Oper) (M : Array Bool) : Prop where
 r7 : Region.ready md ops M = [7]
 f8 : Region.free md ops (M.setIfInBounds 7 true) 8 = true
 r8 : (Region.ready md ops (M.setIfInBounds 7 true)).contains 8 = true
 f9 : Region.free md ops ((M.setIfInBounds 7 true).setIfInBounds 8 true) 9 = true
 r9 : (Region.ready md ops ((M.setIfInBounds 7 true).setIfInBounds 8 true)).contains 9 = true
 r10 : Region.ready md ops (((M.setIfInBounds 7 true).setIfInBounds 8 true).setIfInBounds 9 true) = [10]
 rd : Region.ready md ops ((((M.setIfInBounds 7 true).setIfInBounds 8 true).setIfInBounds 9 true).setIfInBounds 10 true) = []
structure PushOps (ops : Array Oper) (D p q : Nat) (o0 o1 o2 o3 o4 o5 o6 o7 o8 o9 o10 : Oper) : Prop where
 e0 : ops[0]? = some o0
 e1 : ops[1]? = some o1
 e2 : ops[2]? = some o2
 e3 : ops[3]? = some o3
 e4 : ops[4]? = some o4
 e5 : ops[5]? = some o5
 e6 : ops[6]? = some o6
 e7 : ops[7]? = some o7
 e8 : ops[8]? = some o8
 e9 : ops[9]? = some o9
 e10 : ops[10]? = some o10
 d0 : o0.dst = some D
 d1 : o1.dst = some (D + 1)
 d2 : o2.dst = some (D + 2)
 d3 : o3.dst = some (D + 3)
 d4 : o4.dst = some (D + 4)
 d5 : o5.dst = some (D + 5)
 d6 : o6.dst = some (D + 6)
 d7 : o7.dst = some (D + 7)
 d8 : o8.dst = some (D + 8)
 d9 : o9.dst = some (D + 9)
 d10 : o10.dst = none
 g4 : o4.guard = none
 g5 : o5.guard = none
 g6 : o6.guard = none
 g7 : o7.guard = none
 g10 : o10.guard = none
 p4 : o4.op = .load 92 (.tmp (D + 3))
 p5 : o5.op = .load 103 (.tmp q)
 p6 : o6.op = .buildSlice 92 1 #[(0, .tmp (D + 5))]
 p7 : o7.op = .call { callee := .builtin .append, args := #[.tmp (D + 4), .tmp (D + 6)], argTypes := #[92, 92] }
 p10 : o10.op = .store 92 (.tmp (D + 9)) (.tmp (D + 7))
 sel : Region.noSelect ops = true
def finA (a : Act) (D : Nat) (pv fv s4 C6 b6 s7 : Value) : Act := (((((((((a.put (some D) pv).put (some (D + 1)) pv).put (some (D + 2)) pv).put (some (D + 3)) fv).put (some (D + 4)) s4).put (some (D + 5)) C6).put (some (D + 6)) b6).put (some (D + 7)) s7).put (some (D + 8)) pv).put (some (D + 9)) fv
theorem put_swap (a : Act) (i j : Nat) (v u : Value) (h : i ≠ j) : (a.put (some i) v).put (some j) u = (a.put (some j) u).put (some i) v := Act.put_comm a v u (fun d e1 e2 => h (by cases e1; cases e2; rfl))
theorem push_tail {md : Region.Mode} {ops : Array Oper} {Q : Exit → Act → World → Prop} {D p q : Nat} {o0 o1 o2 o3 o4 o5 o6 o7 o8 o9 o10 : Oper} (O : PushOps ops D p q o0 o1 o2 o3 o4 o5 o6 o7 o8 o9 o10) {M : Array Bool} (H : TailOk md ops M)
  (hQp : ∀ d v c a w, Q (.panic c) (a.put d v) w → Q (.panic c) a w) (b k : Nat) (s : SlR) (g : Nat) (C : List Value) (hC : C.length = 18) (hC1 : ∀ u ∈ C, u.oneCell' = true) (dn : Nat) (doneC : List Value) (hdn : dn ≤ 1000)
  (y8 : ∀ a : Act, a.eval (.tmp D) = .pointer (some ⟨b, 0, none⟩) → Yields Tryz.prog ops o8 (.pointer (some ⟨b, 0, none⟩)) a) (y9 : ∀ a : Act, a.eval (.tmp (D + 8)) = .pointer (some ⟨b, 0, none⟩) → Yields Tryz.prog ops o9 (.pointer (some ⟨b, k, none⟩)) a)
  (a : Act) (w : World) (hsz : D + 10 < a.tmps.size) (h0 : a.eval (.tmp D) = .pointer (some ⟨b, 0, none⟩)) (h4 : a.eval (.tmp (D + 4)) = s.val) (h6 : a.eval (.tmp (D + 6)) = .slice (some ⟨g, 0, none⟩) 1 1)
  (ho : w.ownsRow 0 103 18 s.val dn doneC) (hS : SlV w (some ⟨g, 0, none⟩) C)
  (hc : ∀ w6, Frame (fun x => s.val.ownBlock = some x) w w6 → ∃ v, w6.cell? ⟨b, k, none⟩ = some v ∧ w6.frozen? ⟨b, k, none⟩ = false)
  (h : ∀ (a6 : Option Addr) (n6 c6 : Nat) (w6 : World), w6.ownsRow 0 103 18 (.slice a6 n6 c6) (dn + 1) (doneC ++ C) → Frame (fun x => s.val.ownBlock = some x) w w6 → ((Value.slice a6 n6 c6).ownBlock = s.val.ownBlock ∨ (Value.slice a6 n6 c6).ownBlock = some w.heap.size) →
   Q .normal (((a.put (some (D + 7)) (.slice a6 n6 c6)).put (some (D + 8)) (.pointer (some ⟨b, 0, none⟩))).put (some (D + 9)) (.pointer (some ⟨b, k, none⟩))) (w6.setCell ⟨b, k, none⟩ (.slice a6 n6 c6))) :
  wpAny Tryz.prog md ops Q 4 M a w := by
 refine any_one O.e7 O.g7 H.r7 (fun K hK => ?_)
 refine op_appendV (.tmp (D + 4)) (.tmp (D + 6)) 92 O.p7 0 103 _ 18 32 Tryz.underlying92 Tryz.infoCommit rfl (by decide) s.val dn doneC h4 ho ⟨g, 0, none⟩ 1 1 C h6 (by rw [hC]) hS hC1 (by unfold maxLen; omega) (by omega) (Nat.zero_le _) ?_
 intro v6 w6 ho6 hf6 hat6
 obtain ⟨a6, c6, rfl, _⟩ := owns_form ho6
 refine hK _ _ ?_
 rw [O.d7]
 have hz : ∀ (d : Option Nat) (v : Value) (a : Act), (a.put d v).tmps.size = a.tmps.size := fun d v a => Act.size_put a d v
 refine wpAny_take (i := 8) (v := .pointer (some ⟨b, 0, none⟩)) O.e8 O.sel H.f8 H.r8 (fun c a w h => hQp _ _ c a w h) (y8 _ ?_) ?_
 ·rw [Act.eval_put_ne _ _ _ _ (by omega)]; exact h0
 rw [O.d8]
 refine wpAny_take (i := 9) (v := .pointer (some ⟨b, k, none⟩)) O.e9 O.sel H.f9 H.r9 (fun c a w h => hQp _ _ c a w h) (y9 _ ?_) ?_
 ·exact Act.eval_put_same _ _ _ (by rw [hz]; omega)
 rw [O.d9]
 refine any_one O.e10 O.g10 H.r10 (fun K hK => ?_)
 obtain ⟨v, hv1, hv2⟩ := hc w6 hf6
 refine op_store1 _ _ O.p10 b k v a6 (dn + 1) c6 ?_ ?_ hv1 hv2 ?_
 ·exact Act.eval_put_same _ _ _ (by rw [hz, hz]; omega)
 ·rw [Act.eval_put_ne _ _ _ _ (by omega), Act.eval_put_ne _ _ _ _ (by omega)]
  exact Act.eval_put_same _ _ _ (by omega)
 refine hK _ _ ?_
 rw [O.d10]
 exact wpAny_done H.rd (h a6 (dn + 1) c6 w6 ho6 hf6 hat6) _
structure PushOrd (md : Region.Mode) (ops : Array Oper) (L : Array Bool) : Prop where
 f0 : Region.free md ops L 0 = true
 r0 : (Region.ready md ops L).contains 0 = true
 f1 : Region.free md ops (L.setIfInBounds 0 true) 1 = true
 r1 : (Region.ready md ops (L.setIfInBounds 0 true)).contains 1 = true
 f2 : Region.free md ops ((L.setIfInBounds 0 true).setIfInBounds 1 true) 2 = true
 r2 : (Region.ready md ops ((L.setIfInBounds 0 true).setIfInBounds 1 true)).contains 2 = true
 f3 : Region.free md ops (((L.setIfInBounds 0 true).setIfInBounds 1 true).setIfInBounds 2 true) 3 = true
 r3 : (Region.ready md ops (((L.setIfInBounds 0 true).setIfInBounds 1 true).setIfInBounds 2 true)).contains 3 = true
 r45 : Region.ready md ops ((((L.setIfInBounds 0 true).setIfInBounds 1 true).setIfInBounds 2 true).setIfInBounds 3 true) = [4, 5]
 ra5 : Region.ready md ops (((((L.setIfInBounds 0 true).setIfInBounds 1 true).setIfInBounds 2 true).setIfInBounds 3 true).setIfInBounds 4 true) = [5]
 ra6 : Region.ready md ops ((((((L.setIfInBounds 0 true).setIfInBounds 1 true).setIfInBounds 2 true).setIfInBounds 3 true).setIfInBounds 4 true).setIfInBounds 5 true) = [6]
 ta : TailOk md ops (((((((L.setIfInBounds 0 true).setIfInBounds 1 true).setIfInBounds 2 true).setIfInBounds 3 true).setIfInBounds 4 true).setIfInBounds 5 true).setIfInBounds 6 true)
 rb46 : Region.ready md ops (((((L.setIfInBounds 0 true).setIfInBounds 1 true).setIfInBounds 2 true).setIfInBounds 3 true).setIfInBounds 5 true) = [4, 6]
 rb6 : Region.ready md ops ((((((L.setIfInBounds 0 true).setIfInBounds 1 true).setIfInBounds 2 true).setIfInBounds 3 true).setIfInBounds 5 true).setIfInBounds 4 true) = [6]
 tb : TailOk md ops (((((((L.setIfInBounds 0 true).setIfInBounds 1 true).setIfInBounds 2 true).setIfInBounds 3 true).setIfInBounds 5 true).setIfInBounds 4 true).setIfInBounds 6 true)
 rc4 : Region.ready md ops ((((((L.setIfInBounds 0 true).setIfInBounds 1 true).setIfInBounds 2 true).setIfInBounds 3 true).setIfInBounds 5 true).setIfInBounds 6 true) = [4]
 tc : TailOk md ops (((((((L.setIfInBounds 0 true).setIfInBounds 1 true).setIfInBounds 2 true).setIfInBounds 3 true).setIfInBounds 5 true).setIfInBounds 6 true).setIfInBounds 4 true)
theorem push_any {md : Region.Mode} {ops : Array Oper} {Q : Exit → Act → World → Prop} {D p q : Nat} {o0 o1 o2 o3 o4 o5 o6 o7 o8 o9 o10 : Oper} (O : PushOps ops D p q o0 o1 o2 o3 o4 o5 o6 o7 o8 o9 o10) {L : Array Bool} (H : PushOrd md ops L)
  (hQp : ∀ d v c a w, Q (.panic c) (a.put d v) w → Q (.panic c) a w) (b k : Nat) (s : SlR) (g : Nat) (C : List Value) (hC : C.length = 18) (hC1 : ∀ u ∈ C, u.oneCell' = true) (dn : Nat) (doneC : List Value) (hdn : dn ≤ 1000)
  (y0 : ∀ a : Act, a.eval (.tmp p) = .pointer (some ⟨b, 0, none⟩) → Yields Tryz.prog ops o0 (.pointer (some ⟨b, 0, none⟩)) a) (y1 : ∀ a : Act, a.eval (.tmp p) = .pointer (some ⟨b, 0, none⟩) → Yields Tryz.prog ops o1 (.pointer (some ⟨b, 0, none⟩)) a)
  (y2 : ∀ a : Act, a.eval (.tmp (D + 1)) = .pointer (some ⟨b, 0, none⟩) → Yields Tryz.prog ops o2 (.pointer (some ⟨b, 0, none⟩)) a) (y3 : ∀ a : Act, a.eval (.tmp (D + 2)) = .pointer (some ⟨b, 0, none⟩) → Yields Tryz.prog ops o3 (.pointer (some ⟨b, k, none⟩)) a)
  (y8 : ∀ a : Act, a.eval (.tmp D) = .pointer (some ⟨b, 0, none⟩) → Yields Tryz.prog ops o8 (.pointer (some ⟨b, 0, none⟩)) a) (y9 : ∀ a : Act, a.eval (.tmp (D + 8)) = .pointer (some ⟨b, 0, none⟩) → Yields Tryz.prog ops o9 (.pointer (some ⟨b, k, none⟩)) a)
  (a : Act) (w : World) (hsz : D + 10 < a.tmps.size) (hpD : p < D) (hqD : q < D) (hp : a.eval (.tmp p) = .pointer (some ⟨b, 0, none⟩)) (hq : a.eval (.tmp q) = .pointer (some ⟨g, 0, none⟩))
  (hR : RowV w g 103 C) (hc0 : w.cell? ⟨b, k, none⟩ = some s.val) (hb : b < w.heap.size) (ho : w.ownsRow 0 103 18 s.val dn doneC)
  (hc : ∀ w6, Frame (fun x => s.val.ownBlock = some x) (w.alloc (.cells C.toArray 103)) w6 → ∃ v, w6.cell? ⟨b, k, none⟩ = some v ∧ w6.frozen? ⟨b, k, none⟩ = false)
  (h : ∀ (a6 : Option Addr) (n6 c6 : Nat) (w6 : World), w6.ownsRow 0 103 18 (.slice a6 n6 c6) (dn + 1) (doneC ++ C) → Frame (fun x => s.val.ownBlock = some x) (w.alloc (.cells C.toArray 103)) w6 → ((Value.slice a6 n6 c6).ownBlock = s.val.ownBlock ∨ (Value.slice a6 n6 c6).ownBlock = some (w.alloc (.cells C.toArray 103)).heap.size) →
   Q .normal (finA a D (.pointer (some ⟨b, 0, none⟩)) (.pointer (some ⟨b, k, none⟩)) s.val (.agg C.toArray) (.slice (some ⟨w.heap.size, 0, none⟩) 1 1) (.slice a6 n6 c6)) (w6.setCell ⟨b, k, none⟩ (.slice a6 n6 c6))) :
  wpAny Tryz.prog md ops Q 11 L a w := by
 have hz : ∀ (d : Option Nat) (v : Value) (a : Act), (a.put d v).tmps.size = a.tmps.size := fun d v a => Act.size_put a d v
 have hinfo : (Tryz.prog.info? 103).map (·.size) = some C.length := by rw [hC]; exact Tryz.sizeCommit
 have hB : Below w.heap.size w (w.alloc (.cells C.toArray 103)) := (Below.refl _ _).alloc (Nat.le_refl _) _
 have hcA : (w.alloc (.cells C.toArray 103)).cell? ⟨b, k, none⟩ = some s.val := by rw [hB.cell (p := ⟨b, k, none⟩) hb]; exact hc0
 have hoA := owns_below ho hB
 have hSA : SlV (w.alloc (.cells C.toArray 103)) (some ⟨w.heap.size, 0, none⟩) C := SlV.alloc_new w _ _
 refine wpAny_take (i := 0) (v := .pointer (some ⟨b, 0, none⟩)) O.e0 O.sel H.f0 H.r0 (fun c a w h => hQp _ _ c a w h) (y0 _ hp) ?_
 rw [O.d0]
 refine wpAny_take (i := 1) (v := .pointer (some ⟨b, 0, none⟩)) O.e1 O.sel H.f1 H.r1 (fun c a w h => hQp _ _ c a w h) (y1 _ (by rw [Act.eval_put_ne _ _ _ _ (by omega)]; exact hp)) ?_
 rw [O.d1]
 refine wpAny_take (i := 2) (v := .pointer (some ⟨b, 0, none⟩)) O.e2 O.sel H.f2 H.r2 (fun c a w h => hQp _ _ c a w h) (y2 _ (Act.eval_put_same _ _ _ (by rw [hz]; omega))) ?_
 rw [O.d2]
 refine wpAny_take (i := 3) (v := .pointer (some ⟨b, k, none⟩)) O.e3 O.sel H.f3 H.r3 (fun c a w h => hQp _ _ c a w h) (y3 _ (Act.eval_put_same _ _ _ (by rw [hz, hz]; omega))) ?_
 rw [O.d3]
 obtain ⟨a3, ha3⟩ : ∃ x, x = (((a.put (some D) (.pointer (some ⟨b, 0, none⟩))).put (some (D + 1)) (.pointer (some ⟨b, 0, none⟩))).put (some (D + 2)) (.pointer (some ⟨b, 0, none⟩))).put (some (D + 3)) (.pointer (some ⟨b, k, none⟩)) := ⟨_, rfl⟩
 have z3 : a3.tmps.size = a.tmps.size := by rw [ha3, hz, hz, hz, hz]
 have v0 : a3.eval (.tmp D) = .pointer (some ⟨b, 0, none⟩) := by
  rw [ha3, Act.eval_put_ne _ _ _ _ (by omega), Act.eval_put_ne _ _ _ _ (by omega), Act.eval_put_ne _ _ _ _ (by omega)]; exact Act.eval_put_same _ _ _ (by omega)
 have v3 : a3.eval (.tmp (D + 3)) = .pointer (some ⟨b, k, none⟩) := by
  rw [ha3]; exact Act.eval_put_same _ _ _ (by rw [hz, hz, hz]; omega)
 have vq : a3.eval (.tmp q) = .pointer (some ⟨g, 0, none⟩) := by
  rw [ha3, Act.eval_put_ne _ _ _ _ (by omega), Act.eval_put_ne _ _ _ _ (by omega), Act.eval_put_ne _ _ _ _ (by omega), Act.eval_put_ne _ _ _ _ (by omega)]; exact hq
 have hfin : ∀ s4 C6 b6 s7, finA a D (.pointer (some ⟨b, 0, none⟩)) (.pointer (some ⟨b, k, none⟩)) s4 C6 b6 s7 = (((((a3.put (some (D + 4)) s4).put (some (D + 5)) C6).put (some (D + 6)) b6).put (some (D + 7)) s7).put (some (D + 8)) (.pointer (some ⟨b, 0, none⟩))).put (some (D + 9)) (.pointer (some ⟨b, k, none⟩)) := fun _ _ _ _ => by rw [ha3]; rfl
 simp only [hfin] at h
 rw [← ha3]
 clear ha3 hfin
 refine any_two O.e4 O.g4 O.e5 O.g5 H.r45 (fun K hK => ?_) (fun K hK => ?_)
 ·refine op_load1 _ O.p4 b k s.val v3 hc0 (hK _ _ ?_)
  rw [O.d4]
  refine any_one O.e5 O.g5 H.ra5 (fun K hK => ?_)
  refine wp_load_mid _ _ O.p5 g 0 (by rw [Act.eval_put_ne _ _ _ _ (by omega)]; exact vq) C _ hR.range Tryz.underlying103 rfl hinfo (hK _ _ ?_)
  rw [O.d5]
  refine any_one O.e6 O.g6 H.ra6 (fun K hK => ?_)
  refine op_buildR _ 103 _ O.p6 C (Act.eval_put_same _ _ _ (by rw [hz]; omega)) (bs18 C hC) (hK _ _ ?_)
  rw [O.d6]
  refine push_tail O H.ta hQp b k s w.heap.size C hC hC1 dn doneC hdn y8 y9 _ _ (by rw [hz, hz, hz]; omega) ?_ ?_ ?_ hoA hSA hc h
  ·rw [Act.eval_put_ne _ _ _ _ (by omega), Act.eval_put_ne _ _ _ _ (by omega), Act.eval_put_ne _ _ _ _ (by omega)]; exact v0
  ·rw [Act.eval_put_ne _ _ _ _ (by omega), Act.eval_put_ne _ _ _ _ (by omega)]; exact Act.eval_put_same _ _ _ (by omega)
  ·exact Act.eval_put_same _ _ _ (by rw [hz, hz]; omega)
 ·refine wp_load_mid _ _ O.p5 g 0 vq C _ hR.range Tryz.underlying103 rfl hinfo (hK _ _ ?_)
  rw [O.d5]
  refine any_two O.e4 O.g4 O.e6 O.g6 H.rb46 (fun K hK => ?_) (fun K hK => ?_)
  ·refine op_load1 _ O.p4 b k s.val (by rw [Act.eval_put_ne _ _ _ _ (by omega)]; exact v3) hc0 (hK _ _ ?_)
   rw [O.d4, put_swap _ _ _ _ _ (by omega)]
   refine any_one O.e6 O.g6 H.rb6 (fun K hK => ?_)
   refine op_buildR _ 103 _ O.p6 C (Act.eval_put_same _ _ _ (by rw [hz]; omega)) (bs18 C hC) (hK _ _ ?_)
   rw [O.d6]
   refine push_tail O H.tb hQp b k s w.heap.size C hC hC1 dn doneC hdn y8 y9 _ _ (by rw [hz, hz, hz]; omega) ?_ ?_ ?_ hoA hSA hc h
   ·rw [Act.eval_put_ne _ _ _ _ (by omega), Act.eval_put_ne _ _ _ _ (by omega), Act.eval_put_ne _ _ _ _ (by omega)]; exact v0
   ·rw [Act.eval_put_ne _ _ _ _ (by omega), Act.eval_put_ne _ _ _ _ (by omega)]; exact Act.eval_put_same _ _ _ (by omega)
   ·exact Act.eval_put_same _ _ _ (by rw [hz, hz]; omega)
  ·refine op_buildR _ 103 _ O.p6 C (Act.eval_put_same _ _ _ (by omega)) (bs18 C hC) (hK _ _ ?_)
   rw [O.d6]
   refine any_one O.e4 O.g4 H.rc4 (fun K hK => ?_)
   refine op_load1 _ O.p4 b k s.val (by rw [Act.eval_put_ne _ _ _ _ (by omega), Act.eval_put_ne _ _ _ _ (by omega)]; exact v3) hcA (hK _ _ ?_)
   rw [O.d4, put_swap _ (D + 6) (D + 4) _ _ (by omega), put_swap _ (D + 5) (D + 4) _ _ (by omega)]
   refine push_tail O H.tc hQp b k s w.heap.size C hC hC1 dn doneC hdn y8 y9 _ _ (by rw [hz, hz, hz]; omega) ?_ ?_ ?_ hoA hSA hc h
   ·rw [Act.eval_put_ne _ _ _ _ (by omega), Act.eval_put_ne _ _ _ _ (by omega), Act.eval_put_ne _ _ _ _ (by omega)]; exact v0
   ·rw [Act.eval_put_ne _ _ _ _ (by omega), Act.eval_put_ne _ _ _ _ (by omega)]; exact Act.eval_put_same _ _ _ (by omega)
   ·exact Act.eval_put_same _ _ _ (by rw [hz, hz]; omega)
end Go.Proofs.YtekegfbjbainhaaGreat
