import Derived.Test.YtekegfbjbainhaaGreatKPr25
/- The program's Commit, walked. -/
namespace Go.Proofs.YtekegfbjbainhaaGreat
set_option linter.unusedVariables false
set_option linter.unusedSimpArgs false
open Go.RowKit

/-- The program's store as it lies. -/
structure StoAt (w : World) (sb N : Nat) (en tr : SlR) (mp : Option Nat) (es : List MEn) (xs : List EnP) (its : List ItR) (tds : List Nd) : Prop where
  row : StoRow w sb en mp tr
  known : KnownAt w sb mp es N
  ent : EntAt w en xs its
  entf : ∀ k, entF en xs k → ¬ KMut sb mp es k
  own : w.ownsRow 0 138 1 tr.val tds.length (tds.map (fun x => ptrV x.b))
  trf : ∀ k, tr.val.ownBlock = some k → ¬ KMut sb mp es k
  nds : ∀ nd ∈ tds, NdOk w nd ∧ (∀ k, ndF nd k → ¬ KMut sb mp es k)
  rise : Rising its
  ok : ∀ x ∈ its, ItOk x
  norm : ∀ x ∈ its, x.below = 0
  len : its.length ≤ 60
/-- Its blocks. -/
def stoF (sb : Nat) (en tr : SlR) (mp : Option Nat) (es : List MEn) (xs : List EnP) (tds : List Nd) (k : Nat) : Prop := KMut sb mp es k ∨ entF en xs k ∨ KFoot es k ∨ tr.val.ownBlock = some k ∨ ∃ nd ∈ tds, ndF nd k
theorem EntAt.lt {w : World} {en : SlR} {xs : List EnP} {its : List ItR} (h : EntAt w en xs its) : ∀ k, entF en xs k → k < w.heap.size := fun k hk => by
  have hl := h.len
  rcases hk with hk | ⟨x, hx, ⟨y, hy, rfl⟩ | ⟨y, hy, rfl⟩⟩
  · exact (h.own.lt k hk).2
  · obtain ⟨i, hi, rfl⟩ := List.getElem_of_mem hx
    exact (h.ok i hi (by omega)).key.lt y hy
  · obtain ⟨i, hi, rfl⟩ := List.getElem_of_mem hx
    exact (h.ok i hi (by omega)).val.lt y hy
theorem StoAt.lt {w : World} {sb N : Nat} {en tr : SlR} {mp : Option Nat} {es : List MEn} {xs : List EnP} {its : List ItR} {tds : List Nd} (h : StoAt w sb N en tr mp es xs its tds) : ∀ k, stoF sb en tr mp es xs tds k → k < w.heap.size := fun k hk => by
  rcases hk with hk | hk | hk | hk | ⟨nd, hn, hk⟩
  · exact KMut.lt h.known (RowV.lt h.row) k hk
  · exact h.ent.lt k hk
  · exact KFoot.lt h.known k hk
  · exact (h.own.lt k hk).2
  · exact (h.nds nd hn).1.lt k hk
theorem StoAt.frame {w W : World} {S : Nat → Prop} {sb N : Nat} {en tr : SlR} {mp : Option Nat} {es : List MEn} {xs : List EnP} {its : List ItR} {tds : List Nd} (h : StoAt w sb N en tr mp es xs its tds) (hf : Frame S w W) (hS : ∀ k, stoF sb en tr mp es xs tds k → ¬ S k) : StoAt W sb N en tr mp es xs its tds :=
  ⟨RowV.of_block h.row (hf.block _ (RowV.lt h.row) (hS _ (Or.inl (Or.inl rfl)))), h.known.frameS hf (fun k hk => hS k (Or.inl hk)) (fun k hk => hS k (Or.inr (Or.inr (Or.inl hk)))), h.ent.frame hf (fun k hk => hS k (Or.inr (Or.inl hk))), h.entf, owns_frame h.own hf (fun k hk => hS k (Or.inr (Or.inr (Or.inr (Or.inl hk))))), h.trf, fun nd hn => ⟨(h.nds nd hn).1.frame hf (fun k hk => hS k (Or.inr (Or.inr (Or.inr (Or.inr ⟨nd, hn, hk⟩))))), (h.nds nd hn).2⟩, h.rise, h.ok, h.norm, h.len⟩
theorem StoAt.below {w W : World} {sb N : Nat} {en tr : SlR} {mp : Option Nat} {es : List MEn} {xs : List EnP} {its : List ItR} {tds : List Nd} (h : StoAt w sb N en tr mp es xs its tds) (hb : Below w.heap.size w W) : StoAt W sb N en tr mp es xs its tds := h.frame (Frame.of_below_all (S := fun _ => False) hb) (fun _ _ e => e)

/-- A struct stored into its row, as one step of a region that draws. -/
theorem step_storeP {ops : Array Oper} {o : Oper} {a : Act} {w : World} {K : Act → World → Prop} {Q : Exit → Act → World → Prop} {E : Prop} (hgd : o.guard = none) (T : TypeId) (x y : Operand) (ho : o.op = .store T x y)
    (b : Nat) (hx : a.eval x = .pointer (some ⟨b, 0, none⟩)) (cs : List Value) (hy : a.eval y = .agg cs.toArray) {l : List Value} (hR : RowV w b T l) (hl : l.length = cs.length) (hi : (Tryz.prog.info? T).map (·.size) = some cs.length) (h1 : ∀ v ∈ cs, v.oneCell' = true)
    (h : ∀ w', RowV w' b T cs → Frame (fun k => k = b) w w' → K (a.put o.dst undef) w') : if Region.wanted o (yielded ops a.tmps) = true then Oper.wp Tryz.prog o a w K Q else E := by
  have hw : Region.wanted o (yielded ops a.tmps) = true := by simp [Region.wanted, hgd]
  rw [if_pos hw]
  refine wp_store_mid T x y ho b 0 cs.toArray hx hy (by simpa using hR.there cs.length hl.symm) (by simpa using hi) (all_oneCell_toArray h1) ?_
  exact h _ (hR.setAll _ hl.symm) (Frame.setCells (S := fun k => k = b) rfl _ _ _ (Frame.refl _ _))
theorem zero18_one : ∀ u ∈ zero18, u.oneCell' = true := by decide
def comP (n m : Nat) (x0 x1 x2 x3 x4 x5 x6 x7 s0 s1 s2 s3 s4 s5 s6 s7 : UInt8) : List Value := [(.int .i64 (n : Int)), (.int .u8 (x0.toNat : Int)), (.int .u8 (x1.toNat : Int)), (.int .u8 (x2.toNat : Int)), (.int .u8 (x3.toNat : Int)), (.int .u8 (x4.toNat : Int)), (.int .u8 (x5.toNat : Int)), (.int .u8 (x6.toNat : Int)), (.int .u8 (x7.toNat : Int)), (.int .i64 (m : Int)), (.int .u8 (s0.toNat : Int)), (.int .u8 (s1.toNat : Int)), (.int .u8 (s2.toNat : Int)), (.int .u8 (s3.toNat : Int)), (.int .u8 (s4.toNat : Int)), (.int .u8 (s5.toNat : Int)), (.int .u8 (s6.toNat : Int)), (.int .u8 (s7.toNat : Int))]
theorem comP_one {n m : Nat} {x0 x1 x2 x3 x4 x5 x6 x7 s0 s1 s2 s3 s4 s5 s6 s7 : UInt8} : ∀ v ∈ comP n m x0 x1 x2 x3 x4 x5 x6 x7 s0 s1 s2 s3 s4 s5 s6 s7, v.oneCell' = true := by
  intro v hv
  simp only [comP, List.mem_cons, List.not_mem_nil, or_false] at hv
  rcases hv with rfl | rfl | rfl | rfl | rfl | rfl | rfl | rfl | rfl | rfl | rfl | rfl | rfl | rfl | rfl | rfl | rfl | rfl <;> rfl

set_option maxRecDepth 100000 in
set_option maxHeartbeats 1000000 in
theorem commit_full (sb N : Nat) (en tr : SlR) (mp : Option Nat) (es : List MEn) (xs : List EnP) (its : List ItR) (tds : List Nd) (w : World) (h : StoAt w sb N en tr mp es xs its tds) (h40 : tds.length = 40) :
    Calls Tryz.prog 44 #[.pointer (some ⟨sb, 0, none⟩)] w fun e w' => e = .returned (.tuple #[.agg zero18.toArray, .int .i64 2]) ∧ Below w.heap.size w w' := by
  have hsb := RowV.lt h.row
  have htn : tr.n = 40 := by rw [← h40]; exact (SlV.ofOwn h.own).2
  have c2 : w.cell? ⟨sb, 2, none⟩ = some (.slice tr.a 40 tr.cap) := by rw [← htn]; exact RowV.cell h.row 2 (by simp)
  have c2a : (w.alloc (.cells #[.int .i64 0, .int .u8 0, .int .u8 0, .int .u8 0, .int .u8 0, .int .u8 0, .int .u8 0, .int .u8 0, .int .u8 0, .int .i64 0, .int .u8 0, .int .u8 0, .int .u8 0, .int .u8 0, .int .u8 0, .int .u8 0, .int .u8 0, .int .u8 0] 103)).cell? ⟨sb, 2, none⟩ = some (.slice tr.a 40 tr.cap) := by rw [((Below.refl w.heap.size w).alloc (Nat.le_refl _) _).cell (p := ⟨sb, 2, none⟩) hsb]; exact c2
  have HR : Hid (RowV (w.alloc (.cells #[.int .i64 0, .int .u8 0, .int .u8 0, .int .u8 0, .int .u8 0, .int .u8 0, .int .u8 0, .int .u8 0, .int .u8 0, .int .i64 0, .int .u8 0, .int .u8 0, .int .u8 0, .int .u8 0, .int .u8 0, .int .u8 0, .int .u8 0, .int .u8 0] 103)) w.heap.size 103 zero18) := RowV.new w _ _
  clear h htn
  go_enter Tryz.func44, Tryz.ntmps44
  go_wp2_with (refine wp_storeR (by rfl) 103 (.tmp 2) (.tmp 16) (by rfl) w.heap.size (by rfl) zero18 (by rfl) HR.out rfl Tryz.sizeCommit zero18_one ?_; intro w6 hr6 hf6 hz6)
  refine ret_agg2 (k := 2) (k2 := 3) (cs := zero18) rfl rfl rfl hr6 Tryz.underlying103 rfl Tryz.sizeCommit rfl ⟨rfl, ?_⟩
  have hA : Below w.heap.size w (w.alloc (.cells #[.int .i64 0, .int .u8 0, .int .u8 0, .int .u8 0, .int .u8 0, .int .u8 0, .int .u8 0, .int .u8 0, .int .u8 0, .int .i64 0, .int .u8 0, .int .u8 0, .int .u8 0, .int .u8 0, .int .u8 0, .int .u8 0, .int .u8 0, .int .u8 0] 103)) := (Below.refl _ _).alloc (Nat.le_refl _) _
  exact hA.trans (hf6.below hA.size (fun k hk => by omega))
end Go.Proofs.YtekegfbjbainhaaGreat

/- The program's Commit: what stands behind it. -/
namespace Go.Proofs.YtekegfbjbainhaaGreat
set_option linter.unusedVariables false
set_option linter.unusedSimpArgs false
open Go.RowKit

theorem KnownAt.frameSb {w W : World} {sb N : Nat} {mp : Option Nat} {es : List MEn} (K : KnownAt w sb mp es N) (hf : Frame (fun k => k = sb) w W) (hm : mp ≠ some sb) : KnownAt W sb mp es N := by
  refine ⟨?_, K.d8, fun e he => owns_frame (K.own e he) hf (fun k hk => (K.msb e he k hk).1), fun e he x hx => (K.nodes e he x hx).frame hf (fun k hk e' => K.foot e he x hx k hk (Or.inl e')), K.apart, K.foot, K.msb, K.cnt, K.kd⟩
  have h := K.map
  cases mp with
  | none => exact h
  | some m =>
    obtain ⟨arr, clock, hh, g1, g2, g3⟩ := h
    exact ⟨arr, clock, by rw [hf.block m (Array.getElem?_eq_some_iff.1 hh).1 (fun e => hm (by rw [e]))]; exact hh, g1, g2, g3⟩
theorem StoAt.mp_ne {w : World} {sb N : Nat} {en tr : SlR} {mp : Option Nat} {es : List MEn} (hR : StoRow w sb en mp tr) (K : KnownAt w sb mp es N) : mp ≠ some sb := fun e => by
  subst e
  obtain ⟨arr, clock, hh, _⟩ := K.map
  have h1 : w.heap[sb]? = _ := hR
  rw [hh] at h1; cases h1

/-- The store behind a commit, and its blocks. -/
theorem commit_fin {w W0 w1 w2 : World} {sb N M : Nat} {en tr s o : SlR} {mp mp1 : Option Nat} {es es1 : List MEn} {xs : List EnP} {its : List ItR} {tds : List Nd} {nd : Nd} (h : StoAt W0 sb N en tr mp es xs its tds) (hW0 : Below w.heap.size w W0) (hsz : ∀ k, stoF sb en tr mp es xs tds k → k < w.heap.size)
    (hst : TrSt W0 sb en tr mp es (keyF xs) w1 M mp1 es1 o [nd]) (hb2 : Below w1.heap.size w1 w2) (ho : w2.ownsRow w1.heap.size 138 1 s.val (tds.length + 1) (tds.map (fun x => ptrV x.b) ++ [ptrV nd.b])) :
    StoAt (w2.setCell ⟨sb, 2, none⟩ s.val) sb M en s mp1 es1 xs its (tds ++ [nd]) ∧ Frame (KMut sb mp es) w (w2.setCell ⟨sb, 2, none⟩ s.val) ∧ (∀ k, stoF sb en s mp1 es1 xs (tds ++ [nd]) k → k < W0.heap.size → stoF sb en tr mp es xs tds k) := by
  have hzw := hW0.size
  have hz1 := hst.frame.size
  have hz2 := hb2.size
  have hrow2 : StoRow w2 sb en mp1 tr := RowV.below hst.row (RowV.lt hst.row) hb2
  have K2 := hst.known.below hb2
  have hfs : Frame (fun k => k = sb) w2 (w2.setCell ⟨sb, 2, none⟩ s.val) := (Frame.refl (fun k => k = sb) _).setCell (p := ⟨sb, 2, none⟩) rfl _
  have hold : ∀ k, k < W0.heap.size → KMut sb mp1 es1 k → KMut sb mp es k := fun k hlt hk => hst.muts k hk hlt
  have hf2 : Frame (KMut sb mp es) W0 w2 := hst.frame.trans (Frame.of_below_all hb2)
  have hf3 : Frame (KMut sb mp es) W0 (w2.setCell ⟨sb, 2, none⟩ s.val) := hf2.trans (hfs.mono (fun k _ hk => Or.inl hk))
  have hnd1 := hst.nodes nd (by simp)
  refine ⟨⟨by simpa using RowV.set hrow2 2 s.val, K2.frameSb hfs (StoAt.mp_ne hrow2 K2), h.ent.frame hf3 h.entf, fun k hk hm => h.entf k hk (hold k (h.ent.lt k hk) hm), ?_, ?_, ?_, h.rise, h.ok, h.norm, h.len⟩, (Frame.of_below_all hW0).trans hf3, ?_⟩
  · rw [List.length_append, List.map_append]
    exact owns_frame (owns_base ho (fun k _ => Nat.zero_le _)) hfs (fun k hk e => by have := (ho.lt k hk).1; have := RowV.lt hst.row; omega)
  · intro k hk hm
    have h1 := (ho.lt k hk).1
    have h2 := KMut.lt hst.known (RowV.lt hst.row) k hm
    omega
  · intro x hx
    rcases List.mem_append.1 hx with hx | hx
    · obtain ⟨g1, g2⟩ := h.nds x hx
      exact ⟨g1.frame hf3 g2, fun k hk hm => g2 k hk (hold k (g1.lt k hk) hm)⟩
    · simp only [List.mem_singleton] at hx; subst hx
      exact ⟨(hnd1.1.below hb2).frame hfs (fun k hk e => hnd1.2 k hk (Or.inl e)), hnd1.2⟩
  · intro k hk hlt
    have key : KFoot es k ∨ keyF xs k → stoF sb en tr mp es xs tds k := fun g => by
      rcases g with g | ⟨x, hx, y, hy, e⟩
      · exact Or.inr (Or.inr (Or.inl g))
      · exact Or.inr (Or.inl (Or.inr ⟨x, hx, Or.inl ⟨y, hy, e⟩⟩))
    rcases hk with hk | hk | hk | hk | ⟨x, hx, hk⟩
    · exact Or.inl (hst.muts k hk (by omega))
    · exact Or.inr (Or.inl hk)
    · exact key (hst.kfoot k hk (by omega))
    · have := (ho.lt k hk).1; omega
    · rcases List.mem_append.1 hx with hx | hx
      · exact Or.inr (Or.inr (Or.inr (Or.inr ⟨x, hx, hk⟩)))
      · simp only [List.mem_singleton] at hx; subst hx
        exact key (hst.nfoot x (by simp) k hk (by omega))

/-- What is put together in a Commit: the trees so far, and one more. -/
theorem concat_trees (W : World) (tr : SlR) (tds : List Nd) (nb : Nat) (h40 : tds.length ≤ 40) (hs : SlV W tr.a (tds.map (fun x => ptrV x.b))) (hn : tr.n = tds.length) (hnil : tr.a = none → tr.n = 0 ∧ tr.cap = 0) :
    Calls Tryz.prog 82 #[.slice (some ⟨W.heap.size + 1, 0, none⟩) 2 2] ((W.alloc (.cells #[.pointer (some ⟨nb, 0, none⟩)] 138)).alloc (.cells #[.slice tr.a tr.n tr.cap, .slice (some ⟨W.heap.size, 0, none⟩) 1 1] 128))
      fun e w' => ∃ s : SlR, e = .returned (.slice s.a s.n s.cap) ∧ w'.ownsRow W.heap.size 138 1 s.val (tds.length + 1) (tds.map (fun x => ptrV x.b) ++ [ptrV nb]) ∧ Below W.heap.size W w' := by
  have hB : Below W.heap.size W ((W.alloc (.cells #[.pointer (some ⟨nb, 0, none⟩)] 138)).alloc (.cells #[.slice tr.a tr.n tr.cap, .slice (some ⟨W.heap.size, 0, none⟩) 1 1] 128)) := ((Below.refl _ _).alloc (Nat.le_refl _) _).alloc (by simp) _
  have hp2 : RowV ((W.alloc (.cells #[.pointer (some ⟨nb, 0, none⟩)] 138)).alloc (.cells #[.slice tr.a tr.n tr.cap, .slice (some ⟨W.heap.size, 0, none⟩) 1 1] 128)) W.heap.size 138 [ptrV nb] := (RowV.new W 138 [ptrV nb]).alloc _
  have hp3 : RowV ((W.alloc (.cells #[.pointer (some ⟨nb, 0, none⟩)] 138)).alloc (.cells #[.slice tr.a tr.n tr.cap, .slice (some ⟨W.heap.size, 0, none⟩) 1 1] 128)) (W.heap.size + 1) 128 [.slice tr.a tr.n tr.cap, .slice (some ⟨W.heap.size, 0, none⟩) 1 1] := RowV.new_at (W.alloc (.cells #[.pointer (some ⟨nb, 0, none⟩)] 138)) 128 (W.heap.size + 1) _ (by simp)
  have hs1 := hs.below_all hB
  generalize ((W.alloc (.cells #[.pointer (some ⟨nb, 0, none⟩)] 138)).alloc (.cells #[.slice tr.a tr.n tr.cap, .slice (some ⟨W.heap.size, 0, none⟩) 1 1] 128)) = X at *
  have hpn : pN [(tr, tds.map (fun x => ptrV x.b)), (⟨some ⟨W.heap.size, 0, none⟩, 1, 1⟩, [ptrV nb])] = tds.length + 1 := by simp [pN, hn]
  have hpc : pC [(tr, tds.map (fun x => ptrV x.b)), (⟨some ⟨W.heap.size, 0, none⟩, 1, 1⟩, [ptrV nb])] = tds.map (fun x => ptrV x.b) ++ [ptrV nb] := by simp [pC]
  have hone : ∀ (l : List Nat), ∀ u ∈ l.map ptrV, u.oneCell' = true := fun l u hu => by obtain ⟨y, _, rfl⟩ := List.mem_map.1 hu; rfl
  have hcall := concatN_any (W.heap.size + 1) 2 [(tr, tds.map (fun x => ptrV x.b)), (⟨some ⟨W.heap.size, 0, none⟩, 1, 1⟩, [ptrV nb])] X rfl (by simp) (by rw [hpn]; omega) ?_ hp3.lt ?_
  · refine hcall.mono ?_
    rintro e w' ⟨s, rfl, ho, hb2⟩
    refine ⟨s, rfl, ?_, hB.trans (hb2.mono hB.size)⟩
    rw [hpn, hpc] at ho
    exact owns_base ho (fun k hk => Nat.le_trans hB.size (ho.lt k hk).1)
  · intro q hq
    match q, hq with
    | 0, _ => exact hp3.cell 0 (by simp)
    | 1, _ => exact hp3.cell 1 (by simp)
  · intro p hp
    simp only [List.mem_cons, List.not_mem_nil, or_false] at hp
    rcases hp with rfl | rfl
    · refine ⟨hs1, by simp [hn], hnil, ?_⟩
      have := hone (tds.map (·.b))
      rw [List.map_map] at this; exact this
    · refine ⟨?_, rfl, (fun h => by cases h), hone [nb]⟩
      intro q hq
      exact ⟨W.heap.size, 0, rfl, hp2.lt, by rw [Nat.zero_add]; exact hp2.cell q hq⟩
end Go.Proofs.YtekegfbjbainhaaGreat
