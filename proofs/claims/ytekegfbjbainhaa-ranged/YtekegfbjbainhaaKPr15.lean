
import Derived.Test.YtekegfbjbainhaaKJoin7
import Derived.Deep.RegionLaw
set_option linter.unusedVariables false
set_option linter.unusedSimpArgs false
namespace Go.Proofs.Ytekegfbjbainhaa
open Go.RowKit
theorem run_eql_map_nil (w : World) (mp : Option Nat) : (binOp .eql 84 (.map mp) (.map none)).run Try.prog w = .ok (.bool mp.isNone) w := by
 have h : ∀ d : Nat, (Op.equalIn (d + 1) 84 (.map mp) (.map none)).run Try.prog w = .ok mp.isNone w := fun d => by
  cases mp <;> simp [Op.equalIn, run_underlying Try.undMap]
 simp only [binOp]
 simp [Op.equal, Op.maxDepth, h 9999]
theorem keep_fin {w Wp w3 W4 : World} {sb m N j : Nat} {en tr : SlR} {es es2 : List MEn} {f : MEn} {nd : Nd} {s' : SlR} {arr2 arr4 : Array MapEntry} {clk clk4 : Nat} (hR : StoRow w sb en (some m) tr) (K : KnownAt w sb (some m) es N) (hnd : NdOk w nd) (hnf : ∀ k, ndF nd k → ¬ KMut sb (some m) es k)
  (hFp : Frame (fun k => k = m) w Wp) (hMp : MapIs Wp m arr2 clk es2) (hj : es2[j]? = some f) (hd8 : f.d.length = 8) (hes : es2 = es ∨ (f.d ∉ es.map (·.d) ∧ f = ⟨f.d, ⟨none, 0, 0⟩, []⟩ ∧ es2 = es ++ [f]))
  (ho : w3.ownsRow 0 96 1 s'.val (f.ns.length + 1) (f.ns.map (fun x => ptrV x.b) ++ [ptrV nd.b])) (hf3 : Frame (fun k => f.s.val.ownBlock = some k) Wp w3) (hat : s'.val.ownBlock = f.s.val.ownBlock ∨ s'.val.ownBlock = some Wp.heap.size)
  (hf4 : Frame (fun k => k = m) w3 W4) (hM4 : MapIs W4 m arr4 clk4 (es2.set j ⟨f.d, s', f.ns ++ [nd]⟩)) :
  StoRow W4 sb en (some m) tr ∧ KnownAt W4 sb (some m) (es2.set j ⟨f.d, s', f.ns ++ [nd]⟩) (N + 1) ∧ NdOk W4 nd ∧ (∀ k, ndF nd k → ¬ KMut sb (some m) (es2.set j ⟨f.d, s', f.ns ++ [nd]⟩) k) ∧ (∀ k, KMut sb (some m) (es2.set j ⟨f.d, s', f.ns ++ [nd]⟩) k → k < w.heap.size → KMut sb (some m) es k) ∧ Frame (KMut sb (some m) es) w W4 ∧ (∀ e ∈ es2.set j ⟨f.d, s', f.ns ++ [nd]⟩, ∀ x ∈ e.ns, x = nd ∨ ∃ e0 ∈ es, x ∈ e0.ns) := by
 have hmlt : m < w.heap.size := by
  obtain ⟨arr, clock, hh, _⟩ := K.map
  exact (Array.getElem?_eq_some_iff.1 hh).1
 have hms : sb ≠ m := fun e => by
  obtain ⟨arr, clock, hh, _⟩ := K.map
  have h1 : w.heap[sb]? = _ := hR
  rw [e, hh] at h1; cases h1
 have hmp : MapAt Wp (some m) es2 := ⟨arr2, clk, hMp.heap, hMp.kv, hMp.nodup, hMp.lt⟩
 have hiff : ∀ k, KMut sb (some m) es2 k ↔ KMut sb (some m) es k := fun k => by
  rcases hes with h | ⟨_, hf, h⟩
  ·rw [h]
  ·rw [h, hf]; exact KMut_snoc
 have K2 : KnownAt Wp sb (some m) es2 N := by
  rcases hes with h | ⟨hn, hf, h⟩
  ·subst h; exact K.frame hFp hmp
  ·rw [h, hf] at hmp ⊢
   exact K.snoc hFp hd8 hn hmp
 have hfrw : Frame (KMut sb (some m) es) w Wp := hFp.mono (fun k _ hk => Or.inr (Or.inl (by rw [hk])))
 have hnd2 : NdOk Wp nd := hnd.frame hfrw hnf
 obtain ⟨h1, h2, h3, h4, h5⟩ := K2.push hj (Nat.lt_of_lt_of_le (RowV.lt hR) hFp.size) (Nat.lt_of_lt_of_le hmlt hFp.size) hnd2 (fun k hk hm => hnf k hk ((hiff k).1 hm)) ho hf3 hat hf4 ⟨arr4, clk4, hM4.heap, hM4.kv, hM4.nodup, hM4.lt⟩
 have hrow2 : StoRow Wp sb en (some m) tr := RowV.of_block hR (hFp.block sb (RowV.lt hR) hms)
 have hrow3 : StoRow w3 sb en (some m) tr := RowV.of_block hrow2 (hf3.block sb (RowV.lt hrow2) (fun e => owns_ne (K2.own f (List.mem_of_getElem? hj)) hrow2 (by decide) e))
 refine ⟨RowV.of_block hrow3 (hf4.block sb (RowV.lt hrow3) hms), h1, h2, h3, fun k hk hlt => (hiff k).1 (h4 k hk (Nat.lt_of_lt_of_le hlt hFp.size)), hfrw.trans (h5.mono (fun k _ hk => (hiff k).1 hk)), ?_⟩
 have hsub2 : ∀ e ∈ es2, ∀ x ∈ e.ns, ∃ e0 ∈ es, x ∈ e0.ns := fun e he x hx => by
  rcases hes with h | ⟨_, hf, h⟩
  ·rw [h] at he; exact ⟨e, he, hx⟩
  ·rw [h] at he
   rcases List.mem_append.1 he with he | he
   ·exact ⟨e, he, hx⟩
   ·simp only [List.mem_singleton] at he
    rw [he, hf] at hx; cases hx
 intro e he x hx
 obtain ⟨i, hi⟩ := List.getElem?_of_mem he
 have hjl := (List.getElem?_eq_some_iff.1 hj).1
 by_cases hij : j = i
 ·subst hij
  rw [List.getElem?_set_self hjl] at hi
  have e1 := (Option.some.inj hi).symm
  subst e1
  rcases List.mem_append.1 hx with hx | hx
  ·exact Or.inr (hsub2 f (List.mem_of_getElem? hj) x hx)
  ·simp only [List.mem_singleton] at hx; exact Or.inl hx
 ·rw [List.getElem?_set_ne hij] at hi
  exact Or.inr (hsub2 e (List.mem_of_getElem? hi) x hx)
theorem ndC_list (x : Nd) {x0 x1 x2 x3 x4 x5 x6 x7 : UInt8} (h : digB (codeB x.level x.its) = [x0, x1, x2, x3, x4, x5, x6, x7]) : ndC x = [x.la.val, x.by_.val, .int .u8 (x0.toNat : Int), .int .u8 (x1.toNat : Int), .int .u8 (x2.toNat : Int), .int .u8 (x3.toNat : Int), .int .u8 (x4.toNat : Int), .int .u8 (x5.toNat : Int), .int .u8 (x6.toNat : Int), .int .u8 (x7.toNat : Int), x.be.val] := by
 unfold ndC; rw [h]; rfl
set_option maxRecDepth 100000 in
set_option maxHeartbeats 4000000 in
theorem keep_some (sb m N : Nat) (en tr : SlR) (es : List MEn) (nd : Nd) (w : World) (hR : StoRow w sb en (some m) tr) (K : KnownAt w sb (some m) es N) (hnd : NdOk w nd) (hnf : ∀ k, ndF nd k → ¬ KMut sb (some m) es k) (hN : N ≤ 1000000) :
  Calls Try.prog 103 #[.pointer (some ⟨sb, 1, none⟩), .pointer (some ⟨nd.b, 0, none⟩)] w fun e w' => e = .returned (.tuple #[]) ∧ ∃ es', StoRow w' sb en (some m) tr ∧ KnownAt w' sb (some m) es' (N + 1) ∧ NdOk w' nd ∧ (∀ k, ndF nd k → ¬ KMut sb (some m) es' k) ∧ (∀ k, KMut sb (some m) es' k → k < w.heap.size → KMut sb (some m) es k) ∧ Frame (KMut sb (some m) es) w w' ∧ (∀ e ∈ es', ∀ x ∈ e.ns, x = nd ∨ ∃ e0 ∈ es, x ∈ e0.ns) := by
 have hsb := hR.lt
 have c1 : w.cell? ⟨sb, 1, none⟩ = some (.map (some m)) := hR.cell 1 (by simp)
 obtain ⟨arr, clock, hh, hkv, hndp, hlt⟩ := K.map
 have hM : MapIs w m arr clock es := ⟨hh, hkv, hndp, hlt⟩
 obtain ⟨dd, hdd⟩ : ∃ dd, dd = digB (codeB nd.level nd.its) := ⟨_, rfl⟩
 have hd8 : dd.length = 8 := by rw [hdd]; rfl
 obtain ⟨x0, x1, x2, x3, x4, x5, x6, x7, rfl⟩ := list8 dd hd8
 have hrow := hnd.row
 rw [ndC_list nd hdd.symm] at hrow
 have g0 : w.cell? ⟨nd.b, 2, none⟩ = some (.int .u8 (x0.toNat : Int)) := hrow.cell 2 (by simp)
 have g1 : w.cell? ⟨nd.b, 3, none⟩ = some (.int .u8 (x1.toNat : Int)) := hrow.cell 3 (by simp)
 have g2 : w.cell? ⟨nd.b, 4, none⟩ = some (.int .u8 (x2.toNat : Int)) := hrow.cell 4 (by simp)
 have g3 : w.cell? ⟨nd.b, 5, none⟩ = some (.int .u8 (x3.toNat : Int)) := hrow.cell 5 (by simp)
 have g4 : w.cell? ⟨nd.b, 6, none⟩ = some (.int .u8 (x4.toNat : Int)) := hrow.cell 6 (by simp)
 have g5 : w.cell? ⟨nd.b, 7, none⟩ = some (.int .u8 (x5.toNat : Int)) := hrow.cell 7 (by simp)
 have g6 : w.cell? ⟨nd.b, 8, none⟩ = some (.int .u8 (x6.toNat : Int)) := hrow.cell 8 (by simp)
 have g7 : w.cell? ⟨nd.b, 9, none⟩ = some (.int .u8 (x7.toNat : Int)) := hrow.cell 9 (by simp)
 have HDV : Hid (dV [x0, x1, x2, x3, x4, x5, x6, x7] = .agg #[.int .u8 (x0.toNat : Int), .int .u8 (x1.toNat : Int), .int .u8 (x2.toNat : Int), .int .u8 (x3.toNat : Int), .int .u8 (x4.toNat : Int), .int .u8 (x5.toNat : Int), .int .u8 (x6.toNat : Int), .int .u8 (x7.toNat : Int)]) := rfl
 -- an entry for the key, ahead of the list of one, or behind it
 obtain ⟨WB, arrB, clkB, esB, jB, fB, bornB, hmeB, hMB, hjB, hfdB, hbB, hesB, hFB, hzB⟩ := mapEntry_dig (w := w.drew) ⟨hM.heap, hM.kv, hM.nodup, hM.lt⟩ K.d8 K.kd [x0, x1, x2, x3, x4, x5, x6, x7] rfl
 have hMa : MapIs ((w.alloc (.cells #[.pointer (some ⟨nd.b, 0, none⟩)] 96)).drew) m arr clock es := ⟨by
  have h1 : (w.alloc (.cells #[.pointer (some ⟨nd.b, 0, none⟩)] 96)).heap[m]? = w.heap[m]? := ((Below.refl w.heap.size w).alloc (Nat.le_refl _) _).block m (Array.getElem?_eq_some_iff.1 hh).1
  exact h1.trans hh, hM.kv, hM.nodup, hM.lt⟩
 obtain ⟨WA, arrA, clkA, esA, jA, fA, bornA, hmeA, hMA, hjA, hfdA, hbA, hesA, hFA, hzA⟩ := mapEntry_dig hMa K.d8 K.kd [x0, x1, x2, x3, x4, x5, x6, x7] rfl
 rw [HDV.out] at hmeA hmeB
 have heq := fun w => run_eql_map_nil w (some m)
 have HB : Hid (esB = es ∨ (fB.d ∉ es.map (·.d) ∧ fB = ⟨fB.d, ⟨none, 0, 0⟩, []⟩ ∧ esB = es ++ [fB])) := by
  rcases hesB with h | ⟨h1, h2, h3⟩
  ·exact Or.inl h
  ·exact Or.inr ⟨by rw [hfdB]; exact h1, by rw [hfdB]; exact h2, h3⟩
 have HA : Hid (esA = es ∨ (fA.d ∉ es.map (·.d) ∧ fA = ⟨fA.d, ⟨none, 0, 0⟩, []⟩ ∧ esA = es ++ [fA])) := by
  rcases hesA with h | ⟨h1, h2, h3⟩
  ·exact Or.inl h
  ·exact Or.inr ⟨by rw [hfdA]; exact h1, by rw [hfdA]; exact h2, h3⟩
 have HB8 : Hid (fB.d.length = 8) := by unfold Hid; rw [hfdB]; rfl
 have HA8 : Hid (fA.d.length = 8) := by unfold Hid; rw [hfdA]; rfl
 have hcore : ∀ {W : World} {esX : List MEn} {fX : MEn} {jX : Nat}, Frame (fun k => k = m) w W → esX[jX]? = some fX → (esX = es ∨ (fX.d ∉ es.map (·.d) ∧ fX = ⟨fX.d, ⟨none, 0, 0⟩, []⟩ ∧ esX = es ++ [fX])) → W.ownsRow 0 96 1 (.slice fX.s.a fX.s.n fX.s.cap) fX.ns.length (fX.ns.map (fun x => ptrV x.b)) ∧ fX.ns.length ≤ N := fun {W esX fX jX} hF hjX hX => by
  rcases hX with h | ⟨_, h2, h3⟩
  ·subst h
   have hm := List.mem_of_getElem? hjX
   exact ⟨owns_frame (K.own fX hm) hF (fun k hk e' => (K.msb fX hm k hk).2 (by rw [e'])), K.cnt fX hm⟩
  ·rw [h2]; exact ⟨World.ownsRow_nil _ _ _ _, Nat.zero_le _⟩
 have hFBw : Frame (fun k => k = m) w WB := ⟨hFB.os, hFB.tape, hFB.output, hFB.size, hFB.block⟩
 have hFAw : Frame (fun k => k = m) w WA := Frame.trans ((Frame.refl _ w).alloc (.cells #[.pointer (some ⟨nd.b, 0, none⟩)] 96)).drew hFA
 have HOB : Hid ((WB.alloc (.cells #[.pointer (some ⟨nd.b, 0, none⟩)] 96)).ownsRow 0 96 1 (.slice fB.s.a fB.s.n fB.s.cap) fB.ns.length (fB.ns.map (fun x => ptrV x.b))) := (hcore hFBw hjB HB.out).1.alloc _
 have HOA : Hid (WA.ownsRow 0 96 1 (.slice fA.s.a fA.s.n fA.s.cap) fA.ns.length (fA.ns.map (fun x => ptrV x.b))) := (hcore hFAw hjA HA.out).1
 have HNB : Hid (fB.ns.length ≤ N) := (hcore hFBw hjB HB.out).2
 have HNA : Hid (fA.ns.length ≤ N) := (hcore hFAw hjA HA.out).2
 have HSB : Hid (SlV (WB.alloc (.cells #[.pointer (some ⟨nd.b, 0, none⟩)] 96)) (some ⟨WB.heap.size, 0, none⟩) [.pointer (some ⟨nd.b, 0, none⟩)]) := SlV.alloc_new WB _ _
 have hrA : RowV ((w.alloc (.cells #[.pointer (some ⟨nd.b, 0, none⟩)] 96)).drew) w.heap.size 96 [.pointer (some ⟨nd.b, 0, none⟩)] := RowV.new w _ _
 have hmlt : m < w.heap.size := (Array.getElem?_eq_some_iff.1 hh).1
 have hrA2 : RowV WA w.heap.size 96 [.pointer (some ⟨nd.b, 0, none⟩)] := hrA.of_block (hFA.block _ hrA.lt (fun e => by omega))
 have HSA : Hid (SlV WA (some ⟨w.heap.size, 0, none⟩) [.pointer (some ⟨nd.b, 0, none⟩)]) := fun i hi => ⟨w.heap.size, 0, rfl, hrA2.lt, by rw [Nat.zero_add]; exact hrA2.cell i hi⟩
 have H1 : Hid (∀ u ∈ [Value.pointer (some ⟨nd.b, 0, none⟩)], u.oneCell' = true) := fun u hu => by simp at hu; subst hu; rfl
 have HMB : Hid (MapIs (WB.alloc (.cells #[.pointer (some ⟨nd.b, 0, none⟩)] 96)) m arrB clkB esB) := ⟨by
  have h1 : (WB.alloc (.cells #[.pointer (some ⟨nd.b, 0, none⟩)] 96)).heap[m]? = WB.heap[m]? := ((Below.refl WB.heap.size WB).alloc (Nat.le_refl _) _).block m (Array.getElem?_eq_some_iff.1 hMB.heap).1
  exact h1.trans hMB.heap, hMB.kv, hMB.nodup, hMB.lt⟩
 have HFB : Hid (Frame (fun k => k = m) w (WB.alloc (.cells #[.pointer (some ⟨nd.b, 0, none⟩)] 96))) := hFBw.alloc _
 have HFA : Hid (Frame (fun k => k = m) w WA) := hFAw
 have HMA : Hid (MapIs WA m arrA clkA esA) := hMA
 have HJB : Hid (esB[jB]? = some fB) := hjB
 have HJA : Hid (esA[jA]? = some fA) := hjA
 have HBB : Hid (arrB.toList[jB]?.map (·.born) = some bornB) := hbB
 have HBA : Hid (arrA.toList[jA]?.map (·.born) = some bornA) := hbA
 have HMN : Hid (∀ {W : World} {esX : List MEn} {fX : MEn} {arrX : Array MapEntry} {clkX : Nat} {w3 : World}, MapIs W m arrX clkX esX → Frame (fun k => (Value.slice fX.s.a fX.s.n fX.s.cap).ownBlock = some k) W w3 → (∀ t cs, ¬ W.heap[m]? = some (.cells cs t (0, 0))) → W.ownsRow 0 96 1 (.slice fX.s.a fX.s.n fX.s.cap) fX.ns.length (fX.ns.map (fun x => ptrV x.b)) → MapIs w3 m arrX clkX esX) := fun {W esX fX arrX clkX w3} hM hF hno hown => by
  refine ⟨?_, hM.kv, hM.nodup, hM.lt⟩
  rw [hF.block m (Array.getElem?_eq_some_iff.1 hM.heap).1 (fun e => ?_)]
  ·exact hM.heap
  ·rcases hown.2 with ⟨h1, _⟩ | ⟨g, cap, cur, h1, _, h2, _⟩
   ·rw [h1] at e; cases e
   ·rw [h1] at e
    simp only [Value.ownBlock, Option.some.injEq] at e
    subst e
    exact hno _ _ h2
 have hAB : Below w.heap.size w (w.alloc (.cells #[.pointer (some ⟨nd.b, 0, none⟩)] 96)) := (Below.refl _ _).alloc (Nat.le_refl _) _
 have c1a : (w.alloc (.cells #[.pointer (some ⟨nd.b, 0, none⟩)] 96)).cell? ⟨sb, 1, none⟩ = some (.map (some m)) := by rw [hAB.cell (p := ⟨sb, 1, none⟩) hsb]; exact c1
 have ga0 : (w.alloc (.cells #[.pointer (some ⟨nd.b, 0, none⟩)] 96)).cell? ⟨nd.b, 2, none⟩ = some (.int .u8 (x0.toNat : Int)) := by rw [hAB.cell (p := ⟨nd.b, 2, none⟩) hrow.lt]; exact g0
 have ga1 : (w.alloc (.cells #[.pointer (some ⟨nd.b, 0, none⟩)] 96)).cell? ⟨nd.b, 3, none⟩ = some (.int .u8 (x1.toNat : Int)) := by rw [hAB.cell (p := ⟨nd.b, 3, none⟩) hrow.lt]; exact g1
 have ga2 : (w.alloc (.cells #[.pointer (some ⟨nd.b, 0, none⟩)] 96)).cell? ⟨nd.b, 4, none⟩ = some (.int .u8 (x2.toNat : Int)) := by rw [hAB.cell (p := ⟨nd.b, 4, none⟩) hrow.lt]; exact g2
 have ga3 : (w.alloc (.cells #[.pointer (some ⟨nd.b, 0, none⟩)] 96)).cell? ⟨nd.b, 5, none⟩ = some (.int .u8 (x3.toNat : Int)) := by rw [hAB.cell (p := ⟨nd.b, 5, none⟩) hrow.lt]; exact g3
 have ga4 : (w.alloc (.cells #[.pointer (some ⟨nd.b, 0, none⟩)] 96)).cell? ⟨nd.b, 6, none⟩ = some (.int .u8 (x4.toNat : Int)) := by rw [hAB.cell (p := ⟨nd.b, 6, none⟩) hrow.lt]; exact g4
 have ga5 : (w.alloc (.cells #[.pointer (some ⟨nd.b, 0, none⟩)] 96)).cell? ⟨nd.b, 7, none⟩ = some (.int .u8 (x5.toNat : Int)) := by rw [hAB.cell (p := ⟨nd.b, 7, none⟩) hrow.lt]; exact g5
 have ga6 : (w.alloc (.cells #[.pointer (some ⟨nd.b, 0, none⟩)] 96)).cell? ⟨nd.b, 8, none⟩ = some (.int .u8 (x6.toNat : Int)) := by rw [hAB.cell (p := ⟨nd.b, 8, none⟩) hrow.lt]; exact g6
 have ga7 : (w.alloc (.cells #[.pointer (some ⟨nd.b, 0, none⟩)] 96)).cell? ⟨nd.b, 9, none⟩ = some (.int .u8 (x7.toNat : Int)) := by rw [hAB.cell (p := ⟨nd.b, 9, none⟩) hrow.lt]; exact g7
 have HNN : Hid (N ≤ 1000000) := hN
 clear hAB hesA hesB hfdA hfdB hbA hbB hjA hjB hcore hFBw hFAw hrA hrA2 hMA hMB hFA hFB hzA hzB hMa hdd hd8 hrow hM hkv hndp hlt hh hN
 go_enter Try.func103, Try.ntmps103
 go_wp2
 go_region_law (first
  | (refine step_appendV (by rfl) (.tmp 21) (.tmp 23) 87 (by rfl) 0 96 _ 1 8 Try.underlying87 Try.infoNodeP rfl (by decide) (.slice fB.s.a fB.s.n fB.s.cap) fB.ns.length (fB.ns.map (fun x => ptrV x.b)) (by rfl) HOB.out ⟨WB.heap.size, 0, none⟩ 1 1 [.pointer (some ⟨nd.b, 0, none⟩)] (by rfl) rfl HSB.out H1.out (by have := HNB.out; have := HNN.out; unfold maxLen; omega) (by have := HNB.out; have := HNN.out; omega) (Nat.zero_le _) ?_; intro a3 n3 c3 w3 ho3 hf3 hat3; have hM3 := HMN.out HMB.out hf3 (fun t cs e => by have := HMB.out.heap; rw [this] at e; cases e) HOB.out; obtain ⟨W4, arr4, hes4, hM4, hF4, hz4⟩ := entryStore_dig (g := ⟨fB.d, ⟨a3, n3, c3⟩, fB.ns ++ [nd]⟩) hM3 HJB.out HBB.out rfl; have hfin := keep_fin (s' := ⟨a3, n3, c3⟩) hR K hnd hnf HFB.out HMB.out HJB.out HB8.out HB.out ho3 hf3 hat3 hF4 hM4; clear hM3 hM4 hF4 hz4 hat3 hf3 ho3)
  | (refine step_appendV (by rfl) (.tmp 21) (.tmp 23) 87 (by rfl) 0 96 _ 1 8 Try.underlying87 Try.infoNodeP rfl (by decide) (.slice fA.s.a fA.s.n fA.s.cap) fA.ns.length (fA.ns.map (fun x => ptrV x.b)) (by rfl) HOA.out ⟨w.heap.size, 0, none⟩ 1 1 [.pointer (some ⟨nd.b, 0, none⟩)] (by rfl) rfl HSA.out H1.out (by have := HNA.out; have := HNN.out; unfold maxLen; omega) (by have := HNA.out; have := HNN.out; omega) (Nat.zero_le _) ?_; intro a3 n3 c3 w3 ho3 hf3 hat3; have hM3 := HMN.out HMA.out hf3 (fun t cs e => by have := HMA.out.heap; rw [this] at e; cases e) HOA.out; obtain ⟨W4, arr4, hes4, hM4, hF4, hz4⟩ := entryStore_dig (g := ⟨fA.d, ⟨a3, n3, c3⟩, fA.ns ++ [nd]⟩) hM3 HJA.out HBA.out rfl; have hfin := keep_fin (s' := ⟨a3, n3, c3⟩) hR K hnd hnf HFA.out HMA.out HJA.out HA8.out HA.out ho3 hf3 hat3 hF4 hM4; clear hM3 hM4 hF4 hz4 hat3 hf3 ho3))
 all_goals
  go_wp2
  go_returns
  exact ⟨rfl, hfin.1, _, hfin.2⟩
set_option maxRecDepth 100000 in
set_option maxHeartbeats 4000000 in
theorem keep_none (sb N : Nat) (en tr : SlR) (nd : Nd) (w0 : World) (hR0 : StoRow w0 sb en none tr) (hnd0 : NdOk w0 nd) (hnf0 : ∀ k, ndF nd k → k ≠ sb) (hN : N ≤ 1000000) :
  Calls Try.prog 103 #[.pointer (some ⟨sb, 1, none⟩), .pointer (some ⟨nd.b, 0, none⟩)] w0 fun e w' => e = .returned (.tuple #[]) ∧ ∃ m es', StoRow w' sb en (some m) tr ∧ KnownAt w' sb (some m) es' (N + 1) ∧ NdOk w' nd ∧ (∀ k, ndF nd k → ¬ KMut sb (some m) es' k) ∧ (∀ k, KMut sb (some m) es' k → k < w0.heap.size → k = sb) ∧ Frame (fun k => k = sb) w0 w' ∧ (∀ e ∈ es', ∀ x ∈ e.ns, x = nd) := by
 have hsb0 := hR0.lt
 have c10 : w0.cell? ⟨sb, 1, none⟩ = some (.map none) := hR0.cell 1 (by simp)
 have f10 : w0.frozen? ⟨sb, 1, none⟩ = false := hR0.frozen 1
 have heq0 := fun w => run_eql_map_nil w none
 have hmk := @run_makeMap Try.prog
 obtain ⟨w, hw⟩ : ∃ w, w = (w0.setCell ⟨sb, 1, none⟩ (.map (some w0.heap.size))).alloc (.map #[] 0) := ⟨_, rfl⟩
 obtain ⟨m, hm⟩ : ∃ m, m = w0.heap.size := ⟨_, rfl⟩
 have hF0 : Frame (fun k => k = sb) w0 w := by rw [hw]; exact ((Frame.refl (fun k => k = sb) w0).setCell (p := ⟨sb, 1, none⟩) rfl _).alloc _
 have hR : StoRow w sb en (some m) tr := by
  rw [hw, hm]
  have h1 := RowV.alloc (RowV.set hR0 1 (.map (some w0.heap.size))) (.map #[] 0)
  simpa using h1
 have hszw : w.heap.size = w0.heap.size + 1 := by rw [hw]; simp
 have hmh : w.heap[m]? = some (.map #[] 0) := by
  rw [hw, hm]
  have hsz : (w0.setCell ⟨sb, 1, none⟩ (.map (some w0.heap.size))).heap.size = w0.heap.size := by simp
  have h := Array.getElem?_push_size (xs := (w0.setCell ⟨sb, 1, none⟩ (.map (some w0.heap.size))).heap) (x := Obj.map #[] 0)
  rw [hsz] at h
  exact h
 have K : KnownAt w sb (some m) [] N := ⟨⟨#[], 0, hmh, rfl, by simp, fun e he => by simp at he⟩, (fun e he => by cases he), (fun e he => by cases he), (fun e he => by cases he), (fun i j e f _ hi => by simp at hi), (fun e he => by cases he), (fun e he => by cases he), (fun e he => by cases he), by simp⟩
 have hnd : NdOk w nd := hnd0.frame hF0 (fun k hk e => hnf0 k hk e)
 have hnf : ∀ k, ndF nd k → ¬ KMut sb (some m) [] k := fun k hk hmu => by
  rcases hmu with h | h | ⟨e, he, _⟩
  ·exact hnf0 k hk h
  ·have := hnd0.lt k hk; have := Option.some.inj h; omega
  ·cases he
 have HFIN : Hid (∀ {W4 : World} {es' : List MEn}, (StoRow W4 sb en (some m) tr ∧ KnownAt W4 sb (some m) es' (N + 1) ∧ NdOk W4 nd ∧ (∀ k, ndF nd k → ¬ KMut sb (some m) es' k) ∧ (∀ k, KMut sb (some m) es' k → k < w.heap.size → KMut sb (some m) [] k) ∧ Frame (KMut sb (some m) []) w W4 ∧ (∀ e ∈ es', ∀ x ∈ e.ns, x = nd ∨ ∃ e0 ∈ ([] : List MEn), x ∈ e0.ns)) → ∃ m es', StoRow W4 sb en (some m) tr ∧ KnownAt W4 sb (some m) es' (N + 1) ∧ NdOk W4 nd ∧ (∀ k, ndF nd k → ¬ KMut sb (some m) es' k) ∧ (∀ k, KMut sb (some m) es' k → k < w0.heap.size → k = sb) ∧ Frame (fun k => k = sb) w0 W4 ∧ (∀ e ∈ es', ∀ x ∈ e.ns, x = nd)) := fun {W4 es'} h => by
  obtain ⟨h1, h2, h3, h4, h5, h6, h7⟩ := h
  have key : ∀ k, KMut sb (some m) [] k → k < w0.heap.size → k = sb := fun k hk hlt => by
   rcases hk with h | h | ⟨e, he, _⟩
   ·exact h
   ·have := Option.some.inj h; omega
   ·cases he
  exact ⟨m, es', h1, h2, h3, h4, fun k hk hlt => key k (h5 k hk (by omega)) hlt, hF0.inside h6 (fun k hlt hk => key k hk hlt), fun e he x hx => by
   rcases h7 e he x hx with h | ⟨e0, he0, _⟩
   ·exact h
   ·cases he0⟩
 obtain ⟨es, hes0⟩ : ∃ es : List MEn, es = [] := ⟨_, rfl⟩
 rw [← hes0] at K hnf HFIN
 have HMM : Hid (w0.heap.size = m) := hm.symm
 clear hes0 hF0 hszw hmh hnd0 hnf0 hm
 have hsb := hR.lt
 have c1 : w.cell? ⟨sb, 1, none⟩ = some (.map (some m)) := hR.cell 1 (by simp)
 obtain ⟨arr, clock, hh, hkv, hndp, hlt⟩ := K.map
 have hM : MapIs w m arr clock es := ⟨hh, hkv, hndp, hlt⟩
 obtain ⟨dd, hdd⟩ : ∃ dd, dd = digB (codeB nd.level nd.its) := ⟨_, rfl⟩
 have hd8 : dd.length = 8 := by rw [hdd]; rfl
 obtain ⟨x0, x1, x2, x3, x4, x5, x6, x7, rfl⟩ := list8 dd hd8
 have hrow := hnd.row
 rw [ndC_list nd hdd.symm] at hrow
 have g0 : w.cell? ⟨nd.b, 2, none⟩ = some (.int .u8 (x0.toNat : Int)) := hrow.cell 2 (by simp)
 have g1 : w.cell? ⟨nd.b, 3, none⟩ = some (.int .u8 (x1.toNat : Int)) := hrow.cell 3 (by simp)
 have g2 : w.cell? ⟨nd.b, 4, none⟩ = some (.int .u8 (x2.toNat : Int)) := hrow.cell 4 (by simp)
 have g3 : w.cell? ⟨nd.b, 5, none⟩ = some (.int .u8 (x3.toNat : Int)) := hrow.cell 5 (by simp)
 have g4 : w.cell? ⟨nd.b, 6, none⟩ = some (.int .u8 (x4.toNat : Int)) := hrow.cell 6 (by simp)
 have g5 : w.cell? ⟨nd.b, 7, none⟩ = some (.int .u8 (x5.toNat : Int)) := hrow.cell 7 (by simp)
 have g6 : w.cell? ⟨nd.b, 8, none⟩ = some (.int .u8 (x6.toNat : Int)) := hrow.cell 8 (by simp)
 have g7 : w.cell? ⟨nd.b, 9, none⟩ = some (.int .u8 (x7.toNat : Int)) := hrow.cell 9 (by simp)
 have HDV : Hid (dV [x0, x1, x2, x3, x4, x5, x6, x7] = .agg #[.int .u8 (x0.toNat : Int), .int .u8 (x1.toNat : Int), .int .u8 (x2.toNat : Int), .int .u8 (x3.toNat : Int), .int .u8 (x4.toNat : Int), .int .u8 (x5.toNat : Int), .int .u8 (x6.toNat : Int), .int .u8 (x7.toNat : Int)]) := rfl
 -- an entry for the key, ahead of the list of one, or behind it
 obtain ⟨WB, arrB, clkB, esB, jB, fB, bornB, hmeB, hMB, hjB, hfdB, hbB, hesB, hFB, hzB⟩ := mapEntry_dig (w := w.drew) ⟨hM.heap, hM.kv, hM.nodup, hM.lt⟩ K.d8 K.kd [x0, x1, x2, x3, x4, x5, x6, x7] rfl
 have hMa : MapIs ((w.alloc (.cells #[.pointer (some ⟨nd.b, 0, none⟩)] 96)).drew) m arr clock es := ⟨by
  have h1 : (w.alloc (.cells #[.pointer (some ⟨nd.b, 0, none⟩)] 96)).heap[m]? = w.heap[m]? := ((Below.refl w.heap.size w).alloc (Nat.le_refl _) _).block m (Array.getElem?_eq_some_iff.1 hh).1
  exact h1.trans hh, hM.kv, hM.nodup, hM.lt⟩
 obtain ⟨WA, arrA, clkA, esA, jA, fA, bornA, hmeA, hMA, hjA, hfdA, hbA, hesA, hFA, hzA⟩ := mapEntry_dig hMa K.d8 K.kd [x0, x1, x2, x3, x4, x5, x6, x7] rfl
 rw [HDV.out] at hmeA hmeB
 have heq := fun w => run_eql_map_nil w (some m)
 have HB : Hid (esB = es ∨ (fB.d ∉ es.map (·.d) ∧ fB = ⟨fB.d, ⟨none, 0, 0⟩, []⟩ ∧ esB = es ++ [fB])) := by
  rcases hesB with h | ⟨h1, h2, h3⟩
  ·exact Or.inl h
  ·exact Or.inr ⟨by rw [hfdB]; exact h1, by rw [hfdB]; exact h2, h3⟩
 have HA : Hid (esA = es ∨ (fA.d ∉ es.map (·.d) ∧ fA = ⟨fA.d, ⟨none, 0, 0⟩, []⟩ ∧ esA = es ++ [fA])) := by
  rcases hesA with h | ⟨h1, h2, h3⟩
  ·exact Or.inl h
  ·exact Or.inr ⟨by rw [hfdA]; exact h1, by rw [hfdA]; exact h2, h3⟩
 have HB8 : Hid (fB.d.length = 8) := by unfold Hid; rw [hfdB]; rfl
 have HA8 : Hid (fA.d.length = 8) := by unfold Hid; rw [hfdA]; rfl
 have hcore : ∀ {W : World} {esX : List MEn} {fX : MEn} {jX : Nat}, Frame (fun k => k = m) w W → esX[jX]? = some fX → (esX = es ∨ (fX.d ∉ es.map (·.d) ∧ fX = ⟨fX.d, ⟨none, 0, 0⟩, []⟩ ∧ esX = es ++ [fX])) → W.ownsRow 0 96 1 (.slice fX.s.a fX.s.n fX.s.cap) fX.ns.length (fX.ns.map (fun x => ptrV x.b)) ∧ fX.ns.length ≤ N := fun {W esX fX jX} hF hjX hX => by
  rcases hX with h | ⟨_, h2, h3⟩
  ·subst h
   have hm := List.mem_of_getElem? hjX
   exact ⟨owns_frame (K.own fX hm) hF (fun k hk e' => (K.msb fX hm k hk).2 (by rw [e'])), K.cnt fX hm⟩
  ·rw [h2]; exact ⟨World.ownsRow_nil _ _ _ _, Nat.zero_le _⟩
 have hFBw : Frame (fun k => k = m) w WB := ⟨hFB.os, hFB.tape, hFB.output, hFB.size, hFB.block⟩
 have hFAw : Frame (fun k => k = m) w WA := Frame.trans ((Frame.refl _ w).alloc (.cells #[.pointer (some ⟨nd.b, 0, none⟩)] 96)).drew hFA
 have HOB : Hid ((WB.alloc (.cells #[.pointer (some ⟨nd.b, 0, none⟩)] 96)).ownsRow 0 96 1 (.slice fB.s.a fB.s.n fB.s.cap) fB.ns.length (fB.ns.map (fun x => ptrV x.b))) := (hcore hFBw hjB HB.out).1.alloc _
 have HOA : Hid (WA.ownsRow 0 96 1 (.slice fA.s.a fA.s.n fA.s.cap) fA.ns.length (fA.ns.map (fun x => ptrV x.b))) := (hcore hFAw hjA HA.out).1
 have HNB : Hid (fB.ns.length ≤ N) := (hcore hFBw hjB HB.out).2
 have HNA : Hid (fA.ns.length ≤ N) := (hcore hFAw hjA HA.out).2
 have HSB : Hid (SlV (WB.alloc (.cells #[.pointer (some ⟨nd.b, 0, none⟩)] 96)) (some ⟨WB.heap.size, 0, none⟩) [.pointer (some ⟨nd.b, 0, none⟩)]) := SlV.alloc_new WB _ _
 have hrA : RowV ((w.alloc (.cells #[.pointer (some ⟨nd.b, 0, none⟩)] 96)).drew) w.heap.size 96 [.pointer (some ⟨nd.b, 0, none⟩)] := RowV.new w _ _
 have hmlt : m < w.heap.size := (Array.getElem?_eq_some_iff.1 hh).1
 have hrA2 : RowV WA w.heap.size 96 [.pointer (some ⟨nd.b, 0, none⟩)] := hrA.of_block (hFA.block _ hrA.lt (fun e => by omega))
 have HSA : Hid (SlV WA (some ⟨w.heap.size, 0, none⟩) [.pointer (some ⟨nd.b, 0, none⟩)]) := fun i hi => ⟨w.heap.size, 0, rfl, hrA2.lt, by rw [Nat.zero_add]; exact hrA2.cell i hi⟩
 have H1 : Hid (∀ u ∈ [Value.pointer (some ⟨nd.b, 0, none⟩)], u.oneCell' = true) := fun u hu => by simp at hu; subst hu; rfl
 have HMB : Hid (MapIs (WB.alloc (.cells #[.pointer (some ⟨nd.b, 0, none⟩)] 96)) m arrB clkB esB) := ⟨by
  have h1 : (WB.alloc (.cells #[.pointer (some ⟨nd.b, 0, none⟩)] 96)).heap[m]? = WB.heap[m]? := ((Below.refl WB.heap.size WB).alloc (Nat.le_refl _) _).block m (Array.getElem?_eq_some_iff.1 hMB.heap).1
  exact h1.trans hMB.heap, hMB.kv, hMB.nodup, hMB.lt⟩
 have HFB : Hid (Frame (fun k => k = m) w (WB.alloc (.cells #[.pointer (some ⟨nd.b, 0, none⟩)] 96))) := hFBw.alloc _
 have HFA : Hid (Frame (fun k => k = m) w WA) := hFAw
 have HMA : Hid (MapIs WA m arrA clkA esA) := hMA
 have HJB : Hid (esB[jB]? = some fB) := hjB
 have HJA : Hid (esA[jA]? = some fA) := hjA
 have HBB : Hid (arrB.toList[jB]?.map (·.born) = some bornB) := hbB
 have HBA : Hid (arrA.toList[jA]?.map (·.born) = some bornA) := hbA
 have HMN : Hid (∀ {W : World} {esX : List MEn} {fX : MEn} {arrX : Array MapEntry} {clkX : Nat} {w3 : World}, MapIs W m arrX clkX esX → Frame (fun k => (Value.slice fX.s.a fX.s.n fX.s.cap).ownBlock = some k) W w3 → (∀ t cs, ¬ W.heap[m]? = some (.cells cs t (0, 0))) → W.ownsRow 0 96 1 (.slice fX.s.a fX.s.n fX.s.cap) fX.ns.length (fX.ns.map (fun x => ptrV x.b)) → MapIs w3 m arrX clkX esX) := fun {W esX fX arrX clkX w3} hM hF hno hown => by
  refine ⟨?_, hM.kv, hM.nodup, hM.lt⟩
  rw [hF.block m (Array.getElem?_eq_some_iff.1 hM.heap).1 (fun e => ?_)]
  ·exact hM.heap
  ·rcases hown.2 with ⟨h1, _⟩ | ⟨g, cap, cur, h1, _, h2, _⟩
   ·rw [h1] at e; cases e
   ·rw [h1] at e
    simp only [Value.ownBlock, Option.some.injEq] at e
    subst e
    exact hno _ _ h2
 have hAB : Below w.heap.size w (w.alloc (.cells #[.pointer (some ⟨nd.b, 0, none⟩)] 96)) := (Below.refl _ _).alloc (Nat.le_refl _) _
 have c1a : (w.alloc (.cells #[.pointer (some ⟨nd.b, 0, none⟩)] 96)).cell? ⟨sb, 1, none⟩ = some (.map (some m)) := by rw [hAB.cell (p := ⟨sb, 1, none⟩) hsb]; exact c1
 have ga0 : (w.alloc (.cells #[.pointer (some ⟨nd.b, 0, none⟩)] 96)).cell? ⟨nd.b, 2, none⟩ = some (.int .u8 (x0.toNat : Int)) := by rw [hAB.cell (p := ⟨nd.b, 2, none⟩) hrow.lt]; exact g0
 have ga1 : (w.alloc (.cells #[.pointer (some ⟨nd.b, 0, none⟩)] 96)).cell? ⟨nd.b, 3, none⟩ = some (.int .u8 (x1.toNat : Int)) := by rw [hAB.cell (p := ⟨nd.b, 3, none⟩) hrow.lt]; exact g1
 have ga2 : (w.alloc (.cells #[.pointer (some ⟨nd.b, 0, none⟩)] 96)).cell? ⟨nd.b, 4, none⟩ = some (.int .u8 (x2.toNat : Int)) := by rw [hAB.cell (p := ⟨nd.b, 4, none⟩) hrow.lt]; exact g2
 have ga3 : (w.alloc (.cells #[.pointer (some ⟨nd.b, 0, none⟩)] 96)).cell? ⟨nd.b, 5, none⟩ = some (.int .u8 (x3.toNat : Int)) := by rw [hAB.cell (p := ⟨nd.b, 5, none⟩) hrow.lt]; exact g3
 have ga4 : (w.alloc (.cells #[.pointer (some ⟨nd.b, 0, none⟩)] 96)).cell? ⟨nd.b, 6, none⟩ = some (.int .u8 (x4.toNat : Int)) := by rw [hAB.cell (p := ⟨nd.b, 6, none⟩) hrow.lt]; exact g4
 have ga5 : (w.alloc (.cells #[.pointer (some ⟨nd.b, 0, none⟩)] 96)).cell? ⟨nd.b, 7, none⟩ = some (.int .u8 (x5.toNat : Int)) := by rw [hAB.cell (p := ⟨nd.b, 7, none⟩) hrow.lt]; exact g5
 have ga6 : (w.alloc (.cells #[.pointer (some ⟨nd.b, 0, none⟩)] 96)).cell? ⟨nd.b, 8, none⟩ = some (.int .u8 (x6.toNat : Int)) := by rw [hAB.cell (p := ⟨nd.b, 8, none⟩) hrow.lt]; exact g6
 have ga7 : (w.alloc (.cells #[.pointer (some ⟨nd.b, 0, none⟩)] 96)).cell? ⟨nd.b, 9, none⟩ = some (.int .u8 (x7.toNat : Int)) := by rw [hAB.cell (p := ⟨nd.b, 9, none⟩) hrow.lt]; exact g7
 have HNN : Hid (N ≤ 1000000) := hN
 clear hAB hesA hesB hfdA hfdB hbA hbB hjA hjB hcore hFBw hFAw hrA hrA2 hMA hMB hFA hFB hzA hzB hMa hdd hd8 hrow hM hkv hndp hlt hh hN
 go_enter Try.func103, Try.ntmps103
 go_wp2
 rw [← hw]
 clear hw
 rw [HMM.out]
 go_region_law (first
  | (refine step_appendV (by rfl) (.tmp 21) (.tmp 23) 87 (by rfl) 0 96 _ 1 8 Try.underlying87 Try.infoNodeP rfl (by decide) (.slice fB.s.a fB.s.n fB.s.cap) fB.ns.length (fB.ns.map (fun x => ptrV x.b)) (by rfl) HOB.out ⟨WB.heap.size, 0, none⟩ 1 1 [.pointer (some ⟨nd.b, 0, none⟩)] (by rfl) rfl HSB.out H1.out (by have := HNB.out; have := HNN.out; unfold maxLen; omega) (by have := HNB.out; have := HNN.out; omega) (Nat.zero_le _) ?_; intro a3 n3 c3 w3 ho3 hf3 hat3; have hM3 := HMN.out HMB.out hf3 (fun t cs e => by have := HMB.out.heap; rw [this] at e; cases e) HOB.out; obtain ⟨W4, arr4, hes4, hM4, hF4, hz4⟩ := entryStore_dig (g := ⟨fB.d, ⟨a3, n3, c3⟩, fB.ns ++ [nd]⟩) hM3 HJB.out HBB.out rfl; have hfin := keep_fin (s' := ⟨a3, n3, c3⟩) hR K hnd hnf HFB.out HMB.out HJB.out HB8.out HB.out ho3 hf3 hat3 hF4 hM4; clear hM3 hM4 hF4 hz4 hat3 hf3 ho3)
  | (refine step_appendV (by rfl) (.tmp 21) (.tmp 23) 87 (by rfl) 0 96 _ 1 8 Try.underlying87 Try.infoNodeP rfl (by decide) (.slice fA.s.a fA.s.n fA.s.cap) fA.ns.length (fA.ns.map (fun x => ptrV x.b)) (by rfl) HOA.out ⟨w.heap.size, 0, none⟩ 1 1 [.pointer (some ⟨nd.b, 0, none⟩)] (by rfl) rfl HSA.out H1.out (by have := HNA.out; have := HNN.out; unfold maxLen; omega) (by have := HNA.out; have := HNN.out; omega) (Nat.zero_le _) ?_; intro a3 n3 c3 w3 ho3 hf3 hat3; have hM3 := HMN.out HMA.out hf3 (fun t cs e => by have := HMA.out.heap; rw [this] at e; cases e) HOA.out; obtain ⟨W4, arr4, hes4, hM4, hF4, hz4⟩ := entryStore_dig (g := ⟨fA.d, ⟨a3, n3, c3⟩, fA.ns ++ [nd]⟩) hM3 HJA.out HBA.out rfl; have hfin := keep_fin (s' := ⟨a3, n3, c3⟩) hR K hnd hnf HFA.out HMA.out HJA.out HA8.out HA.out ho3 hf3 hat3 hF4 hM4; clear hM3 hM4 hF4 hz4 hat3 hf3 ho3))
 all_goals
  go_wp2
  go_returns
  obtain ⟨m', es', h1, h2⟩ := HFIN.out hfin
  exact ⟨rfl, m', h1, es', h2⟩
theorem keep_any (sb N : Nat) (en tr : SlR) (mp : Option Nat) (es : List MEn) (nd : Nd) (w : World) (hR : StoRow w sb en mp tr) (K : KnownAt w sb mp es N) (hnd : NdOk w nd) (hnf : ∀ k, ndF nd k → ¬ KMut sb mp es k) (hN : N ≤ 1000000) :
  Calls Try.prog 103 #[.pointer (some ⟨sb, 1, none⟩), .pointer (some ⟨nd.b, 0, none⟩)] w fun e w' => e = .returned (.tuple #[]) ∧ ∃ mp' es', StoRow w' sb en mp' tr ∧ KnownAt w' sb mp' es' (N + 1) ∧ NdOk w' nd ∧ (∀ k, ndF nd k → ¬ KMut sb mp' es' k) ∧ (∀ k, KMut sb mp' es' k → k < w.heap.size → KMut sb mp es k) ∧ Frame (KMut sb mp es) w w' ∧ (∀ e ∈ es', ∀ x ∈ e.ns, x = nd ∨ ∃ e0 ∈ es, x ∈ e0.ns) := by
 cases mp with
 | some m =>
  refine (keep_some sb m N en tr es nd w hR K hnd hnf hN).mono ?_
  rintro e w' ⟨rfl, es', h⟩
  exact ⟨rfl, some m, es', h⟩
 | none =>
  have hes : es = [] := K.map
  subst hes
  refine (keep_none sb N en tr nd w hR hnd (fun k hk e => hnf k hk (Or.inl e)) hN).mono ?_
  rintro e w' ⟨rfl, m, es', h1, h2, h3, h4, h5, h6, h7⟩
  exact ⟨rfl, some m, es', h1, h2, h3, h4, fun k hk hlt => Or.inl (h5 k hk hlt), h6.mono (fun k _ hk => Or.inl hk), fun e he x hx => Or.inl (h7 e he x hx)⟩
end Go.Proofs.Ytekegfbjbainhaa
