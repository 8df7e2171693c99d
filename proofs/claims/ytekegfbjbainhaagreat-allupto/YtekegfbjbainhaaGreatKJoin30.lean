import Derived.Test.YtekegfbjbainhaaGreatKJoin17
import Derived.Test.YtekegfbjbainhaaGreatKJoin29
import Derived.Laws.CopyRow
import Derived.Deep.WholeRow
import Derived.Deep.RegionHeld3
set_option linter.unusedVariables false
set_option linter.unusedSimpArgs false

namespace Go.Proofs.YtekegfbjbainhaaGreat
open Go.RowKit
attribute [local go_sem ↓] Go.wp_at_zero Go.wp_at_succ
def s77 : List UInt8 := [179, 255, 255, 77, 0, 0, 0, 0]
def s78 : List UInt8 := [178, 255, 255, 77, 0, 0, 0, 0]
set_option maxRecDepth 100000 in
theorem sign77 (w : World) : Calls Tryz.prog 101 #[.int .i64 (-77)] w fun e w' => e = .returned (dV s77) ∧ Below w.heap.size w w' := by
 go_enter Tryz.func101, Tryz.ntmps101
 go_wp2
 go_returns
 exact ⟨rfl, by repeat' (first | (with_reducible exact Below.refl _ _) | (with_reducible refine Below.drew ?_) | (with_reducible refine Below.alloc ?_ ?_ _) | (with_reducible refine Below.setCell ?_ ?_ _) | omega | simp)⟩
set_option maxRecDepth 100000 in
theorem sign78 (w : World) : Calls Tryz.prog 101 #[.int .i64 (-78)] w fun e w' => e = .returned (dV s78) ∧ Below w.heap.size w w' := by
 go_enter Tryz.func101, Tryz.ntmps101
 go_wp2
 go_returns
 exact ⟨rfl, by repeat' (first | (with_reducible exact Below.refl _ _) | (with_reducible refine Below.drew ?_) | (with_reducible refine Below.alloc ?_ ?_ _) | (with_reducible refine Below.setCell ?_ ?_ _) | omega | simp)⟩
theorem wp_storeDm {ops : Array Oper} {rest : List Oper} {o : Oper} {a : Act} {w : World} {Q : Exit → Act → World → Prop} (hgd : o.guard = none) (x y : Operand) (ho : o.op = .store 36 x y)
  (b off : Nat) (hx : a.eval x = .pointer (some ⟨b, off, none⟩)) (d : List UInt8) (hd : d.length = 8) (hy : a.eval y = dV d) {t : Nat} {l : List Value} (hR : RowV w b t l) (hl : off + 8 ≤ l.length)
  (h : ∀ w', RowV w' b t (l.take off ++ d.map u8c ++ l.drop (off + 8)) → Frame (fun k => k = b) w w' → w'.heap.size = w.heap.size → wpList Tryz.prog ops Q rest (a.put o.dst undef) w') : wpList Tryz.prog ops Q (o :: rest) a w := by
 refine wpList_store_mid hgd 36 x y ho b off (d.map u8c).toArray hx hy ?_ (by simpa [hd] using Tryz.infoDig) (all_oneCell_toArray (u8c_one d)) ?_
 ·intro j hj
  have := hR.there l.length rfl (off + j) (by simp [hd] at hj; omega)
  simpa using this
 ·refine h _ ?_ (Frame.setCells (S := fun k => k = b) rfl _ _ _ (Frame.refl _ _)) (size_setCells _ _ _ _)
  have := RowV.setCells (d.map u8c) off w l hR (by simp [hd]; omega)
  simpa [hd] using this
theorem run_copy_row8 {P : Program} (w : World) (dT sT ty elem : TypeId) (g o dLen dCap : Nat) (a : Addr) (sLen sCap : Nat) (cur : Array Value) (t : TypeId) (cs : List Value)
  (hu : P.underlying dT = some (.slice elem)) (hs : (P.info? elem).map (·.size) = some 8) (hg : w.heap[g]? = some (.cells cur t (0, 0))) (hn : cs.length = Nat.min sLen dLen * 8)
  (hsrc : ∀ j v, cs[j]? = some v → w.cell? (a.add j) = some v) (hfit : o + cs.length ≤ cur.size) (h1 : ∀ v ∈ cs, v.oneCell' = true) :
  (Builtin.copy_ #[dT, sT] ty #[.slice (some ⟨g, o, none⟩) dLen dCap, .slice (some a) sLen sCap]).run P w = .ok (goInt (Nat.min sLen dLen)) (w.setRow g (cur.toList.take o ++ cs ++ cur.toList.drop (o + cs.length)).toArray) := by
 have hl := run_loadCells_list (P := P) w a cs hsrc
 have hst := run_storeCells_at P g o t cs 0 cur w hg (by simpa using hfit) h1
 cases hq : P.info? elem with
 | none => simp [hq] at hs
 | some i =>
  have hi : i.size = 8 := by simpa [hq] using hs
  simp [Builtin.copy_, run_underlying hu, Builtin.lenOf, Builtin.firstCells, sizeOf, typeInfo, hq, hi, ← hn, hl, hst]
theorem made8 (n : Nat) : madeCells #[.int .u8 0, .int .u8 0, .int .u8 0, .int .u8 0, .int .u8 0, .int .u8 0, .int .u8 0, .int .u8 0] (n * 8) = (List.replicate (n * 8) (Value.int .u8 0)).toArray := by
 apply Array.ext
 ·simp [size_madeCells]
 ·intro i h1 h2
  have hi : i % 8 < 8 := Nat.mod_lt _ (by omega)
  simp only [madeCells, Array.getElem_map, Array.getElem_range, List.getElem_toArray, List.getElem_replicate]
  show (#[Value.int .u8 0, Value.int .u8 0, Value.int .u8 0, Value.int .u8 0, Value.int .u8 0, Value.int .u8 0, Value.int .u8 0, Value.int .u8 0] : Array Value)[i % 8]! = Value.int .u8 0
  generalize i % 8 = q at *
  match q, hi with
  | 0, _ => rfl
  | 1, _ => rfl
  | 2, _ => rfl
  | 3, _ => rfl
  | 4, _ => rfl
  | 5, _ => rfl
  | 6, _ => rfl
  | 7, _ => rfl
def repD (d : List UInt8) (k : Nat) : List Value := digsC (List.replicate k d)
theorem repD_succ (d : List UInt8) (k : Nat) : repD d (k + 1) = repD d k ++ d.map u8c := by
 unfold repD digsC
 rw [List.replicate_succ', List.flatMap_append]; simp
theorem repD_length (d : List UInt8) (hd : d.length = 8) (k : Nat) : (repD d k).length = k * 8 := by
 unfold repD
 rw [digsC_length _ (fun x hx => by rw [(List.mem_replicate.1 hx).2]; exact hd)]; simp
def fillC (l : List (List UInt8)) (j : Nat) : List Value := digsC l ++ repD s77 j ++ List.replicate ((8 - j) * 8) (Value.int .u8 0)
def lentC (l : List (List UInt8)) : List Value := digsC l ++ repD s77 8
theorem fillC_length (l : List (List UInt8)) (h : ∀ d ∈ l, d.length = 8) (j : Nat) (hj : j ≤ 8) : (fillC l j).length = (l.length + 8) * 8 := by
 unfold fillC
 rw [List.length_append, List.length_append, digsC_length _ h, repD_length _ rfl, List.length_replicate]
 omega
theorem fillC_set (l : List (List UInt8)) (h : ∀ d ∈ l, d.length = 8) (j : Nat) (hj : j < 8) : (fillC l j).take ((l.length + j) * 8) ++ s77.map u8c ++ (fillC l j).drop ((l.length + j) * 8 + 8) = fillC l (j + 1) := by
 have hA : (digsC l ++ repD s77 j).length = (l.length + j) * 8 := by rw [List.length_append, digsC_length _ h, repD_length _ rfl]; omega
 unfold fillC
 rw [List.take_append_of_le_length (by omega), List.take_of_length_le (by omega), List.drop_append, List.drop_of_length_le (by omega), List.nil_append, hA, repD_succ, show (l.length + j) * 8 + 8 - (l.length + j) * 8 = 8 by omega, List.drop_replicate, show (8 - j) * 8 - 8 = (8 - (j + 1)) * 8 by omega]
 simp only [List.append_assoc]
theorem fillC_8 (l : List (List UInt8)) : fillC l 8 = lentC l := by simp [fillC, lentC]
set_option maxRecDepth 100000 in
set_option maxHeartbeats 1600000 in
theorem lentPath_some (l : List (List UInt8)) (ad : Addr) (cap : Nat) (w : World) (hA : SlD w (some ad) l) (hl : l.length ≤ 17592186044416) :
  Calls Tryz.prog 72 #[.slice (some ad) l.length cap] w fun e w' => e = .returned (.slice (some ⟨w.heap.size, 0, none⟩) l.length (l.length + 8)) ∧ RowV w' w.heap.size 36 (lentC l) ∧ Below w.heap.size w w' := by
 obtain ⟨i0, hi, hz0, hz1, hz2⟩ := info_parts Tryz.infoDigP
 have hmk : ∀ u : World, (Instr.makeSlice 41 (.int .i64 ((l.length : Int) + 8)) (.int .i64 ((l.length : Int) + 8))).run Tryz.prog u = .ok (.slice (some ⟨u.heap.size, 0, none⟩) (l.length + 8) (l.length + 8)) (u.alloc (.cells (List.replicate ((l.length + 8) * 8) (Value.int .u8 0)).toArray 36)) := fun u => by
  have h := run_make (P := Tryz.prog) u 41 36 i0 _ Tryz.underlying41 hi hz0 .i64 .i64 ((l.length : Int) + 8) ((l.length : Int) + 8) (by omega) (Int.le_refl _) (by rw [hz2]; omega) (by omega)
  have e : ((l.length : Int) + 8).toNat = l.length + 8 := by omega
  rw [e, hz1] at h
  rw [h]
  congr 4
  exact made8 (l.length + 8)
 have hn := fun w => run_eql_slice_nil (P := Tryz.prog) w 41 36 (some ad) l.length cap Tryz.underlying41
 have hdl := digsC_length l hA.2
 have hr0 : RowV (w.alloc (.cells (List.replicate ((l.length + 8) * 8) (Value.int .u8 0)).toArray 36)) w.heap.size 36 (List.replicate ((l.length + 8) * 8) (Value.int .u8 0)) := RowV.new w _ _
 obtain ⟨W1, hcp, hrow, hbel⟩ : ∃ W1 : World, (Builtin.copy_ #[41, 41] 3 #[Value.slice (some ⟨w.heap.size, 0, none⟩) (l.length + 8) (l.length + 8), Value.slice (some ad) l.length cap]).run Tryz.prog
   (w.alloc (.cells (List.replicate ((l.length + 8) * 8) (Value.int .u8 0)).toArray 36)) = .ok (goInt l.length) W1 ∧ RowV W1 w.heap.size 36 (fillC l 0) ∧ Below w.heap.size w W1 := by
  have hmin : Nat.min l.length (l.length + 8) = l.length := by simp [Nat.min_def]
  have h := run_copy_row8 (P := Tryz.prog) (w.alloc (.cells (List.replicate ((l.length + 8) * 8) (Value.int .u8 0)).toArray 36)) 41 41 3 36 w.heap.size 0 (l.length + 8) (l.length + 8) ad l.length cap (List.replicate ((l.length + 8) * 8) (Value.int .u8 0)).toArray 36 (digsC l) Tryz.underlying41 Tryz.infoDig (by exact hr0) (by rw [hmin]; exact hdl) (fun j v hv => by
   obtain ⟨hj, hv⟩ := List.getElem?_eq_some_iff.1 hv
   obtain ⟨b', o', ha, hb', hc⟩ := hA.1 j hj
   cases ha
   rw [addr_add, World.cell?_alloc_lt _ _ _ (by exact hb'), hc, hv]) (by simp; omega) (fun v hv => by
   unfold digsC at hv
   obtain ⟨d, _, hd⟩ := List.mem_flatMap.1 hv
   obtain ⟨x, _, rfl⟩ := List.mem_map.1 hd
   rfl)
  rw [hmin, World.setRow_alloc_new] at h
  have e : ((List.replicate ((l.length + 8) * 8) (Value.int .u8 0)).toArray.toList.take 0 ++ digsC l ++ (List.replicate ((l.length + 8) * 8) (Value.int .u8 0)).toArray.toList.drop (0 + (digsC l).length)) = fillC l 0 := by
   rw [hdl]
   unfold fillC repD
   simp only [List.take_zero, List.nil_append, Nat.zero_add, List.drop_replicate, List.replicate_zero, digsC, List.flatMap_nil, List.append_nil]
   rw [show (l.length + 8) * 8 - l.length * 8 = (8 - 0) * 8 by omega]
  rw [e] at h
  exact ⟨_, h, RowV.new w _ _, (Below.refl _ _).alloc (Nat.le_refl _) _⟩
 obtain ⟨Z, hZ⟩ : ∃ Z : Array Value, Z = (List.replicate ((l.length + 8) * 8) (Value.int .u8 0)).toArray := ⟨_, rfl⟩
 rw [← hZ] at hcp
 simp only [← hZ] at hmk
 have HLD : Hid (∀ d ∈ l, d.length = 8) := hA.2
 have hlI : (l.length : Int) ≤ 17592186044416 := by omega
 clear hA hr0 hdl hZ
 generalize hnn : l.length = n at *
 have HN : Hid (l.length = n) := hnn
 clear hnn
 go_enter Tryz.func72, Tryz.ntmps72
 go_wp2
 go_loopw [4] (fun i wr => ∃ k : Nat, k ≤ 8 ∧ i = .int .i64 ((n : Int) + k) ∧ Hid (RowV wr w.heap.size 36 (fillC l k)) ∧ Hid (Below w.heap.size w wr)) (fun i _ => n + 8 - (intOf i).toNat)
 case atStart => exact ⟨0, by omega, by simp, hrow, hbel⟩
 case round =>
  obtain ⟨k, hk, rfl, HR, HB⟩ := hrel
  by_cases hlt : k < 8
  ·have hltI : (n : Int) + k < n + 8 := by omega
   have hki : (n : Int) + k = ((n + k : Nat) : Int) := by omega
   have hkj : ((n + k : Nat) : Int) < n + 8 := by omega
   rw [hki]
   generalize hq : n + k = q at *
   have HQ : Hid (n + k = q) := hq
   clear hq
   go_wp2_with fail
   refine (sign77 _).mono ?_
   rintro e w2 ⟨rfl, hb2⟩
   have HR2 : Hid (RowV w2 w.heap.size 36 (fillC l k)) := RowV.below HR.out HR.out.lt hb2
   have HB2 : Hid (Below w.heap.size w w2) := HB.out.trans (hb2.mono HB.out.size)
   clear hb2
   go_wp2_with (refine wp_storeDm (by rfl) (.tmp 25) (.tmp 24) (by rfl) w.heap.size (q * 8) (by first | rfl | (show Value.pointer _ = Value.pointer _; simp)) s77 rfl (by rfl) HR2.out (by rw [fillC_length l HLD.out k hk, HN.out]; have := HQ.out; omega) ?_; intro w3 hR3 hf3 hz3)
   have HR3 : Hid (RowV w3 w.heap.size 36 (fillC l (k + 1))) := by
    rw [← fillC_set l HLD.out k hlt, HN.out, HQ.out]
    exact hR3
   have HB3 : Hid (Below w.heap.size w w3) := HB2.out.trans (hf3.below HB2.out.size (fun j hj => by omega))
   have hQ := HQ.out
   refine ⟨⟨k + 1, by omega, by go_num, HR3, HB3⟩, by simp [intOf]; omega⟩
  ·obtain rfl : k = 8 := by omega
   have HE : Hid (fillC l 8 = lentC l) := fillC_8 l
   have hltI : ¬ (n : Int) + 8 < n + 8 := by omega
   go_wp2
   go_returns
   exact ⟨rfl, by rw [← HE.out]; exact HR.out, HB.out⟩
end Go.Proofs.YtekegfbjbainhaaGreat


namespace Go.Proofs.YtekegfbjbainhaaGreat
open Go.RowKit
attribute [local go_sem ↓] Go.wp_at_zero Go.wp_at_succ
theorem lentPath_nil (w : World) : Calls Tryz.prog 72 #[.slice none 0 0] w fun e w' => e = .returned (.slice none 0 0) ∧ w' = w := by
 have hn := fun w => run_eql_slice_nil (P := Tryz.prog) w 41 36 none 0 0 Tryz.underlying41
 go_enter Tryz.func72, Tryz.ntmps72
 go_wp2
 go_returns
 exact ⟨rfl, rfl⟩
theorem backPath_nil (w : World) : Calls Tryz.prog 74 #[.slice none 0 0, .slice none 0 0] w fun e w' => e = .returned (.bool true) ∧ w' = w := by
 have hn := fun w => run_eql_slice_nil (P := Tryz.prog) w 41 36 none 0 0 Tryz.underlying41
 go_enter Tryz.func74, Tryz.ntmps74
 go_wp2
 go_ret
 exact ⟨rfl, rfl⟩
def overC (l : List (List UInt8)) (k : Nat) : List Value := repD s78 k ++ (lentC l).drop (k * 8)
theorem lentC_length (l : List (List UInt8)) (h : ∀ d ∈ l, d.length = 8) : (lentC l).length = (l.length + 8) * 8 := by
 unfold lentC
 rw [List.length_append, digsC_length _ h, repD_length _ rfl]; omega
theorem overC_length (l : List (List UInt8)) (h : ∀ d ∈ l, d.length = 8) (k : Nat) (hk : k ≤ l.length + 8) : (overC l k).length = (l.length + 8) * 8 := by
 unfold overC
 rw [List.length_append, repD_length _ rfl, List.length_drop, lentC_length _ h]; omega
theorem overC_set (l : List (List UInt8)) (h : ∀ d ∈ l, d.length = 8) (k : Nat) (hk : k < l.length + 8) : (overC l k).take (k * 8) ++ s78.map u8c ++ (overC l k).drop (k * 8 + 8) = overC l (k + 1) := by
 have hA : (repD s78 k).length = k * 8 := repD_length _ rfl k
 unfold overC
 rw [List.take_append_of_le_length (by omega), List.take_of_length_le (by omega), List.drop_append, List.drop_of_length_le (by omega), List.nil_append, hA, repD_succ, List.drop_drop, show k * 8 + (k * 8 + 8 - k * 8) = (k + 1) * 8 by omega]
theorem overC_at (l : List (List UInt8)) (h : ∀ d ∈ l, d.length = 8) (k j : Nat) (hk : k < l.length + 8) (hn : l.length ≤ k) (hj : j < 8) : (overC l k)[k * 8 + j]? = (s77.map u8c)[j]? := by
 have hA : (repD s78 k).length = k * 8 := repD_length _ rfl k
 have hd := digsC_length l h
 unfold overC
 rw [List.getElem?_append_right (by omega), hA, show k * 8 + j - k * 8 = j by omega, List.getElem?_drop]
 unfold lentC
 rw [List.getElem?_append_right (by omega), hd, show k * 8 + j - l.length * 8 = (k - l.length) * 8 + j by omega]
 obtain ⟨q, hq, hq8⟩ : ∃ q, k - l.length = q ∧ q < 8 := ⟨_, rfl, by omega⟩
 rw [hq]
 have e : repD s77 8 = repD s77 q ++ (s77.map u8c ++ repD s77 (7 - q)) := by
  unfold repD digsC
  rw [show s77.map u8c = [s77].flatMap (·.map u8c) by simp, ← List.flatMap_append, ← List.flatMap_append]
  congr 1
  rw [show ([s77] : List (List UInt8)) = List.replicate 1 s77 from rfl, List.replicate_append_replicate, List.replicate_append_replicate]
  congr 1; omega
 rw [e, List.getElem?_append_right (by rw [repD_length _ rfl]; omega), repD_length _ rfl, show q * 8 + j - q * 8 = j by omega, List.getElem?_append_left (by simpa [s77] using hj)]
set_option maxRecDepth 100000 in
set_option maxHeartbeats 1600000 in
theorem backPath_some (l : List (List UInt8)) (ad : Addr) (cb : Nat) (cap : Nat) (w : World) (hA : SlD w (some ad) l) (hl : l.length ≤ 17592186044416) (hR : RowV w cb 36 (lentC l)) :
  Calls Tryz.prog 74 #[.slice (some ⟨cb, 0, none⟩) l.length (l.length + 8), .slice (some ad) l.length cap] w fun e w' => e = .returned (.bool true) ∧ Frame (fun k => k = cb) w w' := by
 have hn := fun w => run_eql_slice_nil (P := Tryz.prog) w 41 36 (some ⟨cb, 0, none⟩) l.length (l.length + 8) Tryz.underlying41
 have hC : SlD w (some ⟨cb, 0, none⟩) l := ⟨fun i hi => ⟨cb, 0, rfl, hR.lt, by
  rw [Nat.zero_add, RowV.cell? hR i]
  unfold lentC
  rw [List.getElem?_append_left hi, List.getElem?_eq_getElem hi]⟩, hA.2⟩
 have HSP : Hid (Calls _ _ _ _ _) := samePath_any l (some ⟨cb, 0, none⟩) (some ad) (l.length + 8) cap w hC hA (by omega)
 have HLD : Hid (∀ d ∈ l, d.length = 8) := hA.2
 have hlI : (l.length : Int) ≤ 17592186044416 := by omega
 have HR0 : Hid (RowV w cb 36 (overC l 0)) := by
  unfold Hid overC repD
  simpa [digsC] using hR
 have heq : ∀ W, (Op.equalIn 10000 36 (.agg #[.int .u8 179, .int .u8 255, .int .u8 255, .int .u8 77, .int .u8 0, .int .u8 0, .int .u8 0, .int .u8 0]) (.agg #[.int .u8 179, .int .u8 255, .int .u8 255, .int .u8 77, .int .u8 0, .int .u8 0, .int .u8 0, .int .u8 0])).run Tryz.prog W = .ok true W := fun W => eqD_run 179 255 255 77 0 0 0 0 179 255 255 77 0 0 0 0 W
 have HV7 : Hid (dV s77 = .agg #[.int .u8 179, .int .u8 255, .int .u8 255, .int .u8 77, .int .u8 0, .int .u8 0, .int .u8 0, .int .u8 0]) := rfl
 clear hA hC hR
 generalize hnn : l.length = n at *
 have HN : Hid (l.length = n) := hnn
 clear hnn
 go_enter Tryz.func74, Tryz.ntmps74
 go_wp2_with fail
 refine HSP.out.mono ?_
 rintro e w1 ⟨rfl, m0, rfl⟩
 go_wp2
 go_loopw [5, 7] (fun ok i wr => ∃ k : Nat, k ≤ n + 8 ∧ i = .int .i64 (k : Int) ∧ ok = .bool true ∧ Hid (RowV wr cb 36 (overC l k)) ∧ Hid (Frame (fun j => j = cb) w wr)) (fun _ i _ => n + 8 - (intOf i).toNat)
 case atStart => exact ⟨0, by omega, by simp, by simp, HR0.out, Frame.of_below_all ⟨rfl, rfl, rfl, Nat.le_refl _, fun _ _ => rfl⟩⟩
 case round =>
  obtain ⟨k, hk, rfl, rfl, HR, HF⟩ := hrel
  by_cases hlt : k < n + 8
  ·have hltI : (k : Int) < n + 8 := by omega
   have fin : ∀ wx, Hid (RowV wx cb 36 (overC l k)) → Hid (Frame (fun j => j = cb) w wx) → Hid (RowV wx cb 36 (overC l k)) := fun _ h _ => h
   by_cases hkn : k < n
   ·have hknI : (k : Int) < n := by omega
    go_wp2
    go_quiet (fail)
    go_wp2_with fail
    refine (sign78 _).mono ?_
    rintro e w2 ⟨rfl, hb2⟩
    have HR2 : Hid (RowV w2 cb 36 (overC l k)) := RowV.past hb2 (by exact HR.out)
    have HF2 : Hid (Frame (fun j => j = cb) w w2) := Frame.inside HF.out (Frame.of_below_all (S := fun j => j = cb) (w := wr) ⟨hb2.os, hb2.tape, hb2.output, hb2.size, hb2.block⟩) (fun x _ h => h)
    clear hb2
    go_wp2_with (refine wp_storeDm (by rfl) (.tmp 44) (.tmp 43) (by rfl) cb (k * 8) (by first | rfl | (show Value.pointer _ = Value.pointer _; simp)) s78 rfl (by rfl) HR2.out (by rw [overC_length l HLD.out k (by rw [HN.out]; omega), HN.out]; omega) ?_; intro w3 hR3 hf3 hz3)
    have HR3 : Hid (RowV w3 cb 36 (overC l (k + 1))) := by
     rw [← overC_set l HLD.out k (by rw [HN.out]; omega)]
     exact hR3
    have HF3 : Hid (Frame (fun j => j = cb) w w3) := Frame.inside HF2.out hf3 (fun x _ h => h)
    refine ⟨⟨k + 1, by omega, by go_num, by simp, HR3, HF3⟩, by simp [intOf]; omega⟩
   ·have hknI : ¬ (k : Int) < n := by omega
    have c0 : wr.cell? ⟨cb, k * 8, none⟩ = some (.int .u8 179) := (RowV.cell? HR.out (k * 8)).trans (overC_at l HLD.out k 0 (by rw [HN.out]; omega) (by rw [HN.out]; omega) (by omega))
    have c1 : wr.cell? ⟨cb, k * 8 + 1, none⟩ = some (.int .u8 255) := (RowV.cell? HR.out (k * 8 + 1)).trans (overC_at l HLD.out k 1 (by rw [HN.out]; omega) (by rw [HN.out]; omega) (by omega))
    have c2 : wr.cell? ⟨cb, k * 8 + 2, none⟩ = some (.int .u8 255) := (RowV.cell? HR.out (k * 8 + 2)).trans (overC_at l HLD.out k 2 (by rw [HN.out]; omega) (by rw [HN.out]; omega) (by omega))
    have c3 : wr.cell? ⟨cb, k * 8 + 3, none⟩ = some (.int .u8 77) := (RowV.cell? HR.out (k * 8 + 3)).trans (overC_at l HLD.out k 3 (by rw [HN.out]; omega) (by rw [HN.out]; omega) (by omega))
    have c4 : wr.cell? ⟨cb, k * 8 + 4, none⟩ = some (.int .u8 0) := (RowV.cell? HR.out (k * 8 + 4)).trans (overC_at l HLD.out k 4 (by rw [HN.out]; omega) (by rw [HN.out]; omega) (by omega))
    have c5 : wr.cell? ⟨cb, k * 8 + 5, none⟩ = some (.int .u8 0) := (RowV.cell? HR.out (k * 8 + 5)).trans (overC_at l HLD.out k 5 (by rw [HN.out]; omega) (by rw [HN.out]; omega) (by omega))
    have c6 : wr.cell? ⟨cb, k * 8 + 6, none⟩ = some (.int .u8 0) := (RowV.cell? HR.out (k * 8 + 6)).trans (overC_at l HLD.out k 6 (by rw [HN.out]; omega) (by rw [HN.out]; omega) (by omega))
    have c7 : wr.cell? ⟨cb, k * 8 + 7, none⟩ = some (.int .u8 0) := (RowV.cell? HR.out (k * 8 + 7)).trans (overC_at l HLD.out k 7 (by rw [HN.out]; omega) (by rw [HN.out]; omega) (by omega))
    go_wp2
    go_region_held3 (fun W => W.cell? ⟨cb, k * 8, none⟩ = some (.int .u8 179) ∧ W.cell? ⟨cb, k * 8 + 1, none⟩ = some (.int .u8 255) ∧ W.cell? ⟨cb, k * 8 + 2, none⟩ = some (.int .u8 255) ∧ W.cell? ⟨cb, k * 8 + 3, none⟩ = some (.int .u8 77) ∧ W.cell? ⟨cb, k * 8 + 4, none⟩ = some (.int .u8 0) ∧ W.cell? ⟨cb, k * 8 + 5, none⟩ = some (.int .u8 0) ∧ W.cell? ⟨cb, k * 8 + 6, none⟩ = some (.int .u8 0) ∧ W.cell? ⟨cb, k * 8 + 7, none⟩ = some (.int .u8 0)) (go_keep)
     ((go_at_call 101; refine (sign77 _).mono ?_; rintro e w2 ⟨rfl, hb2⟩; rw [HV7.out]; have hR2 : RowV w2 cb 36 (overC l k) := RowV.past hb2 (by exact HR.out); have HF2 : Hid (Frame (fun j => j = cb) w w2) := Frame.inside HF.out (Frame.of_below_all (S := fun j => j = cb) (w := wr) ⟨hb2.os, hb2.tape, hb2.output, hb2.size, hb2.block⟩) (fun x _ h => h); have q0 : w2.cell? ⟨cb, k * 8, none⟩ = some (.int .u8 179) := (RowV.cell? hR2 (k * 8)).trans (overC_at l HLD.out k 0 (by rw [HN.out]; omega) (by rw [HN.out]; omega) (by omega)); have q1 : w2.cell? ⟨cb, k * 8 + 1, none⟩ = some (.int .u8 255) := (RowV.cell? hR2 (k * 8 + 1)).trans (overC_at l HLD.out k 1 (by rw [HN.out]; omega) (by rw [HN.out]; omega) (by omega)); have q2 : w2.cell? ⟨cb, k * 8 + 2, none⟩ = some (.int .u8 255) := (RowV.cell? hR2 (k * 8 + 2)).trans (overC_at l HLD.out k 2 (by rw [HN.out]; omega) (by rw [HN.out]; omega) (by omega)); have q3 : w2.cell? ⟨cb, k * 8 + 3, none⟩ = some (.int .u8 77) := (RowV.cell? hR2 (k * 8 + 3)).trans (overC_at l HLD.out k 3 (by rw [HN.out]; omega) (by rw [HN.out]; omega) (by omega)); have q4 : w2.cell? ⟨cb, k * 8 + 4, none⟩ = some (.int .u8 0) := (RowV.cell? hR2 (k * 8 + 4)).trans (overC_at l HLD.out k 4 (by rw [HN.out]; omega) (by rw [HN.out]; omega) (by omega)); have q5 : w2.cell? ⟨cb, k * 8 + 5, none⟩ = some (.int .u8 0) := (RowV.cell? hR2 (k * 8 + 5)).trans (overC_at l HLD.out k 5 (by rw [HN.out]; omega) (by rw [HN.out]; omega) (by omega)); have q6 : w2.cell? ⟨cb, k * 8 + 6, none⟩ = some (.int .u8 0) := (RowV.cell? hR2 (k * 8 + 6)).trans (overC_at l HLD.out k 6 (by rw [HN.out]; omega) (by rw [HN.out]; omega) (by omega)); have q7 : w2.cell? ⟨cb, k * 8 + 7, none⟩ = some (.int .u8 0) := (RowV.cell? hR2 (k * 8 + 7)).trans (overC_at l HLD.out k 7 (by rw [HN.out]; omega) (by rw [HN.out]; omega) (by omega))))
    all_goals
     have HR2 : Hid (RowV w2 cb 36 (overC l k)) := hR2
     clear hR2 hb2
     go_wp2_with fail
     refine (sign78 _).mono ?_
     rintro e w4 ⟨rfl, hb4⟩
     have HR4 : Hid (RowV w4 cb 36 (overC l k)) := RowV.past hb4 (by exact HR2.out)
     have HF4 : Hid (Frame (fun j => j = cb) w w4) := Frame.inside HF2.out (Frame.of_below_all (S := fun j => j = cb) (w := w2) ⟨hb4.os, hb4.tape, hb4.output, hb4.size, hb4.block⟩) (fun x _ h => h)
     clear hb4
     go_wp2_with (refine wp_storeDm (by rfl) (.tmp 44) (.tmp 43) (by rfl) cb (k * 8) (by first | rfl | (show Value.pointer _ = Value.pointer _; simp)) s78 rfl (by rfl) HR4.out (by rw [overC_length l HLD.out k (by rw [HN.out]; omega), HN.out]; omega) ?_; intro w3 hR3 hf3 hz3)
     have HR3 : Hid (RowV w3 cb 36 (overC l (k + 1))) := by
      rw [← overC_set l HLD.out k (by rw [HN.out]; omega)]
      exact hR3
     have HF3 : Hid (Frame (fun j => j = cb) w w3) := Frame.inside HF4.out hf3 (fun x _ h => h)
     refine ⟨⟨k + 1, by omega, by go_num, by simp, HR3, HF3⟩, by simp [intOf]; omega⟩
  ·have hltI : ¬ (k : Int) < n + 8 := by omega
   go_wp2
   go_ret
   exact ⟨rfl, HF.out⟩
end Go.Proofs.YtekegfbjbainhaaGreat


namespace Go.Proofs.YtekegfbjbainhaaGreat
open Go.RowKit
attribute [local go_sem ↓] Go.wp_at_zero Go.wp_at_succ
set_option maxRecDepth 100000 in
set_option maxHeartbeats 1600000 in
theorem in_any (n e : Int) (sum root : List UInt8) (l : List (List UInt8)) (a : Option Addr) (cap : Nat) (w : World) (hs : sum.length = 8) (hr : root.length = 8) (hn : n ≤ 9223372036854775807) (hp : SlD w a l) (hl : l.length ≤ 17592186044416) (hlc : l.length ≤ cap) (hc : cap ≤ 9223372036854775807) (ha : (a = none ∧ l = [] ∧ cap = 0) ∨ ∃ ad, a = some ad) :
  Calls Tryz.prog 38 #[headV n sum, .int .i64 e, dV root, .slice a l.length cap] w fun v w' => v = .returned (.bool true) ∧ Below w.heap.size w w' := by
 have hB0 : Below w.heap.size w ((w.alloc (.cells ((Value.int .i64 n :: sum.map u8c).toArray) 98)).alloc (.cells (root.map u8c).toArray 36)) := ((Below.refl _ _).alloc (Nat.le_refl _) _).alloc (by simp) _
 have hA0 : RowV ((w.alloc (.cells ((Value.int .i64 n :: sum.map u8c).toArray) 98)).alloc (.cells (root.map u8c).toArray 36)) w.heap.size 98 (Value.int .i64 n :: sum.map u8c) := (RowV.new w _ _).alloc _
 have hX0 : RowV ((w.alloc (.cells ((Value.int .i64 n :: sum.map u8c).toArray) 98)).alloc (.cells (root.map u8c).toArray 36)) (w.heap.size + 1) 36 (root.map u8c) := RowV.new_at _ _ _ _ (by simp)
 have HV : Hid (∀ (W : World) (a' : Option Addr) (cap' : Nat), SlD W a' l → l.length ≤ cap' → cap' ≤ 9223372036854775807 → Calls Tryz.prog 73 #[headV n sum, .int .i64 e, dV root, .slice a' l.length cap'] W fun v w' => v = .returned (.bool (inclF n e sum root l.reverse)) ∧ Below W.heap.size W w') := fun W a' cap' h1 h2 h3 => by
  have h := inclP_any n e sum root l.reverse a' cap' W hs hr hn (by rw [List.reverse_reverse]; exact h1) (by rw [List.length_reverse]; exact h2) h3
  rw [List.length_reverse] at h
  exact h
 have HR : Hid (∀ (W : World) (a' : Option Addr) (cap' : Nat), SlD W a' l → l.length ≤ cap' → cap' ≤ 9223372036854775807 → Calls Tryz.prog 75 #[headV n sum, .int .i64 e, dV root, .slice a' l.length cap'] W fun v w' => v = .returned (.bool (inclF n e sum root l.reverse)) ∧ Below W.heap.size W w') := fun W a' cap' h1 h2 h3 => by
  have h := checkIncl_any n e sum root l.reverse a' cap' W hs hr hn (by rw [List.reverse_reverse]; exact h1) (by rw [List.length_reverse]; exact h2) h3
  rw [List.length_reverse] at h
  exact h
 generalize inclF n e sum root l.reverse = q at *
 rw [show headV n sum = .agg (Value.int .i64 n :: sum.map u8c).toArray from rfl, show dV root = .agg (root.map u8c).toArray from rfl]
 have hz0 : ((w.alloc (.cells ((Value.int .i64 n :: sum.map u8c).toArray) 98)).alloc (.cells (root.map u8c).toArray 36)).heap.size = w.heap.size + 1 + 1 := by simp
 rcases ha with ⟨rfl, rfl, rfl⟩ | ⟨ad, rfl⟩
 ·go_enter Tryz.func38, Tryz.ntmps38
  go_wp2_with fail
  refine (lentPath_nil _).mono ?_
  rintro v w1 ⟨rfl, rfl⟩
  go_wp2_with (first | (refine wpList_load_mid (by rfl) 98 (.tmp 4) (by rfl) w.heap.size 0 (by rfl) (Value.int .i64 n :: sum.map u8c) _ (by exact hA0.range) Tryz.underlying98 (by rfl) (by simpa [hs] using Tryz.sizeHead) ?_) | (refine wpList_load_mid (by rfl) 36 (.tmp 6) (by rfl) (w.heap.size + 1) 0 (by rfl) (root.map u8c) _ (by exact hX0.range) Tryz.underlying36 (by rfl) (by simpa [hr] using Tryz.infoDig) ?_))
  refine (HV.out _ none 0 (hp.below hB0) (Nat.le_refl _) (by omega)).mono ?_
  rintro v w2 ⟨rfl, hb2⟩
  have hB2 : Below w.heap.size w w2 := hB0.trans (hb2.mono hB0.size)
  have hA2 := RowV.past hb2 hA0
  have hX2 := RowV.past hb2 hX0
  clear hb2
  go_wp2_with fail
  refine (backPath_nil _).mono ?_
  rintro v w3 ⟨rfl, rfl⟩
  go_wp2_with (first | (refine wpList_load_mid (by rfl) 98 (.tmp 4) (by rfl) w.heap.size 0 (by rfl) (Value.int .i64 n :: sum.map u8c) _ (by exact hA2.range) Tryz.underlying98 (by rfl) (by simpa [hs] using Tryz.sizeHead) ?_) | (refine wpList_load_mid (by rfl) 36 (.tmp 6) (by rfl) (w.heap.size + 1) 0 (by rfl) (root.map u8c) _ (by exact hX2.range) Tryz.underlying36 (by rfl) (by simpa [hr] using Tryz.infoDig) ?_))
  refine (HR.out _ none 0 (hp.below hB2) (Nat.le_refl _) (by omega)).mono ?_
  rintro v w4 ⟨rfl, hb4⟩
  go_wp2
  go_ret
  exact ⟨by cases q <;> rfl, hB2.trans (hb4.mono hB2.size)⟩
 ·go_enter Tryz.func38, Tryz.ntmps38
  go_wp2_with fail
  refine (lentPath_some l ad cap _ (hp.below hB0) hl).mono ?_
  rintro v w1 ⟨rfl, hr1, hb1⟩
  have hB1 : Below w.heap.size w w1 := hB0.trans (hb1.mono hB0.size)
  have hA1 := RowV.past hb1 hA0
  have hX1 := RowV.past hb1 hX0
  have hC1 : SlD w1 (some ⟨((w.alloc (.cells ((Value.int .i64 n :: sum.map u8c).toArray) 98)).alloc (.cells (root.map u8c).toArray 36)).heap.size, 0, none⟩) l := ⟨fun i hi => ⟨_, 0, rfl, hr1.lt, by
   rw [Nat.zero_add, RowV.cell? hr1 i]
   unfold lentC
   rw [List.getElem?_append_left hi, List.getElem?_eq_getElem hi]⟩, hp.2⟩
  have hbl := hr1.lt
  clear hb1
  rw [hz0] at hr1 hC1 hbl
  go_wp2_with (first | (refine wpList_load_mid (by rfl) 98 (.tmp 4) (by rfl) w.heap.size 0 (by rfl) (Value.int .i64 n :: sum.map u8c) _ (by exact hA1.range) Tryz.underlying98 (by rfl) (by simpa [hs] using Tryz.sizeHead) ?_) | (refine wpList_load_mid (by rfl) 36 (.tmp 6) (by rfl) (w.heap.size + 1) 0 (by rfl) (root.map u8c) _ (by exact hX1.range) Tryz.underlying36 (by rfl) (by simpa [hr] using Tryz.infoDig) ?_))
  refine (HV.out _ _ (l.length + 8) (by exact hC1) (by omega) (by omega)).mono ?_
  rintro v w2 ⟨rfl, hb2⟩
  have hB2 : Below w.heap.size w w2 := hB1.trans (hb2.mono hB1.size)
  have hA2 := RowV.past hb2 hA1
  have hX2 := RowV.past hb2 hX1
  have hr2 := RowV.past hb2 hr1
  clear hb2 hC1
  go_wp2_with fail
  refine (backPath_some l ad _ cap _ (hp.below hB2) hl (by exact hr2)).mono ?_
  rintro v w3 ⟨rfl, hf3⟩
  have hB3 : Below w.heap.size w w3 := hB2.trans (hf3.below hB2.size (fun k hk => by omega))
  have hA3 : RowV w3 w.heap.size 98 (Value.int .i64 n :: sum.map u8c) := hA2.of_block (hf3.block _ hA2.lt (fun e => by omega))
  have hX3 : RowV w3 (w.heap.size + 1) 36 (root.map u8c) := hX2.of_block (hf3.block _ hX2.lt (fun e => by omega))
  clear hf3
  go_wp2_with (first | (refine wpList_load_mid (by rfl) 98 (.tmp 4) (by rfl) w.heap.size 0 (by rfl) (Value.int .i64 n :: sum.map u8c) _ (by exact hA3.range) Tryz.underlying98 (by rfl) (by simpa [hs] using Tryz.sizeHead) ?_) | (refine wpList_load_mid (by rfl) 36 (.tmp 6) (by rfl) (w.heap.size + 1) 0 (by rfl) (root.map u8c) _ (by exact hX3.range) Tryz.underlying36 (by rfl) (by simpa [hr] using Tryz.infoDig) ?_))
  refine (HR.out _ _ cap (hp.below hB3) hlc hc).mono ?_
  rintro v w4 ⟨rfl, hb4⟩
  go_wp2
  go_ret
  exact ⟨by cases q <;> rfl, hB3.trans (hb4.mono hB3.size)⟩
end Go.Proofs.YtekegfbjbainhaaGreat


namespace Go.Proofs.YtekegfbjbainhaaGreat
open Go.RowKit
attribute [local go_sem ↓] Go.wp_at_zero Go.wp_at_succ
def bothB (o : Option (List UInt8 × List UInt8)) (osum sum : List UInt8) : Bool := match o with
 | none => false
 | some q => q.1 == osum && q.2 == sum
def extF (m n : Int) (osum sum : List UInt8) (r : List (List UInt8)) : Bool := if m < 0 ∨ n < m then false else if m = 0 then r.length == 0 && osum == digB [] else bothB (bothF m.toNat n.toNat true osum r) osum sum
set_option maxRecDepth 100000 in
set_option maxHeartbeats 1600000 in
theorem checkExt_no (m n : Int) (osum sum : List UInt8) (a : Option Addr) (l cap : Nat) (w : World) (ho : osum.length = 8) (hs : sum.length = 8) (h : m < 0 ∨ n < m) :
  Calls Tryz.prog 77 #[headV m osum, headV n sum, .slice a l cap] w fun v w' => v = .returned (.bool false) ∧ Below w.heap.size w w' := by
 obtain ⟨s0, s1, s2, s3, s4, s5, s6, s7, rfl⟩ := list8 osum ho
 obtain ⟨t0, t1, t2, t3, t4, t5, t6, t7, rfl⟩ := list8 sum hs
 unfold headV u8c
 simp only [List.map_cons, List.map_nil]
 by_cases h0 : m < 0
 ·go_enter Tryz.func77, Tryz.ntmps77
  go_wp2
  go_ret
  exact ⟨rfl, ((Below.refl _ _).alloc (Nat.le_refl _) _).alloc (by simp) _⟩
 ·have h1 : n < m := by omega
  have h2 : ¬ m < 0 := h0
  go_enter Tryz.func77, Tryz.ntmps77
  go_wp2
  go_ret
  exact ⟨rfl, ((Below.refl _ _).alloc (Nat.le_refl _) _).alloc (by simp) _⟩
set_option maxRecDepth 100000 in
set_option maxHeartbeats 1600000 in
theorem checkExt_zero (n : Int) (osum sum : List UInt8) (a : Option Addr) (l cap : Nat) (w : World) (ho : osum.length = 8) (hs : sum.length = 8) (h : 0 ≤ n) (hl : l ≤ 9223372036854775807) :
  Calls Tryz.prog 77 #[headV 0 osum, headV n sum, .slice a l cap] w fun v w' => v = .returned (.bool (l == 0 && osum == digB [])) ∧ Below w.heap.size w w' := by
 obtain ⟨s0, s1, s2, s3, s4, s5, s6, s7, rfl⟩ := list8 osum ho
 obtain ⟨t0, t1, t2, t3, t4, t5, t6, t7, rfl⟩ := list8 sum hs
 have hn : ¬ n < 0 := by omega
 have HB : Hid (Below w.heap.size w ((w.alloc (.cells ((Value.int .i64 0 :: [s0, s1, s2, s3, s4, s5, s6, s7].map u8c).toArray) 98)).alloc (.cells ((Value.int .i64 n :: [t0, t1, t2, t3, t4, t5, t6, t7].map u8c).toArray) 98))) := ((Below.refl _ _).alloc (Nat.le_refl _) _).alloc (by simp) _
 by_cases h0 : l = 0
 ·subst h0
  obtain ⟨y0, y1, y2, y3, y4, y5, y6, y7, hy⟩ := list8 (digB []) (digB_length _)
  have HD : Hid (∀ W, Calls Tryz.prog 10 #[.slice none 0 0] W fun e w' => e = .returned (dV [y0, y1, y2, y3, y4, y5, y6, y7]) ∧ Below W.heap.size W w') := fun W => by
   have h := refDigest_any none 0 0 [] W rfl (by simp) (SlB.nil _ _)
   rw [show dV [y0, y1, y2, y3, y4, y5, y6, y7] = dV (digB []) by rw [hy]]
   exact h
  rw [hy]
  have heq := eqD_run s0 s1 s2 s3 s4 s5 s6 s7 y0 y1 y2 y3 y4 y5 y6 y7
  have HE : Hid ((((0 : Nat) == 0) && ([s0, s1, s2, s3, s4, s5, s6, s7] == [y0, y1, y2, y3, y4, y5, y6, y7])) = ([s0, s1, s2, s3, s4, s5, s6, s7] == [y0, y1, y2, y3, y4, y5, y6, y7])) := rfl
  rw [HE.out]
  clear HE hy
  generalize ([s0, s1, s2, s3, s4, s5, s6, s7] == [y0, y1, y2, y3, y4, y5, y6, y7]) = eqv at *
  have HS := (RowV.new w 98 (Value.int .i64 0 :: [s0, s1, s2, s3, s4, s5, s6, s7].map u8c)).alloc (.cells ((Value.int .i64 n :: [t0, t1, t2, t3, t4, t5, t6, t7].map u8c).toArray) 98)
  unfold headV u8c at *
  unfold dV u8c at HD
  simp only [List.map_cons, List.map_nil] at *
  have c0 : ((w.alloc (.cells #[Value.int .i64 0, Value.int .u8 (s0.toNat : Int), Value.int .u8 (s1.toNat : Int), Value.int .u8 (s2.toNat : Int), Value.int .u8 (s3.toNat : Int), Value.int .u8 (s4.toNat : Int), Value.int .u8 (s5.toNat : Int), Value.int .u8 (s6.toNat : Int), Value.int .u8 (s7.toNat : Int)] 98)).alloc (.cells #[Value.int .i64 n, Value.int .u8 (t0.toNat : Int), Value.int .u8 (t1.toNat : Int), Value.int .u8 (t2.toNat : Int), Value.int .u8 (t3.toNat : Int), Value.int .u8 (t4.toNat : Int), Value.int .u8 (t5.toNat : Int), Value.int .u8 (t6.toNat : Int), Value.int .u8 (t7.toNat : Int)] 98)).cell? ⟨w.heap.size, 1, none⟩ = some (.int .u8 (s0.toNat : Int)) := RowV.cell? HS 1
  have c1 : ((w.alloc (.cells #[Value.int .i64 0, Value.int .u8 (s0.toNat : Int), Value.int .u8 (s1.toNat : Int), Value.int .u8 (s2.toNat : Int), Value.int .u8 (s3.toNat : Int), Value.int .u8 (s4.toNat : Int), Value.int .u8 (s5.toNat : Int), Value.int .u8 (s6.toNat : Int), Value.int .u8 (s7.toNat : Int)] 98)).alloc (.cells #[Value.int .i64 n, Value.int .u8 (t0.toNat : Int), Value.int .u8 (t1.toNat : Int), Value.int .u8 (t2.toNat : Int), Value.int .u8 (t3.toNat : Int), Value.int .u8 (t4.toNat : Int), Value.int .u8 (t5.toNat : Int), Value.int .u8 (t6.toNat : Int), Value.int .u8 (t7.toNat : Int)] 98)).cell? ⟨w.heap.size, 2, none⟩ = some (.int .u8 (s1.toNat : Int)) := RowV.cell? HS 2
  have c2 : ((w.alloc (.cells #[Value.int .i64 0, Value.int .u8 (s0.toNat : Int), Value.int .u8 (s1.toNat : Int), Value.int .u8 (s2.toNat : Int), Value.int .u8 (s3.toNat : Int), Value.int .u8 (s4.toNat : Int), Value.int .u8 (s5.toNat : Int), Value.int .u8 (s6.toNat : Int), Value.int .u8 (s7.toNat : Int)] 98)).alloc (.cells #[Value.int .i64 n, Value.int .u8 (t0.toNat : Int), Value.int .u8 (t1.toNat : Int), Value.int .u8 (t2.toNat : Int), Value.int .u8 (t3.toNat : Int), Value.int .u8 (t4.toNat : Int), Value.int .u8 (t5.toNat : Int), Value.int .u8 (t6.toNat : Int), Value.int .u8 (t7.toNat : Int)] 98)).cell? ⟨w.heap.size, 3, none⟩ = some (.int .u8 (s2.toNat : Int)) := RowV.cell? HS 3
  have c3 : ((w.alloc (.cells #[Value.int .i64 0, Value.int .u8 (s0.toNat : Int), Value.int .u8 (s1.toNat : Int), Value.int .u8 (s2.toNat : Int), Value.int .u8 (s3.toNat : Int), Value.int .u8 (s4.toNat : Int), Value.int .u8 (s5.toNat : Int), Value.int .u8 (s6.toNat : Int), Value.int .u8 (s7.toNat : Int)] 98)).alloc (.cells #[Value.int .i64 n, Value.int .u8 (t0.toNat : Int), Value.int .u8 (t1.toNat : Int), Value.int .u8 (t2.toNat : Int), Value.int .u8 (t3.toNat : Int), Value.int .u8 (t4.toNat : Int), Value.int .u8 (t5.toNat : Int), Value.int .u8 (t6.toNat : Int), Value.int .u8 (t7.toNat : Int)] 98)).cell? ⟨w.heap.size, 4, none⟩ = some (.int .u8 (s3.toNat : Int)) := RowV.cell? HS 4
  have c4 : ((w.alloc (.cells #[Value.int .i64 0, Value.int .u8 (s0.toNat : Int), Value.int .u8 (s1.toNat : Int), Value.int .u8 (s2.toNat : Int), Value.int .u8 (s3.toNat : Int), Value.int .u8 (s4.toNat : Int), Value.int .u8 (s5.toNat : Int), Value.int .u8 (s6.toNat : Int), Value.int .u8 (s7.toNat : Int)] 98)).alloc (.cells #[Value.int .i64 n, Value.int .u8 (t0.toNat : Int), Value.int .u8 (t1.toNat : Int), Value.int .u8 (t2.toNat : Int), Value.int .u8 (t3.toNat : Int), Value.int .u8 (t4.toNat : Int), Value.int .u8 (t5.toNat : Int), Value.int .u8 (t6.toNat : Int), Value.int .u8 (t7.toNat : Int)] 98)).cell? ⟨w.heap.size, 5, none⟩ = some (.int .u8 (s4.toNat : Int)) := RowV.cell? HS 5
  have c5 : ((w.alloc (.cells #[Value.int .i64 0, Value.int .u8 (s0.toNat : Int), Value.int .u8 (s1.toNat : Int), Value.int .u8 (s2.toNat : Int), Value.int .u8 (s3.toNat : Int), Value.int .u8 (s4.toNat : Int), Value.int .u8 (s5.toNat : Int), Value.int .u8 (s6.toNat : Int), Value.int .u8 (s7.toNat : Int)] 98)).alloc (.cells #[Value.int .i64 n, Value.int .u8 (t0.toNat : Int), Value.int .u8 (t1.toNat : Int), Value.int .u8 (t2.toNat : Int), Value.int .u8 (t3.toNat : Int), Value.int .u8 (t4.toNat : Int), Value.int .u8 (t5.toNat : Int), Value.int .u8 (t6.toNat : Int), Value.int .u8 (t7.toNat : Int)] 98)).cell? ⟨w.heap.size, 6, none⟩ = some (.int .u8 (s5.toNat : Int)) := RowV.cell? HS 6
  have c6 : ((w.alloc (.cells #[Value.int .i64 0, Value.int .u8 (s0.toNat : Int), Value.int .u8 (s1.toNat : Int), Value.int .u8 (s2.toNat : Int), Value.int .u8 (s3.toNat : Int), Value.int .u8 (s4.toNat : Int), Value.int .u8 (s5.toNat : Int), Value.int .u8 (s6.toNat : Int), Value.int .u8 (s7.toNat : Int)] 98)).alloc (.cells #[Value.int .i64 n, Value.int .u8 (t0.toNat : Int), Value.int .u8 (t1.toNat : Int), Value.int .u8 (t2.toNat : Int), Value.int .u8 (t3.toNat : Int), Value.int .u8 (t4.toNat : Int), Value.int .u8 (t5.toNat : Int), Value.int .u8 (t6.toNat : Int), Value.int .u8 (t7.toNat : Int)] 98)).cell? ⟨w.heap.size, 7, none⟩ = some (.int .u8 (s6.toNat : Int)) := RowV.cell? HS 7
  have c7 : ((w.alloc (.cells #[Value.int .i64 0, Value.int .u8 (s0.toNat : Int), Value.int .u8 (s1.toNat : Int), Value.int .u8 (s2.toNat : Int), Value.int .u8 (s3.toNat : Int), Value.int .u8 (s4.toNat : Int), Value.int .u8 (s5.toNat : Int), Value.int .u8 (s6.toNat : Int), Value.int .u8 (s7.toNat : Int)] 98)).alloc (.cells #[Value.int .i64 n, Value.int .u8 (t0.toNat : Int), Value.int .u8 (t1.toNat : Int), Value.int .u8 (t2.toNat : Int), Value.int .u8 (t3.toNat : Int), Value.int .u8 (t4.toNat : Int), Value.int .u8 (t5.toNat : Int), Value.int .u8 (t6.toNat : Int), Value.int .u8 (t7.toNat : Int)] 98)).cell? ⟨w.heap.size, 8, none⟩ = some (.int .u8 (s7.toNat : Int)) := RowV.cell? HS 8
  have HSH : Hid (RowV ((w.alloc (.cells #[Value.int .i64 0, Value.int .u8 (s0.toNat : Int), Value.int .u8 (s1.toNat : Int), Value.int .u8 (s2.toNat : Int), Value.int .u8 (s3.toNat : Int), Value.int .u8 (s4.toNat : Int), Value.int .u8 (s5.toNat : Int), Value.int .u8 (s6.toNat : Int), Value.int .u8 (s7.toNat : Int)] 98)).alloc (.cells #[Value.int .i64 n, Value.int .u8 (t0.toNat : Int), Value.int .u8 (t1.toNat : Int), Value.int .u8 (t2.toNat : Int), Value.int .u8 (t3.toNat : Int), Value.int .u8 (t4.toNat : Int), Value.int .u8 (t5.toNat : Int), Value.int .u8 (t6.toNat : Int), Value.int .u8 (t7.toNat : Int)] 98)) w.heap.size 98 _) := HS
  clear HS
  go_enter Tryz.func77, Tryz.ntmps77
  go_wp2
  go_region_held3 (fun W' => W'.cell? ⟨w.heap.size, 1, none⟩ = some (.int .u8 (s0.toNat : Int)) ∧ W'.cell? ⟨w.heap.size, 2, none⟩ = some (.int .u8 (s1.toNat : Int)) ∧ W'.cell? ⟨w.heap.size, 3, none⟩ = some (.int .u8 (s2.toNat : Int)) ∧ W'.cell? ⟨w.heap.size, 4, none⟩ = some (.int .u8 (s3.toNat : Int)) ∧ W'.cell? ⟨w.heap.size, 5, none⟩ = some (.int .u8 (s4.toNat : Int)) ∧ W'.cell? ⟨w.heap.size, 6, none⟩ = some (.int .u8 (s5.toNat : Int)) ∧ W'.cell? ⟨w.heap.size, 7, none⟩ = some (.int .u8 (s6.toNat : Int)) ∧ W'.cell? ⟨w.heap.size, 8, none⟩ = some (.int .u8 (s7.toNat : Int))) (go_keep)
   ((go_at_call 10; refine (HD.out _).mono ?_; rintro e w3 ⟨rfl, hb3⟩; have HB3 : Hid (Below w.heap.size w w3) := HB.out.trans (by have hq := hb3.mono HB.out.size; exact ⟨hq.os, hq.tape, hq.output, hq.size, hq.block⟩); have H3 := RowV.past hb3 (by exact HSH.out); have d0 : w3.cell? ⟨w.heap.size, 1, none⟩ = some (.int .u8 (s0.toNat : Int)) := RowV.cell? H3 1; have d1 : w3.cell? ⟨w.heap.size, 2, none⟩ = some (.int .u8 (s1.toNat : Int)) := RowV.cell? H3 2; have d2 : w3.cell? ⟨w.heap.size, 3, none⟩ = some (.int .u8 (s2.toNat : Int)) := RowV.cell? H3 3; have d3 : w3.cell? ⟨w.heap.size, 4, none⟩ = some (.int .u8 (s3.toNat : Int)) := RowV.cell? H3 4; have d4 : w3.cell? ⟨w.heap.size, 5, none⟩ = some (.int .u8 (s4.toNat : Int)) := RowV.cell? H3 5; have d5 : w3.cell? ⟨w.heap.size, 6, none⟩ = some (.int .u8 (s5.toNat : Int)) := RowV.cell? H3 6; have d6 : w3.cell? ⟨w.heap.size, 7, none⟩ = some (.int .u8 (s6.toNat : Int)) := RowV.cell? H3 7; have d7 : w3.cell? ⟨w.heap.size, 8, none⟩ = some (.int .u8 (s7.toNat : Int)) := RowV.cell? H3 8))
  all_goals
   go_wp2
   go_ret
   exact ⟨rfl, HB3.out⟩
 ·have hlI : ((l : Int) == 0) = false := by rw [Bool.eq_false_iff]; simp only [ne_eq, beq_iff_eq]; omega
  have hlN : (l == 0) = false := by rw [Bool.eq_false_iff]; simp only [ne_eq, beq_iff_eq]; omega
  have hlJ : (l : Int) ≤ 9223372036854775807 := by omega
  rw [hlN, Bool.false_and]
  clear hlN
  unfold headV u8c at *
  simp only [List.map_cons, List.map_nil] at *
  go_enter Tryz.func77, Tryz.ntmps77
  go_wp2
  go_quiet (fail)
  go_wp2
  go_ret
  exact ⟨rfl, by have hb := HB.out; exact ⟨hb.os, hb.tape, hb.output, hb.size, hb.block⟩⟩
set_option maxRecDepth 100000 in
set_option maxHeartbeats 1600000 in
theorem checkExt_yes (n m : Nat) (osum sum : List UInt8) (r : List (List UInt8)) (a : Option Addr) (cap : Nat) (w : World) (ho : osum.length = 8) (hs : sum.length = 8) (hn : n ≤ 9223372036854775807) (hm : 1 ≤ m) (hmn : m ≤ n) (hp : SlD w a r.reverse) (hl : r.length ≤ cap) (hc : cap ≤ 9223372036854775807) :
  Calls Tryz.prog 77 #[headV m osum, headV n sum, .slice a r.length cap] w fun v w' => v = .returned (.bool (bothB (bothF m n true osum r) osum sum)) ∧ Below w.heap.size w w' := by
 obtain ⟨s0, s1, s2, s3, s4, s5, s6, s7, rfl⟩ := list8 osum ho
 obtain ⟨t0, t1, t2, t3, t4, t5, t6, t7, rfl⟩ := list8 sum hs
 have hA : Below w.heap.size w ((w.alloc (.cells ((Value.int .i64 (m : Int) :: [s0, s1, s2, s3, s4, s5, s6, s7].map u8c).toArray) 98)).alloc (.cells ((Value.int .i64 (n : Int) :: [t0, t1, t2, t3, t4, t5, t6, t7].map u8c).toArray) 98)) := ((Below.refl _ _).alloc (Nat.le_refl _) _).alloc (by simp) _
 have HS : RowV ((w.alloc (.cells ((Value.int .i64 (m : Int) :: [s0, s1, s2, s3, s4, s5, s6, s7].map u8c).toArray) 98)).alloc (.cells ((Value.int .i64 (n : Int) :: [t0, t1, t2, t3, t4, t5, t6, t7].map u8c).toArray) 98)) w.heap.size 98 (Value.int .i64 (m : Int) :: [s0, s1, s2, s3, s4, s5, s6, s7].map u8c) := (RowV.new w _ _).alloc _
 have HT : RowV ((w.alloc (.cells ((Value.int .i64 (m : Int) :: [s0, s1, s2, s3, s4, s5, s6, s7].map u8c).toArray) 98)).alloc (.cells ((Value.int .i64 (n : Int) :: [t0, t1, t2, t3, t4, t5, t6, t7].map u8c).toArray) 98)) (w.heap.size + 1) 98 (Value.int .i64 (n : Int) :: [t0, t1, t2, t3, t4, t5, t6, t7].map u8c) := RowV.new_at _ _ _ _ (by simp)
 have HC : Hid (Calls _ _ _ _ _) := both_any r n m true [s0, s1, s2, s3, s4, s5, s6, s7] a cap _ (hp.below hA) hl hc rfl hm hmn hn
 generalize bothF m n true [s0, s1, s2, s3, s4, s5, s6, s7] r = O at *
 have h1 : ¬ (m : Int) < 0 := by omega
 have h2 : ¬ (n : Int) < m := by omega
 have h3 : ((m : Int) == 0) = false := by rw [Bool.eq_false_iff]; simp only [ne_eq, beq_iff_eq]; omega
 unfold headV at *
 unfold dV u8c at *
 simp only [List.map_cons, List.map_nil] at *
 go_enter Tryz.func77, Tryz.ntmps77
 go_wp2_with fail
 refine HC.out.mono ?_
 rintro v w3 ⟨⟨p, q, hp8, hq8, rfl, hO⟩, hb3⟩
 obtain ⟨y0, y1, y2, y3, y4, y5, y6, y7, rfl⟩ := list8 p hp8
 obtain ⟨z0, z1, z2, z3, z4, z5, z6, z7, rfl⟩ := list8 q hq8
 have S3 := ((RowV.past hb3 HS).alloc (.cells #[Value.int .u8 (y0.toNat : Int), Value.int .u8 (y1.toNat : Int), Value.int .u8 (y2.toNat : Int), Value.int .u8 (y3.toNat : Int), Value.int .u8 (y4.toNat : Int), Value.int .u8 (y5.toNat : Int), Value.int .u8 (y6.toNat : Int), Value.int .u8 (y7.toNat : Int)] 36)).alloc (.cells #[Value.int .u8 (z0.toNat : Int), Value.int .u8 (z1.toNat : Int), Value.int .u8 (z2.toNat : Int), Value.int .u8 (z3.toNat : Int), Value.int .u8 (z4.toNat : Int), Value.int .u8 (z5.toNat : Int), Value.int .u8 (z6.toNat : Int), Value.int .u8 (z7.toNat : Int)] 36)
 have T3 := ((RowV.past hb3 HT).alloc (.cells #[Value.int .u8 (y0.toNat : Int), Value.int .u8 (y1.toNat : Int), Value.int .u8 (y2.toNat : Int), Value.int .u8 (y3.toNat : Int), Value.int .u8 (y4.toNat : Int), Value.int .u8 (y5.toNat : Int), Value.int .u8 (y6.toNat : Int), Value.int .u8 (y7.toNat : Int)] 36)).alloc (.cells #[Value.int .u8 (z0.toNat : Int), Value.int .u8 (z1.toNat : Int), Value.int .u8 (z2.toNat : Int), Value.int .u8 (z3.toNat : Int), Value.int .u8 (z4.toNat : Int), Value.int .u8 (z5.toNat : Int), Value.int .u8 (z6.toNat : Int), Value.int .u8 (z7.toNat : Int)] 36)
 have c0 : ((w3.alloc (.cells #[Value.int .u8 (y0.toNat : Int), Value.int .u8 (y1.toNat : Int), Value.int .u8 (y2.toNat : Int), Value.int .u8 (y3.toNat : Int), Value.int .u8 (y4.toNat : Int), Value.int .u8 (y5.toNat : Int), Value.int .u8 (y6.toNat : Int), Value.int .u8 (y7.toNat : Int)] 36)).alloc (.cells #[Value.int .u8 (z0.toNat : Int), Value.int .u8 (z1.toNat : Int), Value.int .u8 (z2.toNat : Int), Value.int .u8 (z3.toNat : Int), Value.int .u8 (z4.toNat : Int), Value.int .u8 (z5.toNat : Int), Value.int .u8 (z6.toNat : Int), Value.int .u8 (z7.toNat : Int)] 36)).cell? ⟨w.heap.size, 1, none⟩ = some (.int .u8 (s0.toNat : Int)) := RowV.cell? S3 1
 have g0 : ((w3.alloc (.cells #[Value.int .u8 (y0.toNat : Int), Value.int .u8 (y1.toNat : Int), Value.int .u8 (y2.toNat : Int), Value.int .u8 (y3.toNat : Int), Value.int .u8 (y4.toNat : Int), Value.int .u8 (y5.toNat : Int), Value.int .u8 (y6.toNat : Int), Value.int .u8 (y7.toNat : Int)] 36)).alloc (.cells #[Value.int .u8 (z0.toNat : Int), Value.int .u8 (z1.toNat : Int), Value.int .u8 (z2.toNat : Int), Value.int .u8 (z3.toNat : Int), Value.int .u8 (z4.toNat : Int), Value.int .u8 (z5.toNat : Int), Value.int .u8 (z6.toNat : Int), Value.int .u8 (z7.toNat : Int)] 36)).cell? ⟨w.heap.size + 1, 1, none⟩ = some (.int .u8 (t0.toNat : Int)) := RowV.cell? T3 1
 have c1 : ((w3.alloc (.cells #[Value.int .u8 (y0.toNat : Int), Value.int .u8 (y1.toNat : Int), Value.int .u8 (y2.toNat : Int), Value.int .u8 (y3.toNat : Int), Value.int .u8 (y4.toNat : Int), Value.int .u8 (y5.toNat : Int), Value.int .u8 (y6.toNat : Int), Value.int .u8 (y7.toNat : Int)] 36)).alloc (.cells #[Value.int .u8 (z0.toNat : Int), Value.int .u8 (z1.toNat : Int), Value.int .u8 (z2.toNat : Int), Value.int .u8 (z3.toNat : Int), Value.int .u8 (z4.toNat : Int), Value.int .u8 (z5.toNat : Int), Value.int .u8 (z6.toNat : Int), Value.int .u8 (z7.toNat : Int)] 36)).cell? ⟨w.heap.size, 2, none⟩ = some (.int .u8 (s1.toNat : Int)) := RowV.cell? S3 2
 have g1 : ((w3.alloc (.cells #[Value.int .u8 (y0.toNat : Int), Value.int .u8 (y1.toNat : Int), Value.int .u8 (y2.toNat : Int), Value.int .u8 (y3.toNat : Int), Value.int .u8 (y4.toNat : Int), Value.int .u8 (y5.toNat : Int), Value.int .u8 (y6.toNat : Int), Value.int .u8 (y7.toNat : Int)] 36)).alloc (.cells #[Value.int .u8 (z0.toNat : Int), Value.int .u8 (z1.toNat : Int), Value.int .u8 (z2.toNat : Int), Value.int .u8 (z3.toNat : Int), Value.int .u8 (z4.toNat : Int), Value.int .u8 (z5.toNat : Int), Value.int .u8 (z6.toNat : Int), Value.int .u8 (z7.toNat : Int)] 36)).cell? ⟨w.heap.size + 1, 2, none⟩ = some (.int .u8 (t1.toNat : Int)) := RowV.cell? T3 2
 have c2 : ((w3.alloc (.cells #[Value.int .u8 (y0.toNat : Int), Value.int .u8 (y1.toNat : Int), Value.int .u8 (y2.toNat : Int), Value.int .u8 (y3.toNat : Int), Value.int .u8 (y4.toNat : Int), Value.int .u8 (y5.toNat : Int), Value.int .u8 (y6.toNat : Int), Value.int .u8 (y7.toNat : Int)] 36)).alloc (.cells #[Value.int .u8 (z0.toNat : Int), Value.int .u8 (z1.toNat : Int), Value.int .u8 (z2.toNat : Int), Value.int .u8 (z3.toNat : Int), Value.int .u8 (z4.toNat : Int), Value.int .u8 (z5.toNat : Int), Value.int .u8 (z6.toNat : Int), Value.int .u8 (z7.toNat : Int)] 36)).cell? ⟨w.heap.size, 3, none⟩ = some (.int .u8 (s2.toNat : Int)) := RowV.cell? S3 3
 have g2 : ((w3.alloc (.cells #[Value.int .u8 (y0.toNat : Int), Value.int .u8 (y1.toNat : Int), Value.int .u8 (y2.toNat : Int), Value.int .u8 (y3.toNat : Int), Value.int .u8 (y4.toNat : Int), Value.int .u8 (y5.toNat : Int), Value.int .u8 (y6.toNat : Int), Value.int .u8 (y7.toNat : Int)] 36)).alloc (.cells #[Value.int .u8 (z0.toNat : Int), Value.int .u8 (z1.toNat : Int), Value.int .u8 (z2.toNat : Int), Value.int .u8 (z3.toNat : Int), Value.int .u8 (z4.toNat : Int), Value.int .u8 (z5.toNat : Int), Value.int .u8 (z6.toNat : Int), Value.int .u8 (z7.toNat : Int)] 36)).cell? ⟨w.heap.size + 1, 3, none⟩ = some (.int .u8 (t2.toNat : Int)) := RowV.cell? T3 3
 have c3 : ((w3.alloc (.cells #[Value.int .u8 (y0.toNat : Int), Value.int .u8 (y1.toNat : Int), Value.int .u8 (y2.toNat : Int), Value.int .u8 (y3.toNat : Int), Value.int .u8 (y4.toNat : Int), Value.int .u8 (y5.toNat : Int), Value.int .u8 (y6.toNat : Int), Value.int .u8 (y7.toNat : Int)] 36)).alloc (.cells #[Value.int .u8 (z0.toNat : Int), Value.int .u8 (z1.toNat : Int), Value.int .u8 (z2.toNat : Int), Value.int .u8 (z3.toNat : Int), Value.int .u8 (z4.toNat : Int), Value.int .u8 (z5.toNat : Int), Value.int .u8 (z6.toNat : Int), Value.int .u8 (z7.toNat : Int)] 36)).cell? ⟨w.heap.size, 4, none⟩ = some (.int .u8 (s3.toNat : Int)) := RowV.cell? S3 4
 have g3 : ((w3.alloc (.cells #[Value.int .u8 (y0.toNat : Int), Value.int .u8 (y1.toNat : Int), Value.int .u8 (y2.toNat : Int), Value.int .u8 (y3.toNat : Int), Value.int .u8 (y4.toNat : Int), Value.int .u8 (y5.toNat : Int), Value.int .u8 (y6.toNat : Int), Value.int .u8 (y7.toNat : Int)] 36)).alloc (.cells #[Value.int .u8 (z0.toNat : Int), Value.int .u8 (z1.toNat : Int), Value.int .u8 (z2.toNat : Int), Value.int .u8 (z3.toNat : Int), Value.int .u8 (z4.toNat : Int), Value.int .u8 (z5.toNat : Int), Value.int .u8 (z6.toNat : Int), Value.int .u8 (z7.toNat : Int)] 36)).cell? ⟨w.heap.size + 1, 4, none⟩ = some (.int .u8 (t3.toNat : Int)) := RowV.cell? T3 4
 have c4 : ((w3.alloc (.cells #[Value.int .u8 (y0.toNat : Int), Value.int .u8 (y1.toNat : Int), Value.int .u8 (y2.toNat : Int), Value.int .u8 (y3.toNat : Int), Value.int .u8 (y4.toNat : Int), Value.int .u8 (y5.toNat : Int), Value.int .u8 (y6.toNat : Int), Value.int .u8 (y7.toNat : Int)] 36)).alloc (.cells #[Value.int .u8 (z0.toNat : Int), Value.int .u8 (z1.toNat : Int), Value.int .u8 (z2.toNat : Int), Value.int .u8 (z3.toNat : Int), Value.int .u8 (z4.toNat : Int), Value.int .u8 (z5.toNat : Int), Value.int .u8 (z6.toNat : Int), Value.int .u8 (z7.toNat : Int)] 36)).cell? ⟨w.heap.size, 5, none⟩ = some (.int .u8 (s4.toNat : Int)) := RowV.cell? S3 5
 have g4 : ((w3.alloc (.cells #[Value.int .u8 (y0.toNat : Int), Value.int .u8 (y1.toNat : Int), Value.int .u8 (y2.toNat : Int), Value.int .u8 (y3.toNat : Int), Value.int .u8 (y4.toNat : Int), Value.int .u8 (y5.toNat : Int), Value.int .u8 (y6.toNat : Int), Value.int .u8 (y7.toNat : Int)] 36)).alloc (.cells #[Value.int .u8 (z0.toNat : Int), Value.int .u8 (z1.toNat : Int), Value.int .u8 (z2.toNat : Int), Value.int .u8 (z3.toNat : Int), Value.int .u8 (z4.toNat : Int), Value.int .u8 (z5.toNat : Int), Value.int .u8 (z6.toNat : Int), Value.int .u8 (z7.toNat : Int)] 36)).cell? ⟨w.heap.size + 1, 5, none⟩ = some (.int .u8 (t4.toNat : Int)) := RowV.cell? T3 5
 have c5 : ((w3.alloc (.cells #[Value.int .u8 (y0.toNat : Int), Value.int .u8 (y1.toNat : Int), Value.int .u8 (y2.toNat : Int), Value.int .u8 (y3.toNat : Int), Value.int .u8 (y4.toNat : Int), Value.int .u8 (y5.toNat : Int), Value.int .u8 (y6.toNat : Int), Value.int .u8 (y7.toNat : Int)] 36)).alloc (.cells #[Value.int .u8 (z0.toNat : Int), Value.int .u8 (z1.toNat : Int), Value.int .u8 (z2.toNat : Int), Value.int .u8 (z3.toNat : Int), Value.int .u8 (z4.toNat : Int), Value.int .u8 (z5.toNat : Int), Value.int .u8 (z6.toNat : Int), Value.int .u8 (z7.toNat : Int)] 36)).cell? ⟨w.heap.size, 6, none⟩ = some (.int .u8 (s5.toNat : Int)) := RowV.cell? S3 6
 have g5 : ((w3.alloc (.cells #[Value.int .u8 (y0.toNat : Int), Value.int .u8 (y1.toNat : Int), Value.int .u8 (y2.toNat : Int), Value.int .u8 (y3.toNat : Int), Value.int .u8 (y4.toNat : Int), Value.int .u8 (y5.toNat : Int), Value.int .u8 (y6.toNat : Int), Value.int .u8 (y7.toNat : Int)] 36)).alloc (.cells #[Value.int .u8 (z0.toNat : Int), Value.int .u8 (z1.toNat : Int), Value.int .u8 (z2.toNat : Int), Value.int .u8 (z3.toNat : Int), Value.int .u8 (z4.toNat : Int), Value.int .u8 (z5.toNat : Int), Value.int .u8 (z6.toNat : Int), Value.int .u8 (z7.toNat : Int)] 36)).cell? ⟨w.heap.size + 1, 6, none⟩ = some (.int .u8 (t5.toNat : Int)) := RowV.cell? T3 6
 have c6 : ((w3.alloc (.cells #[Value.int .u8 (y0.toNat : Int), Value.int .u8 (y1.toNat : Int), Value.int .u8 (y2.toNat : Int), Value.int .u8 (y3.toNat : Int), Value.int .u8 (y4.toNat : Int), Value.int .u8 (y5.toNat : Int), Value.int .u8 (y6.toNat : Int), Value.int .u8 (y7.toNat : Int)] 36)).alloc (.cells #[Value.int .u8 (z0.toNat : Int), Value.int .u8 (z1.toNat : Int), Value.int .u8 (z2.toNat : Int), Value.int .u8 (z3.toNat : Int), Value.int .u8 (z4.toNat : Int), Value.int .u8 (z5.toNat : Int), Value.int .u8 (z6.toNat : Int), Value.int .u8 (z7.toNat : Int)] 36)).cell? ⟨w.heap.size, 7, none⟩ = some (.int .u8 (s6.toNat : Int)) := RowV.cell? S3 7
 have g6 : ((w3.alloc (.cells #[Value.int .u8 (y0.toNat : Int), Value.int .u8 (y1.toNat : Int), Value.int .u8 (y2.toNat : Int), Value.int .u8 (y3.toNat : Int), Value.int .u8 (y4.toNat : Int), Value.int .u8 (y5.toNat : Int), Value.int .u8 (y6.toNat : Int), Value.int .u8 (y7.toNat : Int)] 36)).alloc (.cells #[Value.int .u8 (z0.toNat : Int), Value.int .u8 (z1.toNat : Int), Value.int .u8 (z2.toNat : Int), Value.int .u8 (z3.toNat : Int), Value.int .u8 (z4.toNat : Int), Value.int .u8 (z5.toNat : Int), Value.int .u8 (z6.toNat : Int), Value.int .u8 (z7.toNat : Int)] 36)).cell? ⟨w.heap.size + 1, 7, none⟩ = some (.int .u8 (t6.toNat : Int)) := RowV.cell? T3 7
 have c7 : ((w3.alloc (.cells #[Value.int .u8 (y0.toNat : Int), Value.int .u8 (y1.toNat : Int), Value.int .u8 (y2.toNat : Int), Value.int .u8 (y3.toNat : Int), Value.int .u8 (y4.toNat : Int), Value.int .u8 (y5.toNat : Int), Value.int .u8 (y6.toNat : Int), Value.int .u8 (y7.toNat : Int)] 36)).alloc (.cells #[Value.int .u8 (z0.toNat : Int), Value.int .u8 (z1.toNat : Int), Value.int .u8 (z2.toNat : Int), Value.int .u8 (z3.toNat : Int), Value.int .u8 (z4.toNat : Int), Value.int .u8 (z5.toNat : Int), Value.int .u8 (z6.toNat : Int), Value.int .u8 (z7.toNat : Int)] 36)).cell? ⟨w.heap.size, 8, none⟩ = some (.int .u8 (s7.toNat : Int)) := RowV.cell? S3 8
 have g7 : ((w3.alloc (.cells #[Value.int .u8 (y0.toNat : Int), Value.int .u8 (y1.toNat : Int), Value.int .u8 (y2.toNat : Int), Value.int .u8 (y3.toNat : Int), Value.int .u8 (y4.toNat : Int), Value.int .u8 (y5.toNat : Int), Value.int .u8 (y6.toNat : Int), Value.int .u8 (y7.toNat : Int)] 36)).alloc (.cells #[Value.int .u8 (z0.toNat : Int), Value.int .u8 (z1.toNat : Int), Value.int .u8 (z2.toNat : Int), Value.int .u8 (z3.toNat : Int), Value.int .u8 (z4.toNat : Int), Value.int .u8 (z5.toNat : Int), Value.int .u8 (z6.toNat : Int), Value.int .u8 (z7.toNat : Int)] 36)).cell? ⟨w.heap.size + 1, 8, none⟩ = some (.int .u8 (t7.toNat : Int)) := RowV.cell? T3 8
 have heq1 := eqD_run y0 y1 y2 y3 y4 y5 y6 y7 s0 s1 s2 s3 s4 s5 s6 s7
 have heq2 := eqD_run z0 z1 z2 z3 z4 z5 z6 z7 t0 t1 t2 t3 t4 t5 t6 t7
 have HV : Hid (bothB O [s0, s1, s2, s3, s4, s5, s6, s7] [t0, t1, t2, t3, t4, t5, t6, t7] = (O.isSome && (([y0, y1, y2, y3, y4, y5, y6, y7] == [s0, s1, s2, s3, s4, s5, s6, s7]) && ([z0, z1, z2, z3, z4, z5, z6, z7] == [t0, t1, t2, t3, t4, t5, t6, t7])))) := by
  cases hOO : O with
  | none => rfl
  | some q =>
   have := hO q hOO
   subst this
   rfl
 clear hO
 have HB3 : Hid (Below w.heap.size w ((w3.alloc (.cells #[Value.int .u8 (y0.toNat : Int), Value.int .u8 (y1.toNat : Int), Value.int .u8 (y2.toNat : Int), Value.int .u8 (y3.toNat : Int), Value.int .u8 (y4.toNat : Int), Value.int .u8 (y5.toNat : Int), Value.int .u8 (y6.toNat : Int), Value.int .u8 (y7.toNat : Int)] 36)).alloc (.cells #[Value.int .u8 (z0.toNat : Int), Value.int .u8 (z1.toNat : Int), Value.int .u8 (z2.toNat : Int), Value.int .u8 (z3.toNat : Int), Value.int .u8 (z4.toNat : Int), Value.int .u8 (z5.toNat : Int), Value.int .u8 (z6.toNat : Int), Value.int .u8 (z7.toNat : Int)] 36))) := ((hA.trans (hb3.mono hA.size)).alloc (hA.trans (hb3.mono hA.size)).size _).alloc (by have := (hA.trans (hb3.mono hA.size)).size; simp; omega) _
 generalize ([y0, y1, y2, y3, y4, y5, y6, y7] == [s0, s1, s2, s3, s4, s5, s6, s7]) = eq1 at *
 generalize ([z0, z1, z2, z3, z4, z5, z6, z7] == [t0, t1, t2, t3, t4, t5, t6, t7]) = eq2 at *
 generalize O.isSome = ok at *
 clear hb3 hA HS HT S3 T3
 unfold dV u8c
 simp only [List.map_cons, List.map_nil]
 cases ok
 ·go_wp2
  go_ret
  exact ⟨by rw [HV.out]; rfl, HB3.out⟩
 ·cases eq1
  all_goals
   go_wp2
   go_ret
   exact ⟨by rw [HV.out]; rfl, HB3.out⟩
theorem checkExt_any (m n : Int) (osum sum : List UInt8) (r : List (List UInt8)) (a : Option Addr) (cap : Nat) (w : World) (ho : osum.length = 8) (hs : sum.length = 8) (hn : n ≤ 9223372036854775807) (hp : SlD w a r.reverse) (hl : r.length ≤ cap) (hc : cap ≤ 9223372036854775807) :
  Calls Tryz.prog 77 #[headV m osum, headV n sum, .slice a r.length cap] w fun v w' => v = .returned (.bool (extF m n osum sum r)) ∧ Below w.heap.size w w' := by
 unfold extF
 by_cases h : m < 0 ∨ n < m
 ·rw [if_pos h]
  exact checkExt_no m n osum sum a r.length cap w ho hs h
 ·rw [if_neg h]
  by_cases h0 : m = 0
  ·rw [if_pos h0]
   subst h0
   exact checkExt_zero n osum sum a r.length cap w ho hs (by omega) (by omega)
  ·rw [if_neg h0]
   obtain ⟨n', rfl⟩ : ∃ n' : Nat, n = n' := ⟨n.toNat, by omega⟩
   obtain ⟨m', rfl⟩ : ∃ m' : Nat, m = m' := ⟨m.toNat, by omega⟩
   simp only [Int.toNat_natCast]
   exact checkExt_yes n' m' osum sum r a cap w ho hs (by omega) (by omega) (by omega) hp hl hc
end Go.Proofs.YtekegfbjbainhaaGreat
