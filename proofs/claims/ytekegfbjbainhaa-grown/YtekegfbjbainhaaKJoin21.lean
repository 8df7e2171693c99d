import Derived.Test.YtekegfbjbainhaaKJoin18
import Derived.Laws.CopyRow
import Derived.Laws.MakeOwn
import Derived.Deep.WholeRow
import Derived.Deep.DeepCutAuto
import Derived.Deep.CutBlock
import Derived.Deep.RegionHeld3
import Derived.Deep.RegionWith
import Derived.OpenShut
import Derived.Test.YtekegfbjbainhaaKJoin20
import Derived.Test.YtekegfbjbainhaaKLog21
import Derived.Test.YtekegfbjbainhaaKLog11
set_option linter.unusedVariables false
set_option linter.unusedSimpArgs false

namespace Go.Proofs.Ytekegfbjbainhaa
open Go.RowKit
end Go.Proofs.Ytekegfbjbainhaa


namespace Go.Proofs.Ytekegfbjbainhaa
open Go.RowKit
end Go.Proofs.Ytekegfbjbainhaa


namespace Go.Proofs.Ytekegfbjbainhaa
open Go.RowKit
theorem run_copy_rows {P : Program} (sz : Nat) (w : World) (dT sT ty elem : TypeId) (g o dLen dCap : Nat) (a : Addr) (sLen sCap : Nat) (cur : Array Value) (t : TypeId) (cs : List Value)
  (hu : P.underlying dT = some (.slice elem)) (hs : (P.info? elem).map (·.size) = some sz) (hg : w.heap[g]? = some (.cells cur t (0, 0))) (hn : cs.length = Nat.min sLen dLen * sz)
  (hsrc : ∀ j v, cs[j]? = some v → w.cell? (a.add j) = some v) (hfit : o + cs.length ≤ cur.size) (h1 : ∀ v ∈ cs, v.oneCell' = true) :
  (Builtin.copy_ #[dT, sT] ty #[.slice (some ⟨g, o, none⟩) dLen dCap, .slice (some a) sLen sCap]).run P w = .ok (goInt (Nat.min sLen dLen)) (w.setRow g (cur.toList.take o ++ cs ++ cur.toList.drop (o + cs.length)).toArray) := by
 have hl := run_loadCells_list (P := P) w a cs hsrc
 have hst := run_storeCells_at P g o t cs 0 cur w hg (by simpa using hfit) h1
 cases hq : P.info? elem with
 | none => simp [hq] at hs
 | some i =>
  have hi : i.size = sz := by simpa [hq] using hs
  simp [Builtin.copy_, run_underlying hu, Builtin.lenOf, Builtin.firstCells, sizeOf, typeInfo, hq, hi, ← hn, hl, hst]
end Go.Proofs.Ytekegfbjbainhaa


namespace Go.Proofs.Ytekegfbjbainhaa
open Go.RowKit
attribute [local go_sem ↓] Go.wp_at_zero Go.wp_at_succ
def I64 (x : Int) : Prop := -9223372036854775808 ≤ x ∧ x ≤ 9223372036854775807
end Go.Proofs.Ytekegfbjbainhaa


namespace Go.Proofs.Ytekegfbjbainhaa
open Go.RowKit
theorem wrap64_small (p : Nat) (hp : p < 255) : wrap64 (1 + (p : Int)) % 256 = ((1 + p : Nat) : Int) := by
 have h : wrap64 (1 + (p : Int)) = 1 + (p : Int) := by
  have := IntKind.wrap_i64 (1 + (p : Int))
  unfold wrap64
  omega
 rw [h]
 omega
theorem xor_ne (x : UInt8) (p : Nat) (hp : p < 255) : ∃ z : UInt8, bits .xor .u8 (x.toNat : Int) (wrap64 (1 + (p : Int)) % 256) = (z.toNat : Int) ∧ z ≠ x := by
 rw [wrap64_small p hp]
 refine ⟨x ^^^ UInt8.ofNat (1 + p), ?_, fun h => ?_⟩
 ·have hx := x.toNat_lt
  unfold bits
  simp only
  rw [show IntKind.u8.bits = 8 from rfl]
  have e : ∀ n : Int, IntKind.u8.wrap n = n % 256 := fun n => by simp [IntKind.wrap, IntKind.signed, IntKind.bits]
  rw [e, UInt8.toNat_xor, UInt8.toNat_ofNat']
  have h1 : (BitVec.ofInt 8 (x.toNat : Int)).toNat = x.toNat := by
   rw [BitVec.toNat_ofInt]
   omega
  have h2 : (BitVec.ofInt 8 ((1 + p : Nat) : Int)).toNat = (1 + p) % 256 := by
   rw [BitVec.toNat_ofInt]
   omega
  rw [BitVec.toNat_xor, h1, h2]
  have h4 : (1 + p) % 256 = 1 + p := Nat.mod_eq_of_lt (by omega)
  have h5 : (1 + p) % 2 ^ 8 = 1 + p := Nat.mod_eq_of_lt (by omega)
  first | rw [h4] | skip
  first | rw [h5] | skip
  first | rw [h4] | skip
  have h3 : x.toNat ^^^ (1 + p) < 2 ^ 8 := Nat.xor_lt_two_pow (by omega) (by omega)
  generalize x.toNat ^^^ (1 + p) = t at *
  omega
 ·have h2 : UInt8.ofNat (1 + p) = 0 := by
   have h3 : x ^^^ (x ^^^ UInt8.ofNat (1 + p)) = x ^^^ x := by rw [h]
   rw [← UInt8.xor_assoc, UInt8.xor_self, UInt8.zero_xor] at h3
   exact h3
  have h3 := congrArg UInt8.toNat h2
  rw [UInt8.toNat_ofNat'] at h3
  simp at h3
  omega
structure DgL (w : World) (s : SlR) (L : List (List UInt8)) : Prop where
 sl : SlD w s.a L
 n : s.n = L.length
 le : s.n ≤ s.cap
 cap : s.cap ≤ 9223372036854775807
theorem DgL.below {w W : World} {s : SlR} {L : List (List UInt8)} (h : DgL w s L) (hb : Below w.heap.size w W) : DgL W s L := ⟨h.sl.below hb, h.n, h.le, h.cap⟩
theorem DgL.own {w : World} {base : Nat} {s : SlR} {L : List (List UInt8)} (h : w.ownsRow base 45 8 (.slice s.a s.n s.cap) L.length (digsC L)) (h8 : ∀ d ∈ L, d.length = 8) : DgL w s L := by
 obtain ⟨h1, h2⟩ := SlV.ofOwn (s := s) h
 have hc := owns_cap (a := s.a) (n' := s.n) (cap := s.cap) h
 refine ⟨⟨h1, h8⟩, h2, by rw [h2]; exact hc.2.1, ?_⟩
 have := hc.2.2.1
 unfold maxLen at this
 omega
theorem digsC_set : ∀ (A : List (List UInt8)) (r s : Nat) (z : UInt8) (hr : r < A.length), (∀ d ∈ A, d.length = 8) → s < 8 → (digsC A).set (r * 8 + s) (.int .u8 (z.toNat : Int)) = digsC (A.set r (A[r].set s z))
 | [], r, s, z, hr, _, _ => absurd hr (Nat.not_lt_zero _)
 | x :: A, 0, s, z, hr, h8, hs => by
  have hx := h8 x (by simp)
  simp only [digsC, List.flatMap_cons, Nat.zero_mul, Nat.zero_add, List.set_cons_zero, List.getElem_cons_zero]
  rw [List.set_append_left _ _ (by simp; omega), List.map_set]
  rfl
 | x :: A, r + 1, s, z, hr, h8, hs => by
  have hx := h8 x (by simp)
  have ih := digsC_set A r s z (by simpa using hr) (fun d hd => h8 d (by simp [hd])) hs
  simp only [digsC, List.flatMap_cons, List.set_cons_succ, List.getElem_cons_succ] at ih ⊢
  rw [List.set_append_right _ _ (by simp; omega), List.length_map, hx, show (r + 1) * 8 + s - 8 = r * 8 + s by omega, ih]
theorem set_8 {A : List (List UInt8)} (h8 : ∀ d ∈ A, d.length = 8) {r s : Nat} {z : UInt8} (hr : r < A.length) : ∀ d ∈ A.set r (A[r].set s z), d.length = 8 := fun d hd => by
 rcases List.mem_or_eq_of_mem_set hd with h | h
 ·exact h8 d h
 ·rw [h, List.length_set]; exact h8 _ (List.getElem_mem hr)
theorem Try.sizeDg : (Try.prog.info? 45).map (·.size) = some 8 := by kernel_rfl
theorem digs_make (n : Nat) (hn : n ≤ 1000) : ∃ Z : Array Value, Z.size = n * 8 ∧ ∀ u : World, (Instr.makeSlice 73 (.int .i64 (n : Int)) (.int .i64 (n : Int))).run Try.prog u = .ok (.slice (some ⟨u.heap.size, 0, none⟩) n n) (u.alloc (.cells Z 45)) := by
 obtain ⟨i, hq, h1, h2, h3⟩ := info_parts Try.infoDigs
 refine ⟨madeCells (Value.agg #[.int .u8 0, .int .u8 0, .int .u8 0, .int .u8 0, .int .u8 0, .int .u8 0, .int .u8 0, .int .u8 0]).cells (n * 8), by rw [size_madeCells], fun u => ?_⟩
 have h := run_make (P := Try.prog) u 73 45 i _ Try.underlying73 hq h1 .i64 .i64 (n : Int) (n : Int) (by omega) (Int.le_refl _) (by rw [h3]; omega) (by omega)
 rw [h2, Int.toNat_natCast] at h
 exact h
theorem digs_copy (w : World) (s : SlR) (A : List (List UInt8)) (Z : Array Value) (hZ : Z.size = A.length * 8) (h : DgL w s A) (h1 : 1 ≤ A.length) :
  (Builtin.copy_ #[73, 73] 3 #[.slice (some ⟨w.heap.size, 0, none⟩) A.length A.length, .slice s.a s.n s.cap]).run Try.prog (w.alloc (.cells Z 45)) = .ok (goInt A.length) (w.alloc (.cells (digsC A).toArray 45)) := by
 have hl := digsC_length A h.sl.2
 obtain ⟨b, o, ha, _⟩ := h.sl.1 0 (by omega)
 rw [ha, h.n]
 have hmin : Nat.min A.length A.length = A.length := Nat.min_self _
 have hg : (w.alloc (.cells Z 45)).heap[w.heap.size]? = some (.cells Z 45 (0, 0)) := by
  show (w.heap.push _)[w.heap.size]? = _
  simp
 have hr := run_copy_rows (P := Try.prog) 8 (w.alloc (.cells Z 45)) 73 73 3 45 w.heap.size 0 A.length A.length ⟨b, o, none⟩ A.length s.cap Z 45 (digsC A) Try.underlying73 Try.sizeDg hg (by rw [hmin]; exact hl) (fun j v hv => by
  obtain ⟨hj, hv⟩ := List.getElem?_eq_some_iff.1 hv
  obtain ⟨b', o', ha', hb', hc⟩ := h.sl.1 j hj
  rw [ha] at ha'
  cases ha'
  rw [addr_add, World.cell?_alloc_lt _ _ _ (by exact hb'), hc, hv]) (by omega) (digsC_one A)
 rw [hmin, World.setRow_alloc_new] at hr
 rw [List.take_zero, List.nil_append, Nat.zero_add, List.drop_of_length_le (by rw [hl, Array.length_toList, hZ]; omega), List.append_nil] at hr
 exact hr
def slsV (ds : List (SlR × List (List UInt8))) : List Value := ds.map (fun p => p.1.val)
theorem slsV_one (ds : List (SlR × List (List UInt8))) : ∀ u ∈ slsV ds, u.oneCell' = true := fun u hu => by
 obtain ⟨s, _, rfl⟩ := List.mem_map.1 hu
 rfl
theorem Try.infoDgs : (Try.prog.info? 73).map (fun i => (i.zero, i.size, i.bytes)) = some (some (.slice none 0 0), 1, 24) := by kernel_rfl
def PathsAt (w : World) (a : Option Addr) (n : Nat) : Prop := ∀ k, k < n → ∃ (b o : Nat) (s : SlR) (L : List (List UInt8)), a = some ⟨b, o, none⟩ ∧ b < w.heap.size ∧ w.cell? ⟨b, o + k, none⟩ = some (.slice s.a s.n s.cap) ∧ DgL w s L
end Go.Proofs.Ytekegfbjbainhaa


namespace Go.Proofs.Ytekegfbjbainhaa
open Go.RowKit
attribute [local go_sem ↓] Go.wp_at_zero Go.wp_at_succ
theorem hou_commits {w wr : World} {d : HouD} (h : Hou w d wr) (hp : 1 ≤ d.tds.length) : ∃ g : Nat, g < wr.heap.size ∧ wr.cell? ⟨d.hb, 0, none⟩ = some (.pointer (some ⟨d.sb, 0, none⟩)) ∧ wr.cell? ⟨d.hb, 3, none⟩ = some (.slice (some ⟨g, 0, none⟩) d.tds.length d.dn.cap) ∧
  ∀ (k j : Nat) (hk : k < d.tds.length), j < 18 → wr.cell? ⟨g, k * 18 + j, none⟩ = (commitC k ((d.tds.map rootOf)[k]'(by simpa using hk)) (k + 1) (sumF 42 ((d.tds.map rootOf).take (k + 1))))[j]? := by
 have hdn : d.dn.n = d.tds.length := (SlV.ofOwn (s := d.dn) h.at_.don).2
 have hd := (SlV.ofOwn (s := d.dn) h.at_.don).1
 have hr : ∀ r ∈ d.tds.map rootOf, r.length = 8 := fun r hr => by
  obtain ⟨nd, _, rfl⟩ := List.mem_map.1 hr
  exact rootOf_length nd
 obtain ⟨g, hga, hg⟩ : ∃ g, d.dn.a = some ⟨g, 0, none⟩ ∧ g < wr.heap.size := by
  rcases (owns_cap (a := d.dn.a) (n' := d.dn.n) (cap := d.dn.cap) h.at_.don).2.2.2 with ⟨_, hz, _⟩ | ⟨g, hg, _, hlt⟩
  ·omega
  ·exact ⟨g, hg, hlt⟩
 refine ⟨g, hg, RowV.cell? h.at_.row 0, ?_, fun k j hk hj => ?_⟩
 ·have : wr.cell? ⟨d.hb, 3, none⟩ = some d.dn.val := RowV.cell? h.at_.row 3
  rw [this]; unfold SlR.val; rw [hga, hdn]
 ·have hkr : k < (d.tds.map rootOf).length := by simpa using hk
  have hlt : k * 18 + j < (comsC (d.tds.map rootOf)).length := by
   unfold comsC
   rw [comsF_length _ _ (Nat.le_refl _) hr]
   omega
  have hv := comsF_get (d.tds.map rootOf).length (d.tds.map rootOf) k j (Nat.le_refl _) hr hkr hj
  have e : (d.tds.map rootOf).getD k [] = (d.tds.map rootOf)[k] := by rw [List.getD_eq_getElem?_getD, List.getElem?_eq_getElem hkr]; rfl
  rw [e] at hv
  obtain ⟨b, o, e', _, hcl⟩ := hd (k * 18 + j) hlt
  rw [hga] at e'
  cases e'
  have h2 : (comsC (d.tds.map rootOf))[k * 18 + j]? = (commitC k ((d.tds.map rootOf)[k]) (k + 1) (sumF 42 ((d.tds.map rootOf).take (k + 1))))[j]? := hv
  rw [← h2, List.getElem?_eq_getElem hlt, ← hcl]
  congr 2
  omega
theorem hou_included {w wr : World} {d : HouD} (h : Hou w d wr) (e n : Int) : Calls Try.prog 26 #[.pointer (some ⟨d.sb, 0, none⟩), .int .i64 e, .int .i64 n] wr (logPost wr (incS (d.tds.map rootOf) e n)) := stoIncl_any d.sb d.N d.en d.tr d.mp d.ms d.xs d.its d.tds e n wr h.at_.sto h.at_.t40
theorem hou_extended {w wr : World} {d : HouD} (h : Hou w d wr) (e n : Int) : Calls Try.prog 27 #[.pointer (some ⟨d.sb, 0, none⟩), .int .i64 e, .int .i64 n] wr (logPost wr (extS (d.tds.map rootOf) e n)) := stoExt_any d.sb d.N d.en d.tr d.mp d.ms d.xs d.its d.tds e n wr h.at_.sto h.at_.t40
theorem pick_x (c x : Int) (k : Nat) (w : World) (hx : x = (k : Int)) (hc : I64 c) (h1 : 1 ≤ k) (h2 : k ≤ maxLen) : Calls Try.prog 10 #[.int .i64 c, .int .i64 x] w fun e w' => e = .returned (.int .i64 (pickN c k : Int)) ∧ w' = w := hx ▸ pick_any c k w hc.1 hc.2 h1 h2
theorem incl_own2 {l : List (List UInt8)} {n e : Nat} {r : List UInt8} (hl : l.length = n) (h40 : n ≤ 40) (he : e < n) (hr : l[e]? = some r) : inclF (n : Int) (e : Int) (sumF 42 l) r (pathF 42 e l).reverse = true := by
 subst hl
 rw [List.getElem?_eq_getElem he] at hr
 cases hr
 exact incl_own h40 he
theorem incS_ok {rl : List (List UInt8)} {e n : Nat} {x : Int} (hx : x = (n : Int)) (he : e < n) (hn : n ≤ rl.length) : incS rl (e : Int) x = (pathF 42 e (rl.take n), 0) := by
 subst hx
 unfold incS
 rw [if_neg (by omega)]
 simp
theorem extS_ok {rl : List (List UInt8)} {m n : Nat} {y x : Int} (hy : y = (m : Int)) (hx : x = (n : Int)) (hm : 1 ≤ m) (hmn : m ≤ n) (hn : n ≤ rl.length) : extS rl y x = (extL 42 m (rl.take n) true, 0) := by
 subst hx hy
 unfold extS
 rw [if_neg (by omega), if_neg (by omega)]
 simp
theorem extS_zero {rl : List (List UInt8)} {n : Nat} {x : Int} (hx : x = (n : Int)) (hn : n ≤ rl.length) : extS rl 0 x = ([], 0) := by
 subst hx
 unfold extS
 rw [if_neg (by omega), if_pos rfl]
theorem com_at {k : Nat} {r s : List UInt8} (hr : r.length = 8) {x0 x1 x2 x3 x4 x5 x6 x7 : UInt8} (hs : s = [x0, x1, x2, x3, x4, x5, x6, x7]) : (commitC k r (k + 1) s)[9]? = some (.int .i64 ((k : Int) + 1)) ∧ ∀ j (hj : j < 8), (commitC k r (k + 1) s)[10 + j]? = ([x0, x1, x2, x3, x4, x5, x6, x7].map u8c)[j]? := by
 obtain ⟨y0, y1, y2, y3, y4, y5, y6, y7, rfl⟩ := list8 r hr
 subst hs
 refine ⟨by simp [commitC], fun j hj => ?_⟩
 match j, hj with
 | 0, _ => rfl
 | 1, _ => rfl
 | 2, _ => rfl
 | 3, _ => rfl
 | 4, _ => rfl
 | 5, _ => rfl
 | 6, _ => rfl
 | 7, _ => rfl
theorem com_rt {k : Nat} {r s : List UInt8} {x0 x1 x2 x3 x4 x5 x6 x7 : UInt8} (hr : r = [x0, x1, x2, x3, x4, x5, x6, x7]) : ∀ j (hj : j < 8), (commitC k r (k + 1) s)[1 + j]? = ([x0, x1, x2, x3, x4, x5, x6, x7].map u8c)[j]? := fun j hj => by
 subst hr
 match j, hj with
 | 0, _ => rfl
 | 1, _ => rfl
 | 2, _ => rfl
 | 3, _ => rfl
 | 4, _ => rfl
 | 5, _ => rfl
 | 6, _ => rfl
 | 7, _ => rfl
end Go.Proofs.Ytekegfbjbainhaa
