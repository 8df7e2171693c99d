
import Derived.Test.YtekegfbjbainhaaKJoin25
import Derived.Lib.SlBytesConst
set_option linter.unusedVariables false
set_option linter.unusedSimpArgs false
namespace Go.Proofs.Ytekegfbjbainhaa
open Go.RowKit
attribute [local go_sem ↓] Go.wp_at_zero Go.wp_at_succ
def IntsAt (w : World) (a : Option Addr) (n : Nat) : Prop := ∀ i, i < n → ∃ b o c, a = some ⟨b, o, none⟩ ∧ b < w.heap.size ∧ w.cell? ⟨b, o + i, none⟩ = some (.int .i64 c) ∧ -9223372036854775808 ≤ c ∧ c ≤ 9223372036854775807
def leftLen : Value → Nat
 | .slice _ n _ => n
 | _ => 0
structure FixSt (w : World) (l : List ItR) (hb lb m : Nat) (es : List (SlR × SlR)) (ls : List ItR) (d : HouD) (wr : World) : Prop where
 g : GSt w hb lb es d.its d wr
 bs : BsL w es ls
 len : m ≤ ls.length
 put : PutSo l (ls.take m) d.its
 nodup : (ls.take m).Nodup
 sub : ∀ x ∈ ls.take m, x ∈ l
theorem rising_nodup {l : List ItR} (h : Rising l) : l.Nodup := List.Pairwise.imp (fun {a b} hab e => by subst e; rw [less_irrefl] at hab; cases hab) h
theorem bs_two (w : World) (x y : UInt8) (t : TypeId) (fr : Nat × Nat) : BS (w.alloc (.cells #[.int .u8 (x.toNat : Int), .int .u8 (y.toNat : Int)] t fr)) ⟨some ⟨w.heap.size, 0, none⟩, 2, 2⟩ [x, y] :=
 ⟨SlB.mk (by simp) (fun i hi => by
  have h : (w.alloc (.cells #[.int .u8 (x.toNat : Int), .int .u8 (y.toNat : Int)] t fr)).heap[w.heap.size]? = some (.cells #[.int .u8 (x.toNat : Int), .int .u8 (y.toNat : Int)] t fr) := by
   show (w.heap.push _)[w.heap.size]? = _
   simp
  have : i = 0 ∨ i = 1 := by simp at hi; omega
  rcases this with rfl | rfl
  ·exact World.rangeAt_of_block h 0 2 0 _ rfl
  ·exact World.rangeAt_of_block h 0 2 1 _ rfl), rfl, fun h => (by cases h), fun x hx => (by cases hx; simp)⟩
set_option maxRecDepth 100000 in
set_option maxHeartbeats 8000000 in
theorem fixed_any (a : Option Addr) (n cap : Nat) (f : Nat → ActR) (oa : Option Addr) (on oc : Nat) (w : World) (hs : ActsAt w a n f) (hn : n ≤ 9223372036854775807) (ho : IntsAt w oa on) (hon : on ≤ 9223372036854775807) :
  Calls Try.prog 3 #[.slice a n cap, .slice oa on oc] w fun e w' => e = .returned (.bool true) ∧ Below w.heap.size w w' := by
 have HHA : Hid (Calls _ _ _ _ _) := house_any a n cap f w hs hn
 have HOA : Hid (IntsAt w oa on) := ho
 have honI : (on : Int) ≤ 9223372036854775807 := by omega
 clear hs hn ho
 go_enter Try.func3, Try.ntmps3
 go_wp2_with fail
 refine HHA.out.mono ?_
 rintro r w1 ⟨d, rfl, H1, h1⟩
 obtain ⟨e, he⟩ : ∃ e, d.pp.length = e + 1 := ⟨d.pp.length - 1, by have := H1.lens.1; omega⟩
 have hlt : e < d.pp.length := by omega
 have h40 : e ≤ 39 := by have := H1.lens.1; have := H1.at_.t40; omega
 have h40I : (e : Int) ≤ 39 := by omega
 obtain ⟨g, g', x0, x1, x2, x3, x4, x5, x6, x7, c0, c2, c3, cp, hrx, hg, hg', k0, k1, k2, k3, k4, k5, k6, k7⟩ := hou_cells H1 hlt
 rw [he] at c2 c3
 have hhb : d.hb < w1.heap.size := H1.at_.row.lt
 have HRX : Hid (rootB d.pp[e] = [x0, x1, x2, x3, x4, x5, x6, x7]) := hrx
 have HCE : Hid (∀ W, Below w1.heap.size w1 W → W.cell? ⟨d.hb, 3, none⟩ = some (.slice (some ⟨g, 0, none⟩) (e + 1) d.dn.cap) ∧ W.cell? ⟨g, e * 18 + 1, none⟩ = some (.int .u8 (x0.toNat : Int)) ∧ W.cell? ⟨g, e * 18 + 1 + 1, none⟩ = some (.int .u8 (x1.toNat : Int)) ∧ W.cell? ⟨g, e * 18 + 1 + 2, none⟩ = some (.int .u8 (x2.toNat : Int)) ∧ W.cell? ⟨g, e * 18 + 1 + 3, none⟩ = some (.int .u8 (x3.toNat : Int)) ∧ W.cell? ⟨g, e * 18 + 1 + 4, none⟩ = some (.int .u8 (x4.toNat : Int)) ∧ W.cell? ⟨g, e * 18 + 1 + 5, none⟩ = some (.int .u8 (x5.toNat : Int)) ∧ W.cell? ⟨g, e * 18 + 1 + 6, none⟩ = some (.int .u8 (x6.toNat : Int)) ∧ W.cell? ⟨g, e * 18 + 1 + 7, none⟩ = some (.int .u8 (x7.toNat : Int))) := fun W hW => ⟨(hW.cell (p := ⟨d.hb, 3, none⟩) hhb).trans c3, (hW.cell (p := ⟨g, e * 18 + 1, none⟩) hg).trans k0, (hW.cell (p := ⟨g, e * 18 + 1 + 1, none⟩) hg).trans k1, (hW.cell (p := ⟨g, e * 18 + 1 + 2, none⟩) hg).trans k2, (hW.cell (p := ⟨g, e * 18 + 1 + 3, none⟩) hg).trans k3, (hW.cell (p := ⟨g, e * 18 + 1 + 4, none⟩) hg).trans k4, (hW.cell (p := ⟨g, e * 18 + 1 + 5, none⟩) hg).trans k5, (hW.cell (p := ⟨g, e * 18 + 1 + 6, none⟩) hg).trans k6, (hW.cell (p := ⟨g, e * 18 + 1 + 7, none⟩) hg).trans k7⟩
 have HS : Hid (Stood d.pp[e]) := H1.stood hlt
 have HPO : Hid (PastOk d.pp[e]) := H1.past hlt
 have HKO : Hid (∀ x ∈ d.pp[e], keyOk x.key = true) := H1.keys _ (List.mem_cons_of_mem _ (List.getElem_mem hlt))
 have hpdl : e < d.pd.length := by rw [H1.at_.pl]; exact hlt
 have HEV : Hid (∀ W, Below w1.heap.size w1 W → EntV W (d.pd[e]).1 (d.pd[e]).2 d.pp[e]) := fun W hW => by
  have h := (H1.below hW).at_.pds e hpdl hlt
  obtain ⟨q1, q2⟩ := SlV.ofOwn (s := (d.pd[e]).1) h.own
  exact ⟨q1, q2, h.len, h.bs⟩
 have HH1 : Hid (Below w.heap.size w w1) := H1.bel
 clear hrx c0 c3 k0 k1 k2 k3 k4 k5 k6 k7 hg h1
 generalize d.pp[e] = l at *
 generalize hpd : d.pd[e] = pe at *
 obtain ⟨⟨la, ln, lc⟩, nes⟩ := pe
 simp only [SlR.val] at cp HEV
 obtain rfl : ln = l.length := by
  have h := HEV.out _ (Below.refl _ _)
  rw [← h.bs.1]; exact h.n
 have hl60 : l.length ≤ 60 := HS.out.len
 have hl60I : (l.length : Int) ≤ 60 := by omega
 clear hpd hpdl he
 clear H1
 clear hlt
 generalize d.hb = hbh at *
 go_wp2_with fail
 go_quiet (fail)
 have HBA : Hid (Below w1.heap.size w1 (w1.drewN nq)) := bel_drewN w1 nq
 generalize w1.drewN nq = wA at *
 have HAA : Hid (Below w.heap.size w wA) := HH1.out.trans (HBA.out.mono HH1.out.size)
 have hnl : nes.length = l.length := (HEV.out _ HBA.out).bs.1
 have HG2 := hou_new wA
 obtain ⟨Z, hZ, hmk⟩ := left_make l.length hl60
 have hcp : (Builtin.copy_ #[27, 27] 3 #[.slice (some ⟨wA.heap.size + 1 + 1, 0, none⟩) l.length l.length, .slice la l.length lc]).run Try.prog (((wA.alloc (.cells #[.slice none 0 0, .map none, .slice none 0 0] 89)).alloc (.cells #[.pointer (some ⟨wA.heap.size, 0, none⟩), .slice none 0 0, .slice none 0 0, .slice none 0 0] 32)).alloc (.cells Z 37)) = .ok (goInt l.length) (((wA.alloc (.cells #[.slice none 0 0, .map none, .slice none 0 0] 89)).alloc (.cells #[.pointer (some ⟨wA.heap.size, 0, none⟩), .slice none 0 0, .slice none 0 0, .slice none 0 0] 32)).alloc (.cells (entsC nes).toArray 37)) := by
  have h := left_copy ((wA.alloc (.cells #[.slice none 0 0, .map none, .slice none 0 0] 89)).alloc (.cells #[.pointer (some ⟨wA.heap.size, 0, none⟩), .slice none 0 0, .slice none 0 0, .slice none 0 0] 32)) la lc nes Z (by rw [hZ, hnl]) (SlV.below_all (HEV.out _ HBA.out).sl HG2.bel)
  rw [hnl] at h
  simpa using h
 have HG3 : Hid (FixSt wA l (wA.heap.size + 1) (wA.heap.size + 1 + 1) l.length nes l (newH (wA.heap.size + 1) wA.heap.size) (((wA.alloc (.cells #[.slice none 0 0, .map none, .slice none 0 0] 89)).alloc (.cells #[.pointer (some ⟨wA.heap.size, 0, none⟩), .slice none 0 0, .slice none 0 0, .slice none 0 0] 32)).alloc (.cells (entsC nes).toArray 37))) := by
  have hb3 : Below ((wA.alloc (.cells #[.slice none 0 0, .map none, .slice none 0 0] 89)).alloc (.cells #[.pointer (some ⟨wA.heap.size, 0, none⟩), .slice none 0 0, .slice none 0 0, .slice none 0 0] 32)).heap.size ((wA.alloc (.cells #[.slice none 0 0, .map none, .slice none 0 0] 89)).alloc (.cells #[.pointer (some ⟨wA.heap.size, 0, none⟩), .slice none 0 0, .slice none 0 0, .slice none 0 0] 32)) (((wA.alloc (.cells #[.slice none 0 0, .map none, .slice none 0 0] 89)).alloc (.cells #[.pointer (some ⟨wA.heap.size, 0, none⟩), .slice none 0 0, .slice none 0 0, .slice none 0 0] 32)).alloc (.cells (entsC nes).toArray 37)) := (Below.refl _ _).alloc (Nat.le_refl _) _
  have hsz : ((wA.alloc (.cells #[.slice none 0 0, .map none, .slice none 0 0] 89)).alloc (.cells #[.pointer (some ⟨wA.heap.size, 0, none⟩), .slice none 0 0, .slice none 0 0, .slice none 0 0] 32)).heap.size = wA.heap.size + 1 + 1 := by simp
  refine ⟨⟨HG2.below hb3, rfl, rfl, rfl, ?_, by omega, fun hF => ?_⟩, (HEV.out _ HBA.out).bs, Nat.le_refl _, ⟨List.Pairwise.nil, fun x => ⟨fun h => (by cases h), fun h => absurd (by rw [List.take_length]; exact h.1) h.2⟩⟩, by rw [List.take_length]; exact rising_nodup HPO.out.rise, fun x hx => by rw [List.take_length] at hx; exact hx⟩
  ·have h := RowV.new ((wA.alloc (.cells #[.slice none 0 0, .map none, .slice none 0 0] 89)).alloc (.cells #[.pointer (some ⟨wA.heap.size, 0, none⟩), .slice none 0 0, .slice none 0 0, .slice none 0 0] 32)) 37 (entsC nes)
   rw [hsz] at h
   exact h
  ·have := HG2.at_.lt _ hF
   rw [hsz] at this
   omega
 clear HG2 hZ
 go_wp2_with fail
 refine (new_any _).mono ?_
 rintro r w' ⟨rfl, rfl⟩
 go_wp2
 clear hmk hcp
 generalize (((wA.alloc (.cells #[.slice none 0 0, .map none, .slice none 0 0] 89)).alloc (.cells #[.pointer (some ⟨wA.heap.size, 0, none⟩), .slice none 0 0, .slice none 0 0, .slice none 0 0] 32)).alloc (.cells (entsC nes).toArray 37)) = w3 at *
 obtain ⟨gb, hgb⟩ : ∃ gb, gb = wA.heap.size + 1 := ⟨_, rfl⟩
 obtain ⟨lb, hlb⟩ : ∃ lb, lb = wA.heap.size + 1 + 1 := ⟨_, rfl⟩
 rw [← hlb, ← hgb] at HG3
 rw [← hlb, ← hgb]
 clear hlb hgb
 go_loopw [9, 10] (fun lv iv wr => ∃ (i m : Nat) (es : List (SlR × SlR)) (ls : List ItR) (dg : HouD), i + m = l.length ∧ iv = .int .i64 (i : Int) ∧ lv = .slice (some ⟨lb, 0, none⟩) m l.length ∧ Hid (es.length = l.length ∧ ls.length = l.length) ∧ Hid (FixSt wA l gb lb m es ls dg wr)) (fun lv _ _ => leftLen lv)
 case atStart => exact ⟨0, l.length, nes, l, newH gb wA.heap.size, by omega, rfl, rfl, ⟨hnl, rfl⟩, HG3⟩
 case round =>
  obtain ⟨i, m, es, ls, dg, him, rfl, rfl, HLL, HF⟩ := hrel
  have hiI : (i : Int) ≤ 60 := by omega
  by_cases hm0 : 0 < m
  ·obtain ⟨m', rfl⟩ : ∃ m', m = m' + 1 := ⟨m - 1, by omega⟩
   have hmI : (m' : Int) ≤ 59 := by omega
   go_upto_if 63 with fail
   go_cut [11] (fun kv wx => ∃ k : Nat, k ≤ m' ∧ kv = .int .i64 (k : Int) ∧ wx = wr)
   case first =>
    by_cases hio : i < on
    ·have hioI : (i : Int) < on := by omega
     obtain ⟨b, o, c, rfl, hb, hc, hc1, hc2⟩ := HOA.out i hio
     have c0 : wr.cell? ⟨b, o + i, none⟩ = some (.int .i64 c) := ((HAA.out.trans (HF.out.g.hou.bel.mono HAA.out.size)).cell (p := ⟨b, o + i, none⟩) hb).trans hc
     clear hc
     go_wp2_with fail
     have hpk : Calls Try.prog 10 #[.int .i64 c, .int .i64 ((m' : Int) + 1)] wr _ := pick_any c (m' + 1) wr hc1 hc2 (by omega) (by unfold maxLen; omega)
     refine hpk.mono ?_
     rintro r w2 ⟨rfl, hw2⟩
     obtain rfl : wr = w2 := hw2.symm
     clear hw2
     go_wp2
     go_meet
     exact ⟨pickN c (m' + 1), by have := pickN_lt c (m' + 1) (by omega); omega, rfl, rfl⟩
    ·have hioI : ¬ (i : Int) < on := by omega
     go_wp2
     go_meet
     exact ⟨0, Nat.zero_le _, rfl, rfl⟩
   case rest =>
    obtain ⟨k, hk, rfl, hwx⟩ := hcut
    obtain rfl : wr = wc := hwx.symm
    clear hwx
    have hkI : (k : Int) ≤ m' := by omega
    have hke : k < es.length := by have := HLL.out; omega
    have hkl : k < ls.length := by have := HLL.out; omega
    have hjl : m' < ls.length := by have := HLL.out; omega
    have hje : m' < es.length := by have := HLL.out; omega
    obtain ⟨q0, q1⟩ := entsC_get es k hke
    have e0 : wr.cell? ⟨lb, k * 2, none⟩ = some (.slice es[k].1.a es[k].1.n es[k].1.cap) := RowV.cellP HF.out.g.row _ _ q0
    have e1 : wr.cell? ⟨lb, k * 2 + 1, none⟩ = some (.slice es[k].2.a es[k].2.n es[k].2.cap) := RowV.cellP HF.out.g.row _ _ q1
    have HX : Hid (BS wA es[k].1 ls[k].key ∧ BS wA es[k].2 ls[k].more) := HF.out.bs.2 k hke hkl
    have hgk : (ls.take (m' + 1))[k]'(by simp; omega) = ls[k] := List.getElem_take
    have HIN : Hid (ls[k] ∈ ls.take (m' + 1)) := by unfold Hid; rw [← hgk]; exact List.getElem_mem _
    have HINL : Hid (ls[k] ∈ l) := HF.out.sub _ HIN.out
    have HKY : Hid (keyOk ls[k].key = true) := HKO.out _ HINL.out
    have HVL : Hid (ls[k].more.length ≤ 12) := HS.out.val _ HINL.out
    have H60 : Hid (dg.its.length < 60) := by have := HF.out.put.len HPO.out.rise HINL.out HIN.out; unfold Hid; omega
    have HST : Hid (PutSo l ((ls.set k ls[m']).take m') (putL (putL dg.its ls[k].key [120]) ls[k].key ls[k].more) ∧ ((ls.set k ls[m']).take m').Nodup ∧ ∀ x ∈ (ls.set k ls[m']).take m', x ∈ l) := by
     have hkt : k < (ls.take (m' + 1)).length := by simp; omega
     have hst := PutSo.step HPO.out.rise hl60 HF.out.put HF.out.sub HF.out.nodup hkt (by rw [hgk]; exact HPO.out.norm _ HINL.out) (by rw [hgk]; exact HKY.out) (by rw [hgk]; exact HVL.out) (v0 := [120]) (by decide) H60.out
     have hlast : (ls.take (m' + 1))[(ls.take (m' + 1)).length - 1]'(by simp; omega) = ls[m'] := by
      rw [List.getElem_take]
      congr 1
      simp; omega
     have hnd := leftN_nodup HF.out.nodup hkt
     have hmem := fun y => leftN_mem HF.out.nodup hkt y
     rw [hlast, leftN_take (by omega), Nat.add_sub_cancel] at hst hnd
     simp only [hlast] at hmem
     rw [leftN_take (by omega), Nat.add_sub_cancel] at hmem
     rw [hgk] at hst
     exact ⟨hst, hnd, fun x hx => HF.out.sub x ((hmem x).1 hx).1⟩
    have HLX : Hid (∀ z : Nat, z < wA.heap.size → z ≠ lb) := fun z hz e => by have := HF.out.g.ge; omega
    obtain ⟨its2, hits2⟩ : ∃ its2, its2 = putL (putL dg.its ls[k].key [120]) ls[k].key ls[k].more := ⟨_, rfl⟩
    have HIT2 : Hid (its2 = putL (putL dg.its ls[k].key [120]) ls[k].key ls[k].more) := hits2
    clear q0 q1 hgk hits2
    generalize es[k].1 = s1 at *
    generalize es[k].2 = s2 at *
    generalize ls[k] = it at *
    have k120 : (convert 35 35 (.slice (some ⟨wr.heap.size + 1, 0, none⟩) 1 1)).run Try.prog ((wr.alloc (.cells #[.slice s1.a s1.n s1.cap, .slice s2.a s2.n s2.cap] 37)).alloc (.cells #[.int .u8 120] 5)) = .ok (.slice (some ⟨wr.heap.size + 1, 0, none⟩) 1 1) ((wr.alloc (.cells #[.slice s1.a s1.n s1.cap, .slice s2.a s2.n s2.cap] 37)).alloc (.cells #[.int .u8 120] 5 (1, 2))) := by
     have h := Lib.run_convert_bytes_const (P := Try.prog) (wr.alloc (.cells #[.slice s1.a s1.n s1.cap, .slice s2.a s2.n s2.cap] 37)) 35 5 #[.int .u8 120] 1 1 Try.underlying35 Try.underlying5
     simpa using h
    have HB2 : Hid (Below wr.heap.size wr ((wr.alloc (.cells #[.slice s1.a s1.n s1.cap, .slice s2.a s2.n s2.cap] 37)).alloc (.cells #[.int .u8 120] 5 (1, 2)))) := ((Below.refl _ _).alloc (Nat.le_refl _) _).alloc (by simp) _
    have HXR : Hid (RowV ((wr.alloc (.cells #[.slice s1.a s1.n s1.cap, .slice s2.a s2.n s2.cap] 37)).alloc (.cells #[.int .u8 120] 5 (1, 2))) wr.heap.size 37 [.slice s1.a s1.n s1.cap, .slice s2.a s2.n s2.cap]) := RowV.alloc (RowV.new wr _ _) _
    have HVX : Hid (BS ((wr.alloc (.cells #[.slice s1.a s1.n s1.cap, .slice s2.a s2.n s2.cap] 37)).alloc (.cells #[.int .u8 120] 5 (1, 2))) ⟨some ⟨wr.heap.size + 1, 0, none⟩, 1, 1⟩ [120]) := by
     have h := bs_one (wr.alloc (.cells #[.slice s1.a s1.n s1.cap, .slice s2.a s2.n s2.cap] 37)) 120 5 (1, 2)
     unfold Hid; simpa using h
    have HLW : Hid (lb < wr.heap.size ∧ ∀ z, dg.M z → z < wr.heap.size) := ⟨HF.out.g.row.lt, HF.out.g.hou.at_.ltM⟩
    have HG2 : Hid (GSt wA gb lb es dg.its dg ((wr.alloc (.cells #[.slice s1.a s1.n s1.cap, .slice s2.a s2.n s2.cap] 37)).alloc (.cells #[.int .u8 120] 5 (1, 2)))) := HF.out.g.below HB2.out
    have HP1 : Hid (Calls _ _ _ _ _) := HG2.out.put s1 ⟨some ⟨wr.heap.size + 1, 0, none⟩, 1, 1⟩ it.key [120] (HG2.out.hou.old HX.out.1).1 HVX.out HKY.out (by decide) (fun z hz => by
     rcases hz with hz | ⟨x, hx, rfl⟩
     ·refine ⟨(HG2.out.hou.old HX.out.1).2 z hz, HLX.out z ?_⟩
      obtain ⟨x, hx, rfl⟩ := hz
      exact HX.out.1.lt x hx
     ·cases hx
      exact ⟨fun hm => by have := HLW.out.2 _ hm; simp at this; omega, fun e => by have := HLW.out.1; simp at e; omega⟩)
    clear HVX
    go_wp2_with fail
    refine HP1.out.mono ?_
    rintro r w5 ⟨rfl, d5, G5, hf5⟩
    have HG5 : Hid (GSt wA gb lb es (putL dg.its it.key [120]) d5 w5) := G5
    have HX5 : Hid (RowV w5 wr.heap.size 37 [.slice s1.a s1.n s1.cap, .slice s2.a s2.n s2.cap]) := HXR.out.of_block (hf5.block _ HXR.out.lt (fun hm => by have := HLW.out.2 _ hm; omega))
    clear G5 hf5 k120 HP1 HXR HG2 e0 e1
    have x0c : w5.cell? ⟨wr.heap.size, 0, none⟩ = some (.slice s1.a s1.n s1.cap) := RowV.cell? HX5.out 0
    have x1c : w5.cell? ⟨wr.heap.size, 1, none⟩ = some (.slice s2.a s2.n s2.cap) := RowV.cell? HX5.out 1
    have HP2 : Hid (Calls _ _ _ _ _) := HG5.out.put s1 s2 it.key it.more (HG5.out.hou.old HX.out.1).1 (HG5.out.hou.old HX.out.2).1 HKY.out HVL.out (fun z hz => by
     rcases hz with hz | hz
     ·refine ⟨(HG5.out.hou.old HX.out.1).2 z hz, HLX.out z ?_⟩
      obtain ⟨x, hx, rfl⟩ := hz
      exact HX.out.1.lt x hx
     ·refine ⟨(HG5.out.hou.old HX.out.2).2 z hz, HLX.out z ?_⟩
      obtain ⟨x, hx, rfl⟩ := hz
      exact HX.out.2.lt x hx)
    go_wp2_with fail
    refine HP2.out.mono ?_
    rintro r w6 ⟨rfl, d6, G6, hf6⟩
    have HG6 : Hid (GSt wA gb lb es its2 d6 w6) := by unfold Hid; rw [HIT2.out]; exact G6
    clear G6 hf6 HP2 x0c x1c HX5 HG5
    have hnw : d6.nw.n = its2.length := by
     have h := HG6.out.hou.at_.now
     have h1 := (SlV.ofOwn (s := d6.nw) h.own).2
     rw [h1, h.len, HG6.out.its]
    have n1c : w6.cell? ⟨gb, 1, none⟩ = some (.slice d6.nw.a its2.length d6.nw.cap) := by
     have h : w6.cell? ⟨d6.hb, 1, none⟩ = some d6.nw.val := RowV.cell? HG6.out.hou.at_.row 1
     rw [HG6.out.hb] at h
     rw [h]; unfold SlR.val; rw [hnw]
    have hN60 : its2.length ≤ 60 := by
     have h := HG6.out.hou.at_.sto.len
     rw [HG6.out.its] at h
     exact h
    have hN60I : (its2.length : Int) ≤ 60 := by omega
    clear hnw
    go_upto_region 21 with fail
    go_cut [103] (fun cv wx => ∃ c : Bool, cv = .bool c ∧ Hid (c = true → its2.length < 60) ∧ wx = w6)
    case first =>
     have h3 : Int.tmod (i : Int) 3 = ((i % 3 : Nat) : Int) := by
      have := tmod_nat i 3
      simpa using this
     by_cases h30 : i % 3 = 0
     ·have h3b : ((i : Int).tmod 3 == 0) = true := by rw [h3, h30]; rfl
      clear h3
      go_wp2
      go_meet
      exact ⟨_, rfl, fun h => (by have h' : (its2.length : Int) < 60 := (by simpa using h); omega), rfl⟩
     ·have h3b : ((i : Int).tmod 3 == 0) = false := by rw [h3, Bool.eq_false_iff]; simp only [ne_eq, beq_iff_eq]; omega
      clear h3
      go_wp2
      go_meet
      exact ⟨false, rfl, fun h => (by cases h), rfl⟩
    case rest =>
     obtain ⟨c, rfl, HC, hwx⟩ := hcut
     obtain rfl : w6 = wc := hwx.symm
     clear hwx n1c
     go_upto_if 103 with fail
     go_cut [] (fun wx => ∃ d7 : HouD, Hid (GSt wA gb lb es its2 d7 wx))
     case first =>
      cases c with
      | false =>
       go_wp2
       go_meet
       exact ⟨d6, HG6⟩
      | true =>
       have HN60 : Hid (its2.length < 60) := HC.out rfl
       have HKZ : Hid (∀ W : World, (convert 35 35 (.slice (some ⟨W.heap.size, 0, none⟩) 2 2)).run Try.prog (W.alloc (.cells #[.int .u8 122, .int .u8 122] 5)) = .ok (.slice (some ⟨W.heap.size, 0, none⟩) 2 2) (W.alloc (.cells #[.int .u8 122, .int .u8 122] 5 (2, 3)))) := fun W => Lib.run_convert_bytes_const (P := Try.prog) W 35 5 #[.int .u8 122, .int .u8 122] 2 2 Try.underlying35 Try.underlying5
       have HBZ : Hid (∀ W : World, BS (W.alloc (.cells #[.int .u8 122, .int .u8 122] 5 (2, 3))) ⟨some ⟨W.heap.size, 0, none⟩, 2, 2⟩ [122, 122]) := fun W => bs_two W 122 122 5 (2, 3)
       have kz := HKZ.out w6
       have HB7 : Hid (Below w6.heap.size w6 (w6.alloc (.cells #[.int .u8 122, .int .u8 122] 5 (2, 3)))) := (Below.refl _ _).alloc (Nat.le_refl _) _
       have HEV7 := HEV.out (w6.alloc (.cells #[.int .u8 122, .int .u8 122] 5 (2, 3))) (HBA.out.trans ((HG6.out.hou.bel.trans (HB7.out.mono HG6.out.hou.bel.size)).mono HBA.out.size))
       have HSD : Hid (Calls _ _ _ _ _) := stood_any ⟨la, l.length, lc⟩ ⟨some ⟨w6.heap.size, 0, none⟩, 2, 2⟩ nes l [122, 122] (w6.alloc (.cells #[.int .u8 122, .int .u8 122] 5 (2, 3))) HEV7.sl HEV7.n HEV7.bs (HBZ.out w6) hl60
       unfold SlR.val at HSD
       clear HEV7
       go_wp2_with fail
       refine HSD.out.mono ?_
       rintro r w8 ⟨x8, rfl, bs8, hb8⟩
       have HG8 : Hid (GSt wA gb lb es its2 d6 w8) := HG6.out.below (HB7.out.trans (hb8.mono HB7.out.size))
       clear bs8 hb8 kz HSD
       cases hfb : (findM [122, 122] l).isSome with
       | true =>
        go_wp2
        go_meet
        exact ⟨d6, HG8.out.below ((Below.refl _ _).alloc (Nat.le_refl _) _)⟩
       | false =>
        have HNZ : Hid (∀ x ∈ its2, x.key ≠ [122, 122]) := fun x hx e => by
         have h1 := HST.out.1
         rw [← HIT2.out] at h1
         have h2 := ((h1.mem x).1 hx).1
         have h3 : findM [122, 122] l = none := by simpa using hfb
         unfold findM at h3
         have h4 := List.find?_eq_none.1 (Option.map_eq_none_iff.1 h3) x h2
         simp [e] at h4
        have HRI : Hid (Rising its2) := by have h1 := HST.out.1; rw [← HIT2.out] at h1; exact h1.rise
        have HB9 : Hid (Below w8.heap.size w8 ((w8.alloc (.cells #[.bool false, .slice x8.a x8.n x8.cap] 40)).alloc (.cells #[.int .u8 122, .int .u8 122] 5 (2, 3)))) := ((Below.refl _ _).alloc (Nat.le_refl _) _).alloc (by simp) _
        have HG9 : Hid (GSt wA gb lb es its2 d6 ((w8.alloc (.cells #[.bool false, .slice x8.a x8.n x8.cap] 40)).alloc (.cells #[.int .u8 122, .int .u8 122] 5 (2, 3)))) := HG8.out.below HB9.out
        have HA9 : Hid (RowV ((w8.alloc (.cells #[.bool false, .slice x8.a x8.n x8.cap] 40)).alloc (.cells #[.int .u8 122, .int .u8 122] 5 (2, 3))) w8.heap.size 40 [.bool false, .slice x8.a x8.n x8.cap]) := RowV.alloc (RowV.new w8 _ _) _
        have kz : (convert 35 35 (.slice (some ⟨w8.heap.size + 1, 0, none⟩) 2 2)).run Try.prog ((w8.alloc (.cells #[.bool false, .slice x8.a x8.n x8.cap] 40)).alloc (.cells #[.int .u8 122, .int .u8 122] 5)) = .ok (.slice (some ⟨w8.heap.size + 1, 0, none⟩) 2 2) ((w8.alloc (.cells #[.bool false, .slice x8.a x8.n x8.cap] 40)).alloc (.cells #[.int .u8 122, .int .u8 122] 5 (2, 3))) := by
         have h := HKZ.out (w8.alloc (.cells #[.bool false, .slice x8.a x8.n x8.cap] 40))
         simpa using h
        have HZ9 : Hid (BS ((w8.alloc (.cells #[.bool false, .slice x8.a x8.n x8.cap] 40)).alloc (.cells #[.int .u8 122, .int .u8 122] 5 (2, 3))) ⟨some ⟨w8.heap.size + 1, 0, none⟩, 2, 2⟩ [122, 122]) := by
         have h := HBZ.out (w8.alloc (.cells #[.bool false, .slice x8.a x8.n x8.cap] 40))
         unfold Hid; simpa using h
        have HLW8 : Hid (lb < w8.heap.size ∧ ∀ z, d6.M z → z < w8.heap.size) := ⟨HG8.out.row.lt, HG8.out.hou.at_.ltM⟩
        have HP9 : Hid (Calls _ _ _ _ _) := HG9.out.put ⟨some ⟨w8.heap.size + 1, 0, none⟩, 2, 2⟩ ⟨none, 0, 0⟩ [122, 122] [] HZ9.out ⟨SlB.nil _ _, rfl, fun _ => rfl, fun x hx => (by cases hx)⟩ (by decide) (by decide) (fun z hz => by
         rcases hz with ⟨x, hx, rfl⟩ | ⟨x, hx, rfl⟩
         ·cases hx
          exact ⟨fun hm => by have := HLW8.out.2 _ hm; simp at this; omega, fun e => by have := HLW8.out.1; simp at e; omega⟩
         ·cases hx)
        go_wp2_with fail
        refine HP9.out.mono ?_
        rintro r w11 ⟨rfl, d11, G11, hf11⟩
        have HG11 : Hid (GSt wA gb lb es (putL its2 [122, 122] []) d11 w11) := G11
        have HA11 : Hid (RowV w11 w8.heap.size 40 [.bool false, .slice x8.a x8.n x8.cap]) := HA9.out.of_block (hf11.block _ HA9.out.lt (fun hm => by have := HLW8.out.2 _ hm; omega))
        have a0 : w11.cell? ⟨w8.heap.size, 0, none⟩ = some (.bool false) := RowV.cell? HA11.out 0
        clear G11 hf11 kz HP9
        have kz := HKZ.out w11
        have HTK : Hid (Calls _ _ _ _ _) := (HG11.out.below ((Below.refl _ _).alloc (Nat.le_refl _) (.cells #[.int .u8 122, .int .u8 122] 5 (2, 3)))).take ⟨some ⟨w11.heap.size, 0, none⟩, 2, 2⟩ [122, 122] (HBZ.out w11) (by decide)
        rw [put_del HRI.out (by decide) (by decide) HN60.out HNZ.out] at HTK
        go_wp2_with fail
        refine HTK.out.mono ?_
        rintro r w12 ⟨rfl, d12, G12, _⟩
        go_wp2
        go_meet
        exact ⟨d12, G12⟩
     case rest =>
      obtain ⟨d7, HG7⟩ := hcut
      obtain ⟨q0, q1⟩ := entsC_get es k hke
      obtain ⟨q2, q3⟩ := entsC_get es m' hje
      have e0 : wc.cell? ⟨lb, k * 2, none⟩ = some (.slice es[k].1.a es[k].1.n es[k].1.cap) := RowV.cellP HG7.out.row _ _ q0
      have e1 : wc.cell? ⟨lb, k * 2 + 1, none⟩ = some (.slice es[k].2.a es[k].2.n es[k].2.cap) := RowV.cellP HG7.out.row _ _ q1
      have e2 : wc.cell? ⟨lb, m' * 2, none⟩ = some (.slice es[m'].1.a es[m'].1.n es[m'].1.cap) := RowV.cellP HG7.out.row _ _ q2
      have e3 : wc.cell? ⟨lb, m' * 2 + 1, none⟩ = some (.slice es[m'].2.a es[m'].2.n es[m'].2.cap) := RowV.cellP HG7.out.row _ _ q3
      have z0 := HG7.out.row.frozen (k * 2)
      have z1 := HG7.out.row.frozen (k * 2 + 1)
      have hml : m' ≤ l.length := by omega
      have HFIN : Hid (FixSt wA l gb lb m' (es.set k es[m']) (ls.set k ls[m']) d7 ((wc.setCell ⟨lb, k * 2, none⟩ (.slice es[m'].1.a es[m'].1.n es[m'].1.cap)).setCell ⟨lb, k * 2 + 1, none⟩ (.slice es[m'].2.a es[m'].2.n es[m'].2.cap))) := by
       have hg := HG7.out.move k m' hke hje
       have hi := HG7.out.its
       have hp := HST.out
       rw [← HIT2.out, ← hi] at hp
       rw [← hi] at hg
       exact ⟨hg, HF.out.bs.set k m' hje hjl, by simp; omega, hp.1, hp.2.1, hp.2.2⟩
      clear q0 q1 q2 q3
      go_wp2
      refine ⟨⟨i + 1, m', es.set k es[m'], ls.set k ls[m'], d7, by omega, by go_num, rfl, ⟨by simp; exact HLL.out.1, by simp; exact HLL.out.2⟩, HFIN⟩, by simp [leftLen]⟩
  ·obtain rfl : m = 0 := by omega
   have hit : dg.its = l := PutSo.done HPO.out.rise (by have := HF.out.put; simpa using this)
   have hpp0 : dg.pp = [] := List.eq_nil_of_length_eq_zero (by rw [HF.out.g.hou.lens.1, HF.out.g.tds]; rfl)
   have HCM : Hid (Calls _ _ _ _ _) := hou_commit HF.out.g.hou
   rw [HF.out.g.hb] at HCM
   clear hm0
   go_wp2_with fail
   refine HCM.out.mono ?_
   rintro r w4 ⟨rfl, d4, H4, hhb4, hits4, h14, hpp4, hf4⟩
   rw [HF.out.g.tds, if_pos (by decide), hpp0, hit, List.nil_append] at hpp4
   rw [hit] at hits4
   have HH4 : Hid (Hou wA d4 w4) := H4
   have HP4 : Hid (d4.pp = [l]) := hpp4
   have HI4 : Hid (d4.its = l) := hits4
   have HB4 : Hid (Below w1.heap.size w1 w4) := HBA.out.trans (H4.bel.mono HBA.out.size)
   obtain ⟨g2, g2', y0, y1, y2, y3, y4, y5, y6, y7, m0, m2, f3, mp, hry, m8, m9, f4, f5, f6, f7, f8, f9, f10, f11⟩ := hou_cells H4 (e := 0) (by rw [hpp4]; simp)
   have hroot : rootB (d4.pp[0]'(by rw [hpp4]; simp)) = rootB l := by congr 1; simp only [hpp4]; rfl
   rw [hroot, HRX.out] at hry
   simp only [List.cons.injEq, and_true] at hry
   obtain ⟨rfl, rfl, rfl, rfl, rfl, rfl, rfl, rfl⟩ := hry
   have hlen4 : d4.pp.length = 1 := by rw [hpp4]; rfl
   have hhb4' : d4.hb = gb := hhb4
   rw [hlen4, hhb4'] at f3
   simp only [Nat.zero_mul, Nat.zero_add, Nat.reduceAdd] at f4 f5 f6 f7 f8 f9 f10 f11
   have HHB4 : Hid (d4.hb = gb) := hhb4'
   obtain ⟨p3, r0, r1, r2, r3, r4, r5, r6, r7⟩ := HCE.out _ HB4.out
   have heq : ∀ W, (Op.equalIn 10000 45 (Value.agg #[Value.int .u8 (x0.toNat : Int), Value.int .u8 (x1.toNat : Int), Value.int .u8 (x2.toNat : Int), Value.int .u8 (x3.toNat : Int), Value.int .u8 (x4.toNat : Int), Value.int .u8 (x5.toNat : Int), Value.int .u8 (x6.toNat : Int), Value.int .u8 (x7.toNat : Int)]) (Value.agg #[Value.int .u8 (x0.toNat : Int), Value.int .u8 (x1.toNat : Int), Value.int .u8 (x2.toNat : Int), Value.int .u8 (x3.toNat : Int), Value.int .u8 (x4.toNat : Int), Value.int .u8 (x5.toNat : Int), Value.int .u8 (x6.toNat : Int), Value.int .u8 (x7.toNat : Int)])).run Try.prog W = .ok true W := fun W => by
    have h := run_equalIn_bytes (P := Try.prog) W 9998 45 5 8 Try.underlying45 Try.underlying5 Try.sizeU8 [x0, x1, x2, x3, x4, x5, x6, x7] [x0, x1, x2, x3, x4, x5, x6, x7] rfl rfl
    rw [show (([x0, x1, x2, x3, x4, x5, x6, x7] : List UInt8) == [x0, x1, x2, x3, x4, x5, x6, x7]) = true from by simp] at h
    exact h
   clear m0 m2 mp m8 m9
   clear H4 hpp4 hits4 hhb4 hhb4' hlen4 hroot hf4 h14 hit hpp0 HCM HF HG3
   go_wp2_with fail
   go_quiet (fail)
   have HB5 : Hid (Below w4.heap.size w4 (w4.drewN nq)) := bel_drewN w4 nq
   have HH5 : Hid (Hou wA d4 (w4.drewN nq)) := HH4.out.below HB5.out
   have HBQ : Hid (Below w1.heap.size w1 (w4.drewN nq)) := HB4.out.trans (HB5.out.mono HB4.out.size)
   clear p3 r0 r1 r2 r3 r4 r5 r6 r7 f3 f4 f5 f6 f7 f8 f9 f10 f11 heq HB5 HH4 HB4
   generalize w4.drewN nq = wq at *
   by_cases hl0 : 0 < l.length
   ·have hl0I : (0 : Int) < l.length := by omega
    obtain ⟨b, o, hla, hbb, z0, z1⟩ := entsC_cells (HEV.out w1 (Below.refl _ _)).sl 0 (by rw [hnl]; exact hl0)
    simp only at hla
    subst hla
    have hne0 : 0 < nes.length := by rw [hnl]; exact hl0
    have HCK : Hid (∀ W, Below w1.heap.size w1 W → W.cell? ⟨b, o, none⟩ = some (.slice nes[0].1.a nes[0].1.n nes[0].1.cap)) := fun W hW => (hW.cell (p := ⟨b, o, none⟩) hbb).trans (by simpa [SlR.val] using z0)
    have HBK : Hid (BS w1 nes[0].1 l[0].key) := ((HEV.out w1 (Below.refl _ _)).bs.2 0 hne0 hl0).1
    have HOKK : Hid (keyOk l[0].key = true) := HKO.out _ (List.getElem_mem hl0)
    clear z0 z1
    generalize nes[0].1 = s0 at *
    generalize l[0].key = key at *
    have ck := HCK.out _ HBQ.out
    have HTK : Hid (Calls _ _ _ _ _) := hou_take HH5.out s0 key (HBK.out.below HBQ.out) HOKK.out
    rw [HHB4.out, HI4.out] at HTK
    unfold SlR.val at HTK
    go_wp2_with fail
    refine HTK.out.mono ?_
    rintro r w5 ⟨rfl, d5, H5, hhb5, hits5, htds5, hpp5, _⟩
    have ht5 : d5.tds.length < 40 := by rw [htds5, ← HH5.out.lens.1, HP4.out]; simp
    have HCM : Hid (Calls _ _ _ _ _) := hou_commit H5
    rw [hhb5, if_pos ht5, hpp5, HP4.out, hits5] at HCM
    clear H5 hhb5 hits5 htds5 hpp5 ht5 HTK ck
    go_wp2_with fail
    refine HCM.out.mono ?_
    rintro r w6 ⟨rfl, d6, H6, hhb6, _, _, hpp6, _⟩
    have hlt6 : 1 < d6.pp.length := by rw [hpp6]; simp
    have hp1 : d6.pp[1] = delL l key := by simp only [hpp6]; rfl
    obtain ⟨g6, g6', z0, z1, z2, z3, z4, z5, z6, z7, c0, m2, c3, mp, hrz, hg6, m9, k0, k1, k2, k3, k4, k5, k6, k7⟩ := hou_cells H6 hlt6
    rw [hp1] at hrz
    have hlen6 : d6.pp.length = 2 := by rw [hpp6]; rfl
    rw [hlen6, hhb6] at c3
    rw [hhb6] at c0
    simp only [Nat.one_mul, Nat.reduceAdd] at k0 k1 k2 k3 k4 k5 k6 k7
    have HS6 : Hid (Stood (delL l key)) := by have h := H6.stood hlt6; rw [hp1] at h; exact h
    have HRZ : Hid (rootB (delL l key) = [z0, z1, z2, z3, z4, z5, z6, z7]) := hrz
    have hgb6 : gb < w6.heap.size := by have h := H6.at_.row.lt; rw [hhb6] at h; exact h
    have HC6 : Hid (∀ W, Below w6.heap.size w6 W → W.cell? ⟨gb, 0, none⟩ = some (.pointer (some ⟨d6.sb, 0, none⟩)) ∧ W.cell? ⟨gb, 3, none⟩ = some (.slice (some ⟨g6, 0, none⟩) 2 d6.dn.cap) ∧ W.cell? ⟨g6, 19, none⟩ = some (.int .u8 (z0.toNat : Int)) ∧ W.cell? ⟨g6, 20, none⟩ = some (.int .u8 (z1.toNat : Int)) ∧ W.cell? ⟨g6, 21, none⟩ = some (.int .u8 (z2.toNat : Int)) ∧ W.cell? ⟨g6, 22, none⟩ = some (.int .u8 (z3.toNat : Int)) ∧ W.cell? ⟨g6, 23, none⟩ = some (.int .u8 (z4.toNat : Int)) ∧ W.cell? ⟨g6, 24, none⟩ = some (.int .u8 (z5.toNat : Int)) ∧ W.cell? ⟨g6, 25, none⟩ = some (.int .u8 (z6.toNat : Int)) ∧ W.cell? ⟨g6, 26, none⟩ = some (.int .u8 (z7.toNat : Int))) := fun W hW => ⟨(hW.cell (p := ⟨gb, 0, none⟩) hgb6).trans c0, (hW.cell (p := ⟨gb, 3, none⟩) hgb6).trans c3, (hW.cell (p := ⟨g6, 19, none⟩) hg6).trans k0, (hW.cell (p := ⟨g6, 20, none⟩) hg6).trans k1, (hW.cell (p := ⟨g6, 21, none⟩) hg6).trans k2, (hW.cell (p := ⟨g6, 22, none⟩) hg6).trans k3, (hW.cell (p := ⟨g6, 23, none⟩) hg6).trans k4, (hW.cell (p := ⟨g6, 24, none⟩) hg6).trans k5, (hW.cell (p := ⟨g6, 25, none⟩) hg6).trans k6, (hW.cell (p := ⟨g6, 26, none⟩) hg6).trans k7⟩
    have HB16 : Hid (Below w1.heap.size w1 w6) := HBA.out.trans (H6.bel.mono HBA.out.size)
    have HPRV : Hid (∀ W, Below w6.heap.size w6 W → Calls Try.prog 15 #[.pointer (some ⟨d6.sb, 0, none⟩), .int .i64 1, .slice s0.a s0.n s0.cap] W fun r w' => ∃ v : SlR, r = .returned (.tuple #[.slice v.a v.n v.cap, .int .i64 0]) ∧ OwnB w' W.heap.size v.val (prfB (delL l key) key key) ∧ Below W.heap.size W w') := fun W hW => by
     have h := hou_prove (H6.below hW) hlt6 s0 key (HBK.out.below (HB16.out.trans (hW.mono HB16.out.size))) HOKK.out
     rw [hp1] at h
     exact h
    have HGONE : Hid (findM key (delL l key) = none) := findM_gone HPO.out.rise HOKK.out
    have HFIN : Hid (Below w.heap.size w w6) := HAA.out.trans (H6.bel.mono HAA.out.size)
    have ck := HCK.out _ HB16.out
    clear m2 mp m9 k0 k1 k2 k3 k4 k5 k6 k7 c3 hrz hg6 hlen6 hp1 HCM H6 hhb6 hpp6 hlt6
    go_wp2
    go_region_held3 (fun W' => W'.cell? ⟨gb, 0, none⟩ = some (.pointer (some ⟨d6.sb, 0, none⟩)) ∧ W'.cell? ⟨b, o, none⟩ = some (.slice s0.a s0.n s0.cap)) (go_keep)
     ((go_at_call 15; refine (HPRV.out _ (by exact (Below.refl _ _).drew)).mono ?_; rintro r w7 ⟨vp, rfl, op7, hb7⟩; have HB67 : Hid (Below w6.heap.size w6 w7) := (Below.refl _ _).drew.trans hb7; have m0 := (HC6.out _ HB67.out).1; have m1 := HCK.out _ (HB16.out.trans (HB67.out.mono HB16.out.size))))
    have HP7 : Hid (BS w7 vp (prfB (delL l key) key key) ∧ vp.n ≤ vp.cap) := ownB_bs op7
    have HB17 : Hid (Below w1.heap.size w1 w7) := HB16.out.trans (HB67.out.mono HB16.out.size)
    have HCHK : Hid (∀ W, Below w7.heap.size w7 W → Calls Try.prog 16 #[.agg #[Value.int .u8 (z0.toNat : Int), Value.int .u8 (z1.toNat : Int), Value.int .u8 (z2.toNat : Int), Value.int .u8 (z3.toNat : Int), Value.int .u8 (z4.toNat : Int), Value.int .u8 (z5.toNat : Int), Value.int .u8 (z6.toNat : Int), Value.int .u8 (z7.toNat : Int)], .slice s0.a s0.n s0.cap, .slice vp.a vp.n vp.cap] W fun r w' => ∃ v : SlR, r = .returned (.tuple #[.agg #[.bool false, .slice v.a v.n v.cap], .int .i64 0]) ∧ Below W.heap.size W w') := fun W hW => by
     have h := hou_check HS6.out [z0, z1, z2, z3, z4, z5, z6, z7] HRZ.out.symm s0 vp key W (HBK.out.below (HB17.out.trans (hW.mono HB17.out.size))) HOKK.out (HP7.out.1.below hW) HP7.out.2
     rw [HGONE.out] at h
     refine h.mono ?_
     rintro r w' ⟨v, rfl, h1, _⟩
     exact ⟨v, rfl, h1⟩
    obtain ⟨nz, n3, nr0, nr1, nr2, nr3, nr4, nr5, nr6, nr7⟩ := HC6.out _ HB67.out
    have nk := HCK.out _ HB17.out
    clear op7 hb7 m0 m1 c0 ck
    have ne1 : w7.heap.size ≠ gb := World.new_ne w7 _ n3
    have ne2 : w7.heap.size ≠ g6 := World.new_ne w7 _ nr0
    have ne3 : w7.heap.size ≠ b := World.new_ne w7 _ nk
    go_wp2
    go_cut [20, 21] (fun av ev wx => ∃ (ab : Nat) (x7 : SlR), av = .pointer (some ⟨ab, 0, none⟩) ∧ ev = .int .i64 0 ∧ Hid (Below w7.heap.size w7 wx) ∧ Hid (RowV wx ab 40 [.bool false, .slice x7.a x7.n x7.cap]))
    case first =>
     go_region_held3 (fun W' => W'.cell? ⟨gb, 3, none⟩ = some (.slice (some ⟨g6, 0, none⟩) 2 d6.dn.cap) ∧ W'.cell? ⟨g6, 19, none⟩ = some (.int .u8 (z0.toNat : Int)) ∧ W'.cell? ⟨g6, 20, none⟩ = some (.int .u8 (z1.toNat : Int)) ∧ W'.cell? ⟨g6, 21, none⟩ = some (.int .u8 (z2.toNat : Int)) ∧ W'.cell? ⟨g6, 22, none⟩ = some (.int .u8 (z3.toNat : Int)) ∧ W'.cell? ⟨g6, 23, none⟩ = some (.int .u8 (z4.toNat : Int)) ∧ W'.cell? ⟨g6, 24, none⟩ = some (.int .u8 (z5.toNat : Int)) ∧ W'.cell? ⟨g6, 25, none⟩ = some (.int .u8 (z6.toNat : Int)) ∧ W'.cell? ⟨g6, 26, none⟩ = some (.int .u8 (z7.toNat : Int)) ∧ W'.cell? ⟨b, o, none⟩ = some (.slice s0.a s0.n s0.cap)) (go_keep)
      ((go_at_call 16; first | (refine (HCHK.out _ (by exact (Below.refl _ _).drew)).mono ?_; rintro r w8 ⟨va8, rfl, hb8⟩; have HB78 : Hid (Below w7.heap.size w7 w8) := (Below.refl _ _).drew.trans hb8; obtain ⟨oz, o3, or0, or1, or2, or3, or4, or5, or6, or7⟩ := HC6.out _ (HB67.out.trans (HB78.out.mono HB67.out.size)); have ok := HCK.out _ (HB17.out.trans (HB78.out.mono HB17.out.size))) | (refine (HCHK.out _ (by exact ((Below.refl _ _).alloc (Nat.le_refl _) _).drew)).mono ?_; rintro r w8 ⟨va8, rfl, hb8⟩; have HB78 : Hid (Below w7.heap.size w7 w8) := Below.trans (((Below.refl _ _).alloc (Nat.le_refl _) _).drew) (hb8.mono (by simp)); have hT8 : RowV w8 w7.heap.size 40 [.bool false, .slice none 0 0] := RowV.below (by exact (RowV.new w7 40 [.bool false, .slice none 0 0])) (by simp) hb8; have y0 : w8.cell? ⟨w7.heap.size, 0, none⟩ = some (.bool false) := RowV.cell? hT8 0; have y1 : w8.cell? ⟨w7.heap.size, 1, none⟩ = some (.slice none 0 0) := RowV.cell? hT8 1; have y2 : w8.frozen? ⟨w7.heap.size, 0, none⟩ = false := RowV.frozen hT8 0; have y3 : w8.frozen? ⟨w7.heap.size, 1, none⟩ = false := RowV.frozen hT8 1; obtain ⟨oz, o3, or0, or1, or2, or3, or4, or5, or6, or7⟩ := HC6.out _ (HB67.out.trans (HB78.out.mono HB67.out.size)); have ok := HCK.out _ (HB17.out.trans (HB78.out.mono HB17.out.size)))))
     all_goals
      go_wp2
      go_meet
      first
       | exact ⟨w8.heap.size, va8, rfl, rfl, HB78.out.alloc HB78.out.size _, RowV.new w8 40 [.bool false, .slice va8.a va8.n va8.cap]⟩
       | (have hfs : Frame (fun k => k = w7.heap.size) w8 ((w8.setCell ⟨w7.heap.size, 0, none⟩ (.bool false)).setCell ⟨w7.heap.size, 1, none⟩ (.slice va8.a va8.n va8.cap)) := Frame.setCell (S := fun k => k = w7.heap.size) (Frame.setCell (S := fun k => k = w7.heap.size) (Frame.refl _ _) (p := ⟨w7.heap.size, 0, none⟩) rfl _) (p := ⟨w7.heap.size, 1, none⟩) rfl _; exact ⟨w7.heap.size, va8, rfl, rfl, HB78.out.trans (hfs.below HB78.out.size (fun k hk => by rw [hk]; exact Nat.le_refl _)), (hT8.set 0 _).set 1 _⟩)
    case rest =>
     obtain ⟨ab, x7, rfl, rfl, HBz, HRz⟩ := hcut
     have a0 : wc.cell? ⟨ab, 0, none⟩ = some (.bool false) := RowV.cell? HRz.out 0
     clear nz n3 nr0 nr1 nr2 nr3 nr4 nr5 nr6 nr7 nk ne1 ne2 ne3
     go_wp2
     go_ret
     exact ⟨rfl, HFIN.out.trans ((HB67.out.trans (HBz.out.mono HB67.out.size)).mono HFIN.out.size)⟩
   ·have hl0I : ¬ (0 : Int) < l.length := by omega
    go_wp2
    go_ret
    exact ⟨rfl, HAA.out.trans (HH5.out.bel.mono HAA.out.size)⟩
end Go.Proofs.Ytekegfbjbainhaa
