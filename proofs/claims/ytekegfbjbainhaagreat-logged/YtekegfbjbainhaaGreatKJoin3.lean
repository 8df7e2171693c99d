import Derived.Test.YtekegfbjbainhaaGreatKJoin2
import Derived.Deep.RegionLaw
import Derived.Deep.DrawnRows
set_option linter.unusedVariables false
set_option linter.unusedSimpArgs false

namespace Go.Proofs.YtekegfbjbainhaaGreat
open Go.RowKit
def partF (level : Nat) : List ItR → List ItR → List (List ItR)
 | [], cur => [cur]
 | x :: r, cur => if (endB level x.key && !r.isEmpty) = true then (cur ++ [x]) :: partF level r [] else partF level r (cur ++ [x])
def partedN (level : Nat) (l : List ItR) : List (List ItR) := partF level l []
structure SlR where
 a : Option Addr
 n : Nat
 cap : Nat
def SlR.val (s : SlR) : Value := .slice s.a s.n s.cap
def pgC (level : Nat) (q : SlR × List ItR) : List Value := [.int .i64 (level : Int), q.1.val]
def pgsC (level : Nat) (ps : List (SlR × List ItR)) : List Value := ps.flatMap (pgC level)
theorem pgsC_length (level : Nat) (ps : List (SlR × List ItR)) : (pgsC level ps).length = ps.length * 2 := flat_length (pgC level) 2 ps (fun _ _ => rfl)
theorem pgsC_append (level : Nat) (ps qs : List (SlR × List ItR)) : pgsC level (ps ++ qs) = pgsC level ps ++ pgsC level qs := by simp [pgsC]
theorem pgsC_one (level : Nat) (ps : List (SlR × List ItR)) : ∀ u ∈ pgsC level ps, u.oneCell' = true := fun u hu => by
 obtain ⟨x, _, hx⟩ := List.mem_flatMap.1 hu
 simp only [pgC, SlR.val, List.mem_cons, List.not_mem_nil, or_false] at hx
 rcases hx with rfl | rfl <;> rfl
def OwnP (w : World) (base : Nat) (v : Value) (level : Nat) (ps : List (SlR × List ItR)) : Prop := w.ownsRow base 80 2 v ps.length (pgsC level ps)
theorem Tryz.infoPage : (Tryz.prog.info? 80).map (fun i => (i.zero, i.size, i.bytes)) = some (some (.agg #[.int .i64 0, .slice none 0 0]), 2, 32) := by kernel_rfl
def PgOk (w : World) (base : Nat) (q : SlR × List ItR) : Prop := OwnI w base q.1.val q.2
def PgsOk (w : World) (base : Nat) (v : Value) (ps : List (SlR × List ItR)) : Prop := ∀ q ∈ ps, PgOk w base q ∧ (∀ k, q.1.val.ownBlock = some k → v.ownBlock ≠ some k)
theorem PgOk.frame {w w' : World} {S : Nat → Prop} {base : Nat} {q : SlR × List ItR} (h : PgOk w base q) (hf : Frame S w w') (hS : ∀ k, q.1.val.ownBlock = some k → ¬ S k) : PgOk w' base q := owns_frame h hf hS
theorem wp_appendP {w : World} {ops : Array Oper} {rest : List Oper} {o : Oper} {a : Act} {Q : Exit → Act → World → Prop} (hgd : o.guard = none) (s x : Operand)
  (ho : o.op = .call { callee := .builtin .append, args := #[s, x], argTypes := #[188, 188] })
  (base : Nat) (v : Value) (level : Nat) (ps : List (SlR × List ItR)) (hs : a.eval s = v) (hown : OwnP w base v level ps)
  (ad : Addr) (q : SlR × List ItR) (hx : a.eval x = .slice (some ad) 1 1) (hm : SlV w (some ad) (pgC level q))
  (hlen : ps.length ≤ 1000000) (hbase : base ≤ w.heap.size)
  (h : ∀ a' n' cap' w', OwnP w' base (.slice a' n' cap') level (ps ++ [q]) → Frame (fun k => v.ownBlock = some k) w w' → ((Value.slice a' n' cap').ownBlock = v.ownBlock ∨ (Value.slice a' n' cap').ownBlock = some w.heap.size) → wpList Tryz.prog ops Q rest (a.put o.dst (.slice a' n' cap')) w') :
  wpList Tryz.prog ops Q (o :: rest) a w := by
 have e : pgC level q = pgsC level [q] := by simp [pgsC]
 refine wp_appendV hgd s x 188 ho base 80 _ 2 32 Tryz.underlying188 Tryz.infoPage rfl (by decide) v ps.length (pgsC level ps) hs hown (some ad) 1 1 (pgsC level [q]) hx (pgsC_length level [q]) (by rw [← e]; exact hm) (fun h => by cases h) (pgsC_one level [q]) (by unfold maxLen; omega) (by omega) hbase ?_
 intro v' w' ho' hf hat
 rw [← pgsC_append] at ho'
 obtain ⟨a', cap', rfl, _⟩ := owns_form ho'
 refine h a' _ cap' w' ?_ hf hat
 unfold OwnP
 rw [List.length_append]
 exact ho'
theorem owns_ne2 {w : World} {base base' e e' size size' n n' : Nat} {v v' : Value} {xs xs' : List Value} (h : w.ownsRow base e size v n xs) (h' : w.ownsRow base' e' size' v' n' xs') (hne : e ≠ e') : ∀ k, v.ownBlock = some k → v'.ownBlock ≠ some k := by
 intro k hk hk'
 rcases h.2 with ⟨rfl, _⟩ | ⟨g, cap, cur, rfl, hg, hb, _⟩
 ·simp [Value.ownBlock] at hk
 rcases h'.2 with ⟨rfl, _⟩ | ⟨g', cap', cur', rfl, hg', hb', _⟩
 ·simp [Value.ownBlock] at hk'
 simp [Value.ownBlock] at hk hk'
 subst hk; subst hk'
 rw [hb] at hb'
 simp at hb'
 exact hne hb'.2
structure PartSt (w : World) (level : Nat) (W : World) (out cur : SlR) (ps : List (SlR × List ItR)) (curL : List ItR) : Prop where
 hb : Below w.heap.size w W
 hp : RowV W w.heap.size 80 [.int .i64 (level : Int), cur.val]
 ho : OwnP W (w.heap.size + 1) out.val level ps
 hc : OwnI W (w.heap.size + 1) cur.val curL
 hq : PgsOk W (w.heap.size + 1) cur.val ps
theorem PartSt.next {w W W' : World} {level : Nat} {out cur : SlR} {ps : List (SlR × List ItR)} {curL : List ItR} (h : PartSt w level W out cur ps curL) (hb : Below W.heap.size W W') : PartSt w level W' out cur ps curL :=
 ⟨h.hb.trans (hb.mono h.hb.size), h.hp.below h.hp.lt hb, owns_below h.ho hb, owns_below h.hc hb, fun q hq => ⟨owns_below (h.hq q hq).1 hb, (h.hq q hq).2⟩⟩
theorem PartSt.drew {w W : World} {level : Nat} {out cur : SlR} {ps : List (SlR × List ItR)} {curL : List ItR} (h : PartSt w level W out cur ps curL) : PartSt w level W.drew out cur ps curL :=
 ⟨h.hb.drew, h.hp, h.ho, h.hc, h.hq⟩
theorem PartSt.alloc {w W : World} {level : Nat} {out cur : SlR} {ps : List (SlR × List ItR)} {curL : List ItR} (h : PartSt w level W out cur ps curL) (o : Obj) : PartSt w level (W.alloc o) out cur ps curL :=
 h.next ((Below.refl _ _).alloc (Nat.le_refl _) o)
theorem PartSt.push {w W W1 : World} {level : Nat} {out cur cur' : SlR} {ps : List (SlR × List ItR)} {curL : List ItR} {x : ItR} (h : PartSt w level W out cur ps curL)
  (ho : OwnI W1 (w.heap.size + 1) cur'.val (curL ++ [x])) (hf : Frame (fun k => cur.val.ownBlock = some k) W W1) (hat : cur'.val.ownBlock = cur.val.ownBlock ∨ cur'.val.ownBlock = some W.heap.size) :
  PartSt w level (W1.setCell ⟨w.heap.size, 1, none⟩ cur'.val) out cur' ps (curL ++ [x]) := by
 have hp1 : RowV W1 w.heap.size 80 [.int .i64 (level : Int), cur.val] := h.hp.of_block (hf.block _ h.hp.lt (fun e => owns_ne h.hc h.hp (by decide) e))
 have hB1 : Below w.heap.size w W1 := h.hb.trans (hf.below (by have := h.hb.size; omega) (fun k hk => by have := (h.hc.lt k hk).1; omega))
 have hf2 : Frame (fun k => k = w.heap.size) W1 (W1.setCell ⟨w.heap.size, 1, none⟩ cur'.val) := (Frame.refl (fun k => k = w.heap.size) _).setCell (p := ⟨w.heap.size, 1, none⟩) rfl _
 have hout1 : OwnP W1 (w.heap.size + 1) out.val level ps := owns_frame h.ho hf (fun k hk e => owns_ne2 h.ho h.hc (by decide) k hk e)
 refine ⟨hB1.setCell (Nat.le_refl _) _, by simpa using hp1.set 1 cur'.val, ?_, ?_, ?_⟩
 ·exact owns_frame hout1 hf2 (fun k hk e => by have := (hout1.lt k hk).1; omega)
 ·exact owns_frame ho hf2 (fun k hk e => by have := (ho.lt k hk).1; omega)
 ·intro q hq
  obtain ⟨h1, h2⟩ := h.hq q hq
  have h1' : PgOk W1 (w.heap.size + 1) q := h1.frame hf (fun k hk e => h2 k hk e)
  refine ⟨h1'.frame hf2 (fun k hk e => by have := (h1'.lt k hk).1; omega), fun k hk e => ?_⟩
  rcases hat with hat | hat
  ·rw [hat] at e; exact h2 k hk e
  ·rw [hat] at e
   have := (h1.lt k hk).2
   cases e; omega
theorem PartSt.flush {w W W1 W2 : World} {level : Nat} {out out' cur : SlR} {ps : List (SlR × List ItR)} {curL : List ItR} (h : PartSt w level W out cur ps curL)
  (ho : OwnP W1 (w.heap.size + 1) out'.val level (ps ++ [(cur, curL)])) (hf : Frame (fun k => out.val.ownBlock = some k) W W1)
  (hp : RowV W2 w.heap.size 80 [.int .i64 (level : Int), .slice none 0 0]) (hf2 : Frame (fun k => k = w.heap.size) W1 W2) :
  PartSt w level W2 out' ⟨none, 0, 0⟩ (ps ++ [(cur, curL)]) [] := by
 have hB1 : Below w.heap.size w W1 := h.hb.trans (hf.below (by have := h.hb.size; omega) (fun k hk => by have := (h.ho.lt k hk).1; omega))
 have hz := hB1.size
 have hcur1 : OwnI W1 (w.heap.size + 1) cur.val curL := owns_frame h.hc hf (fun k hk e => owns_ne2 h.hc h.ho (by decide) k hk e)
 refine ⟨hB1.trans (hf2.below (by omega) (fun k hk => by omega)), hp, owns_frame ho hf2 (fun k hk e => by have := (ho.lt k hk).1; omega), World.ownsRow_nil _ _ _ _, ?_⟩
 intro q hq
 refine ⟨?_, fun k _ e => by simp [SlR.val, Value.ownBlock] at e⟩
 rcases List.mem_append.1 hq with hq | hq
 ·have h1 := (h.hq q hq).1
  have h1' : PgOk W1 (w.heap.size + 1) q := h1.frame hf (fun k hk e => owns_ne2 h1 h.ho (by decide) k hk e)
  exact h1'.frame hf2 (fun k hk e => by have := (h1'.lt k hk).1; omega)
 ·simp only [List.mem_singleton] at hq
  subst hq
  exact owns_frame hcur1 hf2 (fun k hk e => by have := (hcur1.lt k hk).1; omega)
def PartedPost (w : World) (level : Nat) (l : List ItR) (out : SlR) (w' : World) : Prop :=
 ∃ ps : List (SlR × List ItR), OwnP w' w.heap.size out.val level ps ∧ (∀ q ∈ ps, PgOk w' w.heap.size q) ∧ ps.map (·.2) = partedN level l ∧ Below w.heap.size w w'
set_option maxRecDepth 100000 in
set_option maxHeartbeats 1600000 in
theorem parted_any (level : Nat) (a : Option Addr) (n cap : Nat) (l : List ItR) (w : World) (hn : n = l.length) (hl : l.length ≤ 200) (hlv : level ≤ 200) (hok : ∀ x ∈ l, ItOk x) (hs : SlI w a l) :
  Calls Tryz.prog 120 #[.int .i64 (level : Int), .slice a n cap] w fun e w' => ∃ out : SlR, e = .returned (.slice out.a out.n out.cap) ∧ PartedPost w level l out w' := by
 have hst0 : PartSt w level (w.alloc (.cells #[.int .i64 (level : Int), .slice none 0 0] 80)) ⟨none, 0, 0⟩ ⟨none, 0, 0⟩ [] [] :=
  ⟨(Below.refl _ _).alloc (Nat.le_refl _) _, RowV.new w _ _, World.ownsRow_nil _ _ _ _, World.ownsRow_nil _ _ _ _, fun q hq => by cases hq⟩
 have HN : Hid (n = l.length) := hn
 have hnI : (n : Int) ≤ 200 := by omega
 have hlvI : (level : Int) ≤ 200 := by omega
 clear hn
 go_enter Tryz.func120, Tryz.ntmps120
 go_wp2
 go_loopw [5, 7] (fun o i wr => ∃ (k : Nat) (out cur : SlR) (ps : List (SlR × List ItR)) (curL : List ItR), k ≤ n ∧ i = .int .i64 k ∧ o = .slice out.a out.n out.cap ∧ PartSt w level wr out cur ps curL ∧ curL.length + ps.length ≤ k ∧ Hid (ps.map (·.2) ++ partF level (l.drop k) curL = partedN level l)) (fun _ i _ => n - (intOf i).toNat)
 case atStart => exact ⟨0, _, _, [], [], by omega, by simp, rfl, hst0, by simp, by simp [Hid, partedN]⟩
 case round =>
  obtain ⟨k, out, cur, ps, curL, hk, rfl, rfl, hst, hcl, HP⟩ := hrel
  have hc0 := hst.hp.cell 0 (by simp)
  have hc1 := hst.hp.cell 1 (by simp)
  simp only [List.getElem_cons_zero, List.getElem_cons_succ, SlR.val] at hc0 hc1
  have hf0 := hst.hp.frozen 0
  have hf1 := hst.hp.frozen 1
  by_cases hlt : k < n
  ·have hkl : k < l.length := by have := HN.out; omega
   obtain ⟨b, o, rfl, hb, x0, x1, x2⟩ := SlI.cells hs k hkl
   have y0 : wr.cell? ⟨b, o + k * 3, none⟩ = some (.string ⟨l[k].key.toArray⟩) := by rw [hst.hb.cell (p := ⟨b, o + k * 3, none⟩) hb]; exact x0
   have y1 : wr.cell? ⟨b, o + k * 3 + 1, none⟩ = some (.string ⟨l[k].more.toArray⟩) := by rw [hst.hb.cell (p := ⟨b, o + k * 3 + 1, none⟩) hb]; exact x1
   have y2 : wr.cell? ⟨b, o + k * 3 + 2, none⟩ = some (.int .i64 (l[k].below : Int)) := by rw [hst.hb.cell (p := ⟨b, o + k * 3 + 2, none⟩) hb]; exact x2
   have hk0 : (0 : Int) ≤ (k : Int) := Int.natCast_nonneg _
   have hk1 : (k : Int) < (n : Int) := by omega
   have hbz := hst.hb.size
   have hpz := hst.hp.lt
   have HO : Hid (OwnI (wr.drew.alloc (.cells #[.string ⟨l[k].key.toArray⟩, .string ⟨l[k].more.toArray⟩, .int .i64 (l[k].below : Int)] 84)) (w.heap.size + 1) (.slice cur.a cur.n cur.cap) curL) := hst.drew.hc.alloc _
   have HSL : Hid (SlI (wr.drew.alloc (.cells #[.string ⟨l[k].key.toArray⟩, .string ⟨l[k].more.toArray⟩, .int .i64 (l[k].below : Int)] 84)) (some ⟨wr.heap.size, 0, none⟩) [l[k]]) := SlV.alloc_new wr.drew (itsC [l[k]]) _
   have HLE : Hid (curL.length + [l[k]].length ≤ 1000000) := by unfold Hid; simp; omega
   have HBS : Hid (w.heap.size + 1 ≤ (wr.drew.alloc (.cells #[.string ⟨l[k].key.toArray⟩, .string ⟨l[k].more.toArray⟩, .int .i64 (l[k].below : Int)] 84)).heap.size) := by unfold Hid; simp; omega
   have HPA : Hid (RowV (wr.drew.alloc (.cells #[.string ⟨l[k].key.toArray⟩, .string ⟨l[k].more.toArray⟩, .int .i64 (l[k].below : Int)] 84)) w.heap.size 80 [.int .i64 (level : Int), cur.val]) := hst.drew.hp.alloc _
   have HBA : Hid (Below w.heap.size w (wr.drew.alloc (.cells #[.string ⟨l[k].key.toArray⟩, .string ⟨l[k].more.toArray⟩, .int .i64 (l[k].below : Int)] 84))) := hst.drew.hb.alloc hbz _
   go_wp2
   go_region_law
    ((refine step_appendI (by rfl) (.tmp 18) (.tmp 23) (by rfl) (w.heap.size + 1) (.slice cur.a cur.n cur.cap) curL (by rfl) HO.out ⟨wr.heap.size, 0, none⟩ 1 1 [l[k]] (by rfl) rfl HSL.out HLE.out HBS.out ?_; intro a1 n1 c1 w1 ho1 hf1 hat1; have hp1 : RowV w1 w.heap.size 80 [.int .i64 (level : Int), cur.val] := HPA.out.of_block (hf1.block _ HPA.out.lt (fun e => owns_ne HO.out HPA.out (by decide) e)); have e1 : w1.cell? ⟨w.heap.size, 1, none⟩ = some (.slice cur.a cur.n cur.cap) := hp1.cell 1 (Nat.lt_succ_self 1); have g1 : w1.frozen? ⟨w.heap.size, 1, none⟩ = false := hp1.frozen 1; have hB1 : Below w.heap.size w w1 := HBA.out.trans (hf1.below HBA.out.size (fun k hk => Nat.le_of_succ_le (HO.out.lt k hk).1))))
   all_goals
    have hst2 : PartSt w level (w1.setCell ⟨w.heap.size, 1, none⟩ (.slice a1 n1 c1)) out ⟨a1, n1, c1⟩ ps (curL ++ [l[k]]) := PartSt.push (cur' := ⟨a1, n1, c1⟩) (hst.drew.alloc (.cells #[.string ⟨l[k].key.toArray⟩, .string ⟨l[k].more.toArray⟩, .int .i64 (l[k].below : Int)] 84)) ho1 hf1 hat1
    have v0 : (w1.setCell ⟨w.heap.size, 1, none⟩ (.slice a1 n1 c1)).cell? ⟨b, o + k * 3, none⟩ = some (.string ⟨l[k].key.toArray⟩) := (hst2.hb.cell (p := ⟨b, o + k * 3, none⟩) hb).trans x0
    clear e1 g1 y0 y1 y2 HO HSL HLE HBS HPA HBA hp1 hB1 hc0 hc1 hf0 ho1 hf1 hat1
    go_wp2_with fail
    refine (isEnd_any level l[k].key _ hlv (by have := (hok l[k] (List.getElem_mem hkl)).1; omega)).mono ?_
    rintro e w3 ⟨rfl, hb3⟩
    have hst3 := hst2.next hb3
    clear hst2 v0
    have c0 := hst3.hp.cell 0 (by simp)
    have c1' := hst3.hp.cell 1 (by simp)
    simp only [List.getElem_cons_zero, List.getElem_cons_succ, SlR.val] at c0 c1'
    have HD : Hid (l.drop k = l[k] :: l.drop (k + 1)) := List.drop_eq_getElem_cons hkl
    have HEM : Hid ((l.drop (k + 1)).isEmpty = decide (n ≤ k + 1)) := by
     unfold Hid
     rw [Bool.eq_iff_iff, List.isEmpty_iff, List.drop_eq_nil_iff, HN.out]; simp
    by_cases hend : endB level l[k].key = true
    ·by_cases hlast : k + 1 < n
     ·have hlI : (k : Int) + 1 < n := by omega
      have HP2 : Hid ((ps ++ [((⟨a1, n1, c1⟩ : SlR), curL ++ [l[k]])]).map (·.2) ++ partF level (l.drop (k + 1)) [] = partedN level l) := by
       have h := HP.out
       rw [HD.out, partF, if_pos (by rw [hend, HEM.out]; simp; omega)] at h
       unfold Hid; simpa using h
      have HOA : Hid (OwnP (w3.alloc (.cells #[.int .i64 (level : Int), .slice a1 n1 c1] 80)) (w.heap.size + 1) (.slice out.a out.n out.cap) level ps) := hst3.ho.alloc _
      have HSA : Hid (SlV (w3.alloc (.cells #[.int .i64 (level : Int), .slice a1 n1 c1] 80)) (some ⟨w3.heap.size, 0, none⟩) (pgC level (⟨a1, n1, c1⟩, curL ++ [l[k]]))) := SlV.alloc_new w3 _ _
      have HLA : Hid (ps.length ≤ 1000000) := by unfold Hid; omega
      have HZA : Hid (w.heap.size + 1 ≤ (w3.alloc (.cells #[.int .i64 (level : Int), .slice a1 n1 c1] 80)).heap.size) := by unfold Hid; have := hst3.hp.lt; simp; omega
      rw [hend]
      go_wp2_with (at_builtin; refine wp_appendP (by rfl) (.tmp 41) (.tmp 43) (by rfl) (w.heap.size + 1) (.slice out.a out.n out.cap) level ps (by rfl) HOA.out ⟨w3.heap.size, 0, none⟩ (⟨a1, n1, c1⟩, curL ++ [l[k]]) (by rfl) HSA.out HLA.out HZA.out ?_; intro a4 n4 c4 w4 ho4 hf4 hat4; have hp4 : RowV w4 w.heap.size 80 [.int .i64 (level : Int), .slice a1 n1 c1] := (hst3.hp.alloc _).of_block (hf4.block _ (hst3.hp.alloc _).lt (fun e => Nat.lt_irrefl _ (HOA.out.lt _ e).1)); have q0 : w4.cell? ⟨w.heap.size, 0, none⟩ = some (.int .i64 (level : Int)) := hp4.cell 0 (by simp); have q1 : w4.cell? ⟨w.heap.size, 1, none⟩ = some (.slice a1 n1 c1) := hp4.cell 1 (by simp); have r0 : w4.frozen? ⟨w.heap.size, 0, none⟩ = false := hp4.frozen 0; have r1 : w4.frozen? ⟨w.heap.size, 1, none⟩ = false := hp4.frozen 1)
      refine ⟨⟨k + 1, ⟨a4, n4, c4⟩, ⟨none, 0, 0⟩, ps ++ [(⟨a1, n1, c1⟩, curL ++ [l[k]])], [], by omega, by go_num, rfl, ?_, by simp; omega, HP2⟩, by simp [intOf]; omega⟩
      refine PartSt.flush (out' := ⟨a4, n4, c4⟩) (hst3.alloc (.cells #[.int .i64 (level : Int), .slice a1 n1 c1] 80)) ho4 hf4 ((hp4.set 0 _).set 1 _) ?_
      exact ((Frame.refl (fun k => k = w.heap.size) w4).setCell (p := ⟨w.heap.size, 0, none⟩) rfl _).setCell (p := ⟨w.heap.size, 1, none⟩) rfl _
     ·have hlI : ¬ (k : Int) + 1 < n := by omega
      have HP2 : Hid (ps.map (·.2) ++ partF level (l.drop (k + 1)) (curL ++ [l[k]]) = partedN level l) := by
       have h := HP.out
       rw [HD.out, partF, if_neg (by rw [HEM.out]; simp; omega)] at h
       exact h
      rw [hend]
      go_wp2
      exact ⟨⟨k + 1, out, ⟨a1, n1, c1⟩, ps, curL ++ [l[k]], by omega, by go_num, rfl, hst3, by simp; omega, HP2.out⟩, by simp [intOf]; omega⟩
    ·have hend : endB level l[k].key = false := by simpa using hend
     have HP2 : Hid (ps.map (·.2) ++ partF level (l.drop (k + 1)) (curL ++ [l[k]]) = partedN level l) := by
      have h := HP.out
      rw [HD.out, partF, if_neg (by rw [hend]; simp)] at h
      exact h
     rw [hend]
     go_wp2
     exact ⟨⟨k + 1, out, ⟨a1, n1, c1⟩, ps, curL ++ [l[k]], by omega, by go_num, rfl, hst3, by simp; omega, HP2.out⟩, by simp [intOf]; omega⟩
  ·have HOA : Hid (OwnP (wr.alloc (.cells #[.int .i64 (level : Int), .slice cur.a cur.n cur.cap] 80)) (w.heap.size + 1) (.slice out.a out.n out.cap) level ps) := hst.ho.alloc _
   have HSA : Hid (SlV (wr.alloc (.cells #[.int .i64 (level : Int), .slice cur.a cur.n cur.cap] 80)) (some ⟨wr.heap.size, 0, none⟩) (pgC level (cur, curL))) := SlV.alloc_new wr _ _
   have HLA : Hid (ps.length ≤ 1000000) := by unfold Hid; omega
   have HZA : Hid (w.heap.size + 1 ≤ (wr.alloc (.cells #[.int .i64 (level : Int), .slice cur.a cur.n cur.cap] 80)).heap.size) := by unfold Hid; have := hst.hp.lt; simp; omega
   have hltI : ¬ (k : Int) < n := by omega
   go_wp2_with (at_builtin; refine wp_appendP (by rfl) (.tmp 47) (.tmp 49) (by rfl) (w.heap.size + 1) (.slice out.a out.n out.cap) level ps (by rfl) HOA.out ⟨wr.heap.size, 0, none⟩ (cur, curL) (by rfl) HSA.out HLA.out HZA.out ?_; intro a4 n4 c4 w4 ho4 hf4 hat4)
   go_ret
   have hstA := hst.alloc (.cells #[.int .i64 (level : Int), .slice cur.a cur.n cur.cap] 80)
   refine ⟨⟨a4, n4, c4⟩, rfl, ps ++ [(cur, curL)], owns_base ho4 (fun q hq => by have := (ho4.lt q hq).1; omega), ?_, ?_, ?_⟩
   ·intro q hq
    rcases List.mem_append.1 hq with hq | hq
    ·have h1 := (hstA.hq q hq).1
     exact owns_base (owns_frame h1 hf4 (fun k hk e => owns_ne2 h1 hstA.ho (by decide) k hk e)) (fun j hj => by have := (h1.lt j hj).1; omega)
    ·simp only [List.mem_singleton] at hq
     subst hq
     have h1 := hstA.hc
     exact owns_base (owns_frame h1 hf4 (fun k hk e => owns_ne2 h1 hstA.ho (by decide) k hk e)) (fun j hj => by have := (h1.lt j hj).1; omega)
   ·have h := HP.out
    rw [List.drop_eq_nil_of_le (by have := HN.out; omega), partF] at h
    rw [List.map_append]; exact h
   ·exact hstA.hb.trans (hf4.below (by have := hstA.hb.size; omega) (fun j hj => by have := (hstA.ho.lt j hj).1; omega))
end Go.Proofs.YtekegfbjbainhaaGreat


namespace Go.Proofs.YtekegfbjbainhaaGreat
open Go.RowKit
def lastK (p : List ItR) : List UInt8 := (p.getLast?.map (·.key)).getD []
def nextF (level : Nat) : Nat → List (List ItR) → List ItR
 | _, [] => []
 | i, p :: r => ⟨lastK p, digB (codeB level p), i⟩ :: nextF level (i + 1) r
def grownF : Nat → Nat → List ItR → List (List (List ItR))
 | 0, _, _ => []
 | f + 1, level, l => if (partedN level l).length = 1 then [partedN level l] else partedN level l :: grownF f (level + 1) (nextF level 0 (partedN level l))
def grownN (l : List ItR) : List (List (List ItR)) := grownF 7 0 l
theorem partF_length (level : Nat) : ∀ (r cur : List ItR), 1 ≤ (partF level r cur).length ∧ (partF level r cur).length ≤ r.length + 1
 | [], cur => by simp [partF]
 | x :: r, cur => by
  unfold partF
  split
  ·have := partF_length level r []; simp; omega
  ·have := partF_length level r (cur ++ [x]); simp; omega
theorem partF_bound (level : Nat) : ∀ (r cur : List ItR), r ≠ [] → (partF level r cur).length ≤ r.length
 | [], cur, h => absurd rfl h
 | x :: r, cur, _ => by
  unfold partF
  split
  ·rename_i hc
   have hr : r ≠ [] := by
    intro h; subst h; simp at hc
   have := partF_bound level r [] hr; simp; omega
  ·by_cases hr : r = []
   ·subst hr; simp [partF]
   ·have := partF_bound level r (cur ++ [x]) hr; simp; omega
theorem partF_six (level : Nat) (h6 : ¬ level < 6) : ∀ (r cur : List ItR), partF level r cur = [cur ++ r]
 | [], cur => by simp [partF]
 | x :: r, cur => by
  unfold partF
  rw [if_neg (by simp [endB, h6]), partF_six level h6 r]; simp
theorem partF_ne (level : Nat) : ∀ (r cur : List ItR), (r ≠ [] ∨ cur ≠ []) → ∀ p ∈ partF level r cur, p ≠ []
 | [], cur, h, p, hp => by
  simp [partF] at hp
  subst hp
  rcases h with h | h
  ·exact absurd rfl h
  ·exact h
 | x :: r, cur, h, p, hp => by
  unfold partF at hp
  split at hp
  ·rename_i hc
   have hr : r ≠ [] := by
    intro h; subst h; simp at hc
   rcases List.mem_cons.1 hp with rfl | hp
   ·simp
   ·exact partF_ne level r [] (Or.inl hr) p hp
  ·exact partF_ne level r (cur ++ [x]) (Or.inr (by simp)) p hp
theorem partF_mem (level : Nat) : ∀ (r cur : List ItR), ∀ p ∈ partF level r cur, ∀ x ∈ p, x ∈ r ∨ x ∈ cur
 | [], cur, p, hp, x, hx => by simp [partF] at hp; subst hp; exact Or.inr hx
 | y :: r, cur, p, hp, x, hx => by
  unfold partF at hp
  split at hp
  ·rcases List.mem_cons.1 hp with rfl | hp
   ·rcases List.mem_append.1 hx with h | h
    ·exact Or.inr h
    ·simp at h; subst h; exact Or.inl (by simp)
   ·rcases partF_mem level r [] p hp x hx with h | h
    ·exact Or.inl (by simp [h])
    ·cases h
  ·rcases partF_mem level r (cur ++ [y]) p hp x hx with h | h
   ·exact Or.inl (by simp [h])
   ·rcases List.mem_append.1 h with h | h
    ·exact Or.inr h
    ·simp at h; subst h; exact Or.inl (by simp)
theorem partF_size (level : Nat) : ∀ (r cur : List ItR), ∀ p ∈ partF level r cur, p.length ≤ r.length + cur.length
 | [], cur, p, hp => by simp [partF] at hp; subst hp; simp
 | y :: r, cur, p, hp => by
  unfold partF at hp
  split at hp
  ·rcases List.mem_cons.1 hp with rfl | hp
   ·simp; omega
   ·have := partF_size level r [] p hp; simp at this ⊢; omega
  ·have := partF_size level r (cur ++ [y]) p hp; simp at this ⊢; omega
theorem parted_ok {level : Nat} {l : List ItR} (h : ∀ x ∈ l, ItOk x) : ∀ p ∈ partedN level l, ∀ x ∈ p, ItOk x := fun p hp x hx => by
 rcases partF_mem level l [] p hp x hx with h1 | h1
 ·exact h x h1
 ·cases h1
theorem lastK_le {p : List ItR} (h : ∀ x ∈ p, ItOk x) : (lastK p).length ≤ 12 := by
 unfold lastK
 cases hl : p.getLast? with
 | none => simp
 | some x => simp; exact (h x (List.mem_of_getLast? hl)).1
theorem nextF_ok (level : Nat) : ∀ (i : Nat) (ps : List (List ItR)), (∀ p ∈ ps, ∀ x ∈ p, ItOk x) → ∀ x ∈ nextF level i ps, ItOk x
 | _, [], _, x, hx => by cases hx
 | i, p :: r, h, x, hx => by
  unfold nextF at hx
  rcases List.mem_cons.1 hx with rfl | hx
  ·exact ⟨lastK_le (h p (by simp)), by show (digB _).length ≤ 12; rw [digB_length]; omega⟩
  ·exact nextF_ok level (i + 1) r (fun q hq => h q (by simp [hq])) x hx
theorem nextF_length (level : Nat) : ∀ (i : Nat) (ps : List (List ItR)), (nextF level i ps).length = ps.length
 | _, [] => rfl
 | i, p :: r => by unfold nextF; rw [List.length_cons, List.length_cons, nextF_length level (i + 1) r]
theorem nextF_snoc (level : Nat) (p : List ItR) : ∀ (i : Nat) (ps : List (List ItR)), nextF level i (ps ++ [p]) = nextF level i ps ++ [⟨lastK p, digB (codeB level p), i + ps.length⟩]
 | i, [] => by simp [nextF]
 | i, q :: r => by
  rw [List.cons_append]
  unfold nextF
  rw [nextF_snoc level p (i + 1) r, List.cons_append, List.length_cons, show i + 1 + r.length = i + (r.length + 1) by omega]
theorem lastK_get (p : List ItR) (h : p ≠ []) : lastK p = (p[p.length - 1]'(by have := List.length_pos_iff.2 h; omega)).key := by
 unfold lastK
 rw [List.getLast?_eq_getElem?, List.getElem?_eq_getElem (by have := List.length_pos_iff.2 h; omega)]
 rfl
end Go.Proofs.YtekegfbjbainhaaGreat
