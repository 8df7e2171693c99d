import Derived.Test.YtekegfbjbainhaaKJoin4
set_option linter.unusedVariables false
set_option linter.unusedSimpArgs false

namespace Go.Proofs.Ytekegfbjbainhaa
open Go.RowKit
theorem Frame.inside {S T : Nat → Prop} {a b c : World} (h : Frame S a b) (k : Frame T b c) (hT : ∀ x, x < a.heap.size → T x → S x) : Frame S a c :=
 ⟨k.os.trans h.os, k.tape.trans h.tape, k.output.trans h.output, Nat.le_trans h.size k.size, fun i hi hs => (k.block i (Nat.lt_of_lt_of_le hi h.size) (fun ht => hs (hT i hi ht))).trans (h.block i hi hs)⟩
set_option maxRecDepth 100000 in
set_option maxHeartbeats 1000000 in
theorem tEnd_any (level : Nat) (sk : SlR) (key : List UInt8) (w : World) (hlv : level ≤ 200) (hK : BS w sk key) (hk : key.length ≤ 200) :
  Calls Try.prog 104 #[.int .i64 (level : Int), sk.val] w fun e w' => e = .returned (.bool (endB level key)) ∧ Below w.heap.size w w' := by
 have hlvI : (level : Int) ≤ 200 := by omega
 have hb1 : OwnB (w.alloc (.cells #[.int .u8 (level : Int)] 5)) w.heap.size (.slice (some ⟨w.heap.size, 0, none⟩) 1 1) [bt level] := by
  have := OwnB.built w w.heap.size [bt level] (Nat.le_refl _) (by simp [maxLen])
  simp only [List.map_cons, List.map_nil] at this
  rw [bt_c (by omega)] at this
  exact this
 have hs1 : SlB (w.alloc (.cells #[.int .u8 (level : Int)] 5)) sk.a key := hK.sl.below ((Below.refl _ _).alloc (Nat.le_refl _) _) (Nat.le_refl _)
 obtain ⟨dd, hdd⟩ : ∃ dd, dd = digB (bt level :: key) := ⟨_, rfl⟩
 have hdl : dd.length = 8 := by rw [hdd]; rfl
 obtain ⟨x0, x1, x2, x3, x4, x5, x6, x7, rfl⟩ := list8 dd hdl
 have HE : Hid (endB level key = (decide (level < 6) && x7.toNat % 4 == 0)) := by
  unfold Hid endB; rw [← hdd]; rfl
 have HV : Hid (digV (bt level :: key) = .agg #[.int .u8 (x0.toNat : Int), .int .u8 (x1.toNat : Int), .int .u8 (x2.toNat : Int), .int .u8 (x3.toNat : Int), .int .u8 (x4.toNat : Int), .int .u8 (x5.toNat : Int), .int .u8 (x6.toNat : Int), .int .u8 (x7.toNat : Int)]) := by
  unfold Hid; rw [digV_eq, ← hdd]; rfl
 clear hdd hdl
 have h7 : (x7.toNat : Int) ≤ 255 := by have := x7.toNat_lt; omega
 have HN : Hid (sk.n = key.length) := hK.n
 have HNL : Hid (sk.a = none → sk.cap = 0) := hK.nil
 unfold SlR.val
 by_cases h6 : level < 6
 ·have H6 : ¬ (6 : Int) ≤ (level : Int) := by omega
  go_enter Try.func104, Try.ntmps104
  go_wp2_with (at_builtin; refine wp_appendB (by rfl) (.tmp 10) (.tmp 11) (by rfl) w.heap.size _ [bt level] (by rfl) hb1 sk.a sk.n sk.cap key (by rfl) HN.out hs1 HNL.out (by simp; omega) (by simp) ?_; intro a1 n1 c1 w1 hn1 ho1 hs1 hf1 hat1; clear hn1 hat1)
  obtain ⟨_, hn1, hnil1⟩ := ho1.sl
  refine (ofB_any a1 _ c1 (bt level :: key) _ (by rw [hn1]; simp) (by simp [maxLen]; omega) (by simpa using hs1)).mono ?_
  rintro e w2 ⟨rfl, hb2⟩
  rw [HV.out]
  go_wp2
  go_ret
  refine ⟨?_, ?_⟩
  ·rw [HE.out]
   show Ending.returned (.bool ((x7.toNat : Int) % 4 == 0)) = _
   rw [mod4_nat]; simp [h6]
  ·have h1 := hf1.below (B := w.heap.size) (by simp) (fun k hk => by simp [Value.ownBlock] at hk; omega)
   have z1 := h1.size
   simp only [World.size_alloc] at z1
   have h3 := (((Below.refl w.heap.size w).alloc (Nat.le_refl _) (.cells #[.int .u8 (level : Int)] 5)).trans h1).trans (hb2.mono (by omega))
   exact h3.alloc (by have := h3.size; omega) _
 ·have H6 : (6 : Int) ≤ (level : Int) := by omega
  go_enter Try.func104, Try.ntmps104
  go_wp2
  go_ret
  exact ⟨by rw [HE.out]; simp [h6], Below.refl _ _⟩
set_option maxRecDepth 100000 in
theorem entryKey_any (k v : SlR) (w : World) :
  Calls Try.prog 91 #[.agg #[k.val, v.val, .int .u8 0, .int .u8 0, .int .u8 0, .int .u8 0, .int .u8 0, .int .u8 0, .int .u8 0, .int .u8 0]] w fun e w' => e = .returned k.val ∧ Below w.heap.size w w' := by
 unfold SlR.val
 go_enter Try.func91, Try.ntmps91
 go_wp2
 go_ret
 exact ⟨rfl, by go_grown⟩
set_option maxRecDepth 100000 in
theorem nodeKey_any (nb : Nat) (k : SlR) (w : World) (h0 : w.cell? ⟨nb, 0, none⟩ = some k.val) :
  Calls Try.prog 93 #[.pointer (some ⟨nb, 0, none⟩)] w fun e w' => e = .returned k.val ∧ Below w.heap.size w w' := by
 unfold SlR.val at *
 go_enter Try.func93, Try.ntmps93
 go_wp2
 go_ret
 exact ⟨rfl, Below.refl _ _⟩
set_option maxRecDepth 100000 in
set_option maxHeartbeats 1000000 in
theorem counted_any (base : Nat) (v s : SlR) (l m : List UInt8) (w : World) (ho : OwnB w base v.val l) (hs : BS w s m) (hsb : ∀ x, s.a = some x → x.block < base) (hb : base ≤ w.heap.size) (hl : l.length ≤ 100000) (hm : m.length ≤ 200) :
  Calls Try.prog 106 #[v.val, s.val] w fun e w' => ∃ v' : SlR, e = .returned v'.val ∧ OwnB w' base v'.val (l ++ bt m.length :: m) ∧ Frame (fun k => v.val.ownBlock = some k) w w' := by
 have hb1 : SlB (w.alloc (.cells #[.int .u8 (m.length : Int)] 5)) (some ⟨w.heap.size, 0, none⟩) [bt m.length] := by
  refine SlB.of_row (t := 5) ?_
  rw [List.map_cons, List.map_nil, bt_c (by omega)]
  exact RowV.new w _ _
 have hmI : (m.length : Int) ≤ 200 := by omega
 have HN : Hid (s.n = m.length) := hs.n
 have h0 := hs.n
 have HNL : Hid (s.a = none → s.cap = 0) := hs.nil
 have ho1 : OwnB (w.alloc (.cells #[.int .u8 (m.length : Int)] 5)) base (.slice v.a v.n v.cap) l := ho.alloc _
 have hs1 : SlB (w.alloc (.cells #[.int .u8 (m.length : Int)] 5)) s.a m := hs.sl.below ((Below.refl _ _).alloc (Nat.le_refl _) _) (Nat.le_refl _)
 have HF0 : Hid (Frame (fun k => (Value.slice v.a v.n v.cap).ownBlock = some k) w (w.alloc (.cells #[.int .u8 (m.length : Int)] 5))) := (Frame.refl _ _).alloc _
 have HSB : Hid (∀ x, s.a = some x → ¬ (Value.slice v.a v.n v.cap).ownBlock = some x.block) := fun x hx e => by have := (ho.lt _ e).1; have := hsb x hx; omega
 obtain ⟨sa, sn, sc⟩ := s
 simp only at h0 HN HNL hs1 HSB
 subst h0
 unfold SlR.val at *
 simp only
 go_enter Try.func106, Try.ntmps106
 go_wp2_with (first
  | (at_builtin; refine wp_appendB (by rfl) (.tmp 5) (.tmp 9) (by rfl) base _ l (by rfl) ho1 (some ⟨w.heap.size, 0, none⟩) 1 1 [bt m.length] (by rfl) (by rfl) hb1 (fun h => by cases h) (by simp; omega) (by simp; omega) ?_; intro a1 n1 c1 w1 hn1 ho2 hs2 hf1 hat1; have hs3 : SlB w1 sa m := SlB.frame hs1 hf1 (fun x hx => HSB.out x hx); have hz1 := hf1.size; clear hn1)
  | (at_builtin; refine wp_appendB (by rfl) (.tmp 10) (.tmp 11) (by rfl) base _ (l ++ [bt m.length]) (by rfl) ho2 sa m.length sc m (by rfl) rfl hs3 HNL.out (by simp; omega) (by simp only [World.size_alloc] at hz1; omega) ?_; intro a2 n2 c2 w2 hn2 ho3 hs4 hf2 hat2; clear hn2))
 go_ret
 refine ⟨⟨a2, n2, c2⟩, rfl, by simpa using ho3, ?_⟩
 refine Frame.inside (HF0.out.trans hf1) hf2 (fun x hx e => ?_)
 rcases hat1 with h | h
 ·rw [← h]; exact e
 ·exfalso
  rw [h] at e
  simp only [World.size_alloc, Option.some.injEq] at e
  omega
end Go.Proofs.Ytekegfbjbainhaa


namespace Go.Proofs.Ytekegfbjbainhaa
open Go.RowKit
theorem wp_storeR {ops : Array Oper} {rest : List Oper} {o : Oper} {a : Act} {w : World} {Q : Exit → Act → World → Prop} (hgd : o.guard = none) (T : TypeId) (x y : Operand) (ho : o.op = .store T x y)
  (b : Nat) (hx : a.eval x = .pointer (some ⟨b, 0, none⟩)) (cs : List Value) (hy : a.eval y = .agg cs.toArray) {l : List Value} (hR : RowV w b T l) (hl : l.length = cs.length) (hi : (Try.prog.info? T).map (·.size) = some cs.length) (h1 : ∀ v ∈ cs, v.oneCell' = true)
  (h : ∀ w', RowV w' b T cs → Frame (fun k => k = b) w w' → w'.heap.size = w.heap.size → wpList Try.prog ops Q rest (a.put o.dst undef) w') : wpList Try.prog ops Q (o :: rest) a w := by
 refine wpList_store_mid hgd T x y ho b 0 cs.toArray hx hy (by simpa using hR.there cs.length hl.symm) (by simpa using hi) (all_oneCell_toArray h1) ?_
 exact h _ (hR.setAll _ hl.symm) (Frame.setCells (S := fun k => k = b) rfl _ _ _ (Frame.refl _ _)) (size_setCells _ _ _ _)
structure EnL (w : World) (level : Nat) (x : EnP) (it : ItR) : Prop where
 key : BS w x.k it.key
 val : level = 0 → BS w x.v it.more
 dig : level ≠ 0 → x.d = it.more
 d8 : x.d.length = 8
theorem EnL.below {w w' : World} {level : Nat} {x : EnP} {it : ItR} (h : EnL w level x it) (hb : Below w.heap.size w w') : EnL w' level x it := ⟨h.key.below hb, fun e => (h.val e).below hb, h.dig, h.d8⟩
theorem EnOk.toL {w : World} {x : EnP} {it : ItR} (h : EnOk w x it) : EnL w 0 x it := ⟨h.key, fun _ => h.val, fun e => absurd rfl e, by rw [h.dig]; rfl⟩
theorem Try.sizeEntryB : (Try.prog.info? 103).map (·.size) = some 10 := by kernel_rfl
theorem enC_one (x : EnP) : ∀ u ∈ enC x, u.oneCell' = true := fun u hu => ensC_one [x] u (by simpa [ensC] using hu)
def z10 : List Value := [.slice none 0 0, .slice none 0 0, .int .u8 0, .int .u8 0, .int .u8 0, .int .u8 0, .int .u8 0, .int .u8 0, .int .u8 0, .int .u8 0]
def BytSt (w : World) (xb : Nat) (P X : List Value) (W : World) : Prop := Below w.heap.size w W ∧ RowV W w.heap.size 128 P ∧ RowV W xb 103 X
theorem BytSt.next {w W W' : World} {xb : Nat} {P X : List Value} {v : Value} {l : List UInt8} (h : BytSt w xb P X W) (ho : OwnB W (w.heap.size + 1) v l) (hf : Frame (fun k => v.ownBlock = some k) W W') : BytSt w xb P X W' :=
 ⟨h.1.trans (hf.below h.1.size (fun k hk => by have := (ho.lt k hk).1; omega)), h.2.1.of_block (hf.block _ h.2.1.lt (fun e => owns_ne ho h.2.1 (by decide) e)), h.2.2.of_block (hf.block _ h.2.2.lt (fun e => owns_ne ho h.2.2 (by decide) e))⟩
theorem BytSt.enter {w wr w1 : World} {P X : List Value} {v : Value} {l : List UInt8} (hb : Below w.heap.size w wr) (hp : RowV wr w.heap.size 128 P) (ho : OwnB wr (w.heap.size + 1) v l) (hr : RowV w1 wr.heap.size 103 X)
  (hf : Frame (fun k => k = wr.heap.size) (wr.alloc (.cells z10.toArray 103)) w1) : BytSt w wr.heap.size P X w1 ∧ OwnB w1 (w.heap.size + 1) v l := by
 have h1 : Frame (fun k => k = wr.heap.size) wr w1 := Frame.trans ((Frame.refl _ _).alloc _) hf
 refine ⟨⟨hb.trans (h1.below hb.size (fun k hk => by have := hb.size; omega)), hp.of_block (h1.block _ hp.lt (fun e => by have := hp.lt; omega)), hr⟩, ?_⟩
 exact owns_frame ho h1 (fun k hk e => by have := (ho.lt k hk).2; omega)
theorem BytSt.cells {w W : World} {xb : Nat} {p0 p1 x0 x1 : Value} {X : List Value} (h : BytSt w xb [p0, p1] (x0 :: x1 :: X) W) : W.cell? ⟨w.heap.size, 0, none⟩ = some p0 ∧ W.cell? ⟨xb, 0, none⟩ = some x0 ∧ W.cell? ⟨xb, 1, none⟩ = some x1 :=
 ⟨h.2.1.cell 0 (by simp), h.2.2.cell 0 (by simp), h.2.2.cell 1 (by simp)⟩
theorem BytSt.dig {w W : World} {xb : Nat} {P : List Value} {x0 x1 : Value} {d : List UInt8} (h : BytSt w xb P (x0 :: x1 :: d.map u8c) W) : SlB W (some ⟨xb, 2, none⟩) d :=
 SlB.mk h.2.2.lt (fun i hi => by
  have := h.2.2.cell (2 + i) (by simp; omega)
  rw [this]
  have e : (x0 :: x1 :: d.map u8c)[2 + i]? = some (u8c d[i]) := by rw [Nat.add_comm]; simp [hi]
  rw [List.getElem?_eq_getElem (by simp; omega)] at e
  exact e)
set_option maxRecDepth 100000 in
set_option maxHeartbeats 2000000 in
theorem bytes_any (level : Nat) (a : Option Addr) (n cap : Nat) (xs : List EnP) (its : List ItR) (w : World) (hn : n = xs.length) (hl : its.length = xs.length) (h200 : xs.length ≤ 200) (hlv : level ≤ 200) (hok : ∀ x ∈ its, ItOk x) (hs : SlE w a xs)
  (hen : ∀ i (h1 : i < xs.length) (h2 : i < its.length), EnL w level xs[i] its[i]) :
  Calls Try.prog 98 #[.agg #[.int .i64 (level : Int), .slice a n cap]] w fun e w' => ∃ v : SlR, e = .returned v.val ∧ OwnB w' w.heap.size v.val (codeB level its) ∧ Below w.heap.size w w' := by
 have hb1 : OwnB ((w.alloc (.cells #[.int .i64 (level : Int), .slice a n cap] 128)).alloc (.cells #[.int .u8 (level : Int), .int .u8 (n : Int)] 5)) (w.heap.size + 1) (.slice (some ⟨w.heap.size + 1, 0, none⟩) 2 2) (prefB level n []) := by
  have := OwnB.built (w.alloc (.cells #[.int .i64 (level : Int), .slice a n cap] 128)) (w.heap.size + 1) [bt level, bt n] (by simp) (by simp [maxLen])
  simp only [World.size_alloc, List.map_cons, List.map_nil] at this
  rw [bt_c (by omega), bt_c (by omega)] at this
  exact this
 have hp1 : RowV ((w.alloc (.cells #[.int .i64 (level : Int), .slice a n cap] 128)).alloc (.cells #[.int .u8 (level : Int), .int .u8 (n : Int)] 5)) w.heap.size 128 [.int .i64 (level : Int), .slice a n cap] := (RowV.new w _ _).alloc _
 have hlvI : (level : Int) ≤ 200 := by omega
 have hnI : (n : Int) ≤ 200 := by omega
 have HN : Hid (n = its.length) := by unfold Hid; omega
 have HQ : Hid (∀ (wr : World), Below w.heap.size w wr → ∀ k (hk : k < n) (hk2 : k < its.length), ∃ b o, ∃ x : EnP, a = some ⟨b, o, none⟩ ∧ wr.rangeAt b (o + k * 10) (enC x) ∧ EnL w level x its[k]) := fun wr hB k hk hk2 => by
  have h8 : ∀ x ∈ xs, x.d.length = 8 := fun x hx => by
   obtain ⟨i, hi, rfl⟩ := List.getElem_of_mem hx
   exact (hen i hi (by omega)).d8
  obtain ⟨b, o, ha, hb, hc⟩ := SlE.range hs h8 k (by omega)
  refine ⟨b, o, xs[k]'(by omega), ha, fun j v hv => ?_, hen k (by omega) hk2⟩
  rw [hB.cell (p := ⟨b, o + k * 10 + j, none⟩) hb]
  exact hc j v hv
 have HOK : Hid (∀ x ∈ its, ItOk x) := hok
 have h2n : n ≤ 200 := by omega
 clear hn hl h200 hs hen hok
 go_enter Try.func98, Try.ntmps98
 go_wp2
 go_loopw [3, 5, 17] (fun b _ i wr => ∃ (k : Nat) (v : SlR), k ≤ n ∧ i = .int .i64 k ∧ b = v.val ∧ OwnB wr (w.heap.size + 1) v.val (prefB level n (its.take k)) ∧ Below w.heap.size w wr ∧ RowV wr w.heap.size 128 [.int .i64 (level : Int), .slice a n cap]) (fun _ _ i _ => n - (intOf i).toNat)
 case atStart => exact ⟨0, ⟨_, 2, 2⟩, by omega, by simp, rfl, by simp only [List.take_zero]; exact hb1, by go_grown, hp1⟩
 case round =>
  obtain ⟨k, v, hk, rfl, rfl, hown, hbel, hp⟩ := hrel
  have hc0 := hp.cell 0 (by simp)
  have hc1 := hp.cell 1 (by simp)
  simp only [List.getElem_cons_zero, List.getElem_cons_succ] at hc0 hc1
  by_cases hlt : k < n
  ·have hkl : k < its.length := by have := HN.out; omega
   obtain ⟨b, o, x, rfl, hx, hel⟩ := HQ.out wr hbel k hlt hkl
   obtain ⟨hkl12, hml12⟩ := HOK.out its[k] (List.getElem_mem hkl)
   have HX : Hid (wr.rangeAt b (o + k * 10) (enC x)) := hx
   have HLN : Hid ((prefB level n (its.take k)).length ≤ 6000) := by
    have := prefB_length level n (its.take k) (fun x hx => HOK.out x (List.mem_of_mem_take hx))
    rw [List.length_take] at this
    unfold Hid; omega
   have hltI : (k : Int) < n := by omega
   have HSZ : Hid ((Try.prog.info? 103).map (·.size) = some (enC x).length) := by unfold Hid; rw [enC_length x hel.d8]; exact Try.sizeEntryB
   have HRN : Hid (RowV (wr.alloc (.cells z10.toArray 103)) wr.heap.size 103 z10) := RowV.new wr _ _
   have HZL : Hid (z10.length = (enC x).length) := by unfold Hid; rw [enC_length x hel.d8]; rfl
   have HBA : Hid (Below w.heap.size w (wr.alloc (.cells z10.toArray 103))) := hbel.alloc hbel.size _
   have HPA : Hid (RowV (wr.alloc (.cells z10.toArray 103)) w.heap.size 128 [.int .i64 (level : Int), .slice (some ⟨b, o, none⟩) n cap]) := hp.alloc _
   have HOA : Hid (OwnB (wr.alloc (.cells z10.toArray 103)) (w.heap.size + 1) v.val (prefB level n (its.take k))) := hown.alloc _
   have HEL : Hid (EnL w level x its[k]) := hel
   have HOW : Hid (OwnB wr (w.heap.size + 1) v.val (prefB level n (its.take k))) := hown
   clear hx hb1 hp1 hel hown
   have hpR : RowV wr w.heap.size 128 [.int .i64 (level : Int), .slice (some ⟨b, o, none⟩) n cap] := hp
   have HPR : Hid (RowV wr w.heap.size 128 [.int .i64 (level : Int), .slice (some ⟨b, o, none⟩) n cap]) := hp
   clear hpR
   have HCA : Hid (∀ (W : World) (v' : SlR) (l : List UInt8), BytSt w wr.heap.size [.int .i64 (level : Int), .slice (some ⟨b, o, none⟩) n cap] (enC x) W → OwnB W (w.heap.size + 1) v'.val l → l.length ≤ 10000 →
     Calls Try.prog 106 #[v'.val, x.k.val] W fun e w' => ∃ v2 : SlR, e = .returned v2.val ∧ OwnB w' (w.heap.size + 1) v2.val (l ++ bt its[k].key.length :: its[k].key) ∧ BytSt w wr.heap.size [.int .i64 (level : Int), .slice (some ⟨b, o, none⟩) n cap] (enC x) w') := fun W v' l hst ho hl => by
    refine (counted_any (w.heap.size + 1) v' x.k l its[k].key W ho (HEL.out.key.below hst.1) (fun y hy => by have := HEL.out.key.lt y hy; omega) hst.2.1.lt (by omega) (by omega)).mono ?_
    rintro e w' ⟨v2, he, ho2, hf2⟩
    exact ⟨v2, he, ho2, hst.next ho hf2⟩
   have HCV : Hid (∀ (W : World) (v' : SlR) (l : List UInt8), level = 0 → BytSt w wr.heap.size [.int .i64 (level : Int), .slice (some ⟨b, o, none⟩) n cap] (enC x) W → OwnB W (w.heap.size + 1) v'.val l → l.length ≤ 10000 →
     Calls Try.prog 106 #[v'.val, x.v.val] W fun e w' => ∃ v2 : SlR, e = .returned v2.val ∧ OwnB w' (w.heap.size + 1) v2.val (l ++ bt its[k].more.length :: its[k].more) ∧ BytSt w wr.heap.size [.int .i64 (level : Int), .slice (some ⟨b, o, none⟩) n cap] (enC x) w') := fun W v' l h0 hst ho hl => by
    refine (counted_any (w.heap.size + 1) v' x.v l its[k].more W ho ((HEL.out.val h0).below hst.1) (fun y hy => by have := (HEL.out.val h0).lt y hy; omega) hst.2.1.lt (by omega) (by omega)).mono ?_
    rintro e w' ⟨v2, he, ho2, hf2⟩
    exact ⟨v2, he, ho2, hst.next ho hf2⟩
   unfold SlR.val
   go_wp2_with (first
    | (refine wpList_load_mid (by rfl) 103 (.tmp 19) (by rfl) b (o + k * 10) (by rfl) (enC x) _ HX.out Try.underlying103 (by rfl) HSZ.out ?_)
    | (refine wp_storeR (by rfl) 103 (.tmp 5) (.tmp 20) (by rfl) wr.heap.size (by rfl) (enC x) (by rfl) HRN.out HZL.out HSZ.out (enC_one x) ?_; intro w1 hr1 hf1 hz1; obtain ⟨hst1, ho1⟩ := BytSt.enter hbel HPR.out HOW.out hr1 hf1; have q0 : w1.cell? ⟨wr.heap.size, 0, none⟩ = some (.slice x.k.a x.k.n x.k.cap) := (BytSt.cells hst1).2.1; clear hz1 hf1))
   refine (HCA.out w1 v _ hst1 ho1 (by have := HLN.out; omega)).mono ?_
   rintro e w2 ⟨v2, rfl, ho2, hst2⟩
   have q1 : w2.cell? ⟨w.heap.size, 0, none⟩ = some (.int .i64 (level : Int)) := (BytSt.cells hst2).1
   have q2 : w2.cell? ⟨wr.heap.size, 1, none⟩ = some (.slice x.v.a x.v.n x.v.cap) := (BytSt.cells hst2).2.2
   unfold SlR.val
   by_cases hl0 : level = 0
   ·have hlI : ((level : Int) == 0) = true := by simp [hl0]
    have HPS : Hid (prefB level n (its.take (k + 1)) = (prefB level n (its.take k) ++ bt its[k].key.length :: its[k].key) ++ bt its[k].more.length :: its[k].more) := by
     unfold Hid; rw [prefB_snoc level n its k hkl]; simp [itB, hl0]
    have HL0 : Hid (level = 0) := hl0
    clear hl0
    go_wp2_with fail
    refine (HCV.out w2 v2 _ HL0.out hst2 ho2 (by have := HLN.out; simp; omega)).mono ?_
    rintro e w3 ⟨v3, rfl, ho3, hst3⟩
    unfold SlR.val
    go_wp2
    refine ⟨⟨k + 1, v3, by omega, by go_num, rfl, ?_, hst3.1, hst3.2.1⟩, by simp [intOf]; omega⟩
    rw [HPS.out]; exact ho3
   ·have hlI : ((level : Int) == 0) = false := by simp; omega
    have HPS : Hid (prefB level n (its.take (k + 1)) = (prefB level n (its.take k) ++ bt its[k].key.length :: its[k].key) ++ its[k].more) := by
     unfold Hid; rw [prefB_snoc level n its k hkl]; simp [itB, hl0]
    have HD : Hid (SlB w2 (some ⟨wr.heap.size, 2, none⟩) its[k].more) := by
     have h1 := BytSt.dig hst2
     rw [HEL.out.dig hl0] at h1; exact h1
    have HML : Hid (8 = its[k].more.length) := by unfold Hid; rw [← HEL.out.dig hl0]; exact HEL.out.d8.symm
    clear hl0
    go_wp2_with (at_builtin; refine wp_appendB (by rfl) (.tmp 32) (.tmp 34) (by rfl) (w.heap.size + 1) _ (prefB level n (its.take k) ++ bt its[k].key.length :: its[k].key) (by rfl) ho2 (some ⟨wr.heap.size, 2, none⟩) 8 8 its[k].more (by rfl) HML.out HD.out (fun h => by cases h) (by have := HLN.out; simp; omega) (by have := hst2.2.1.lt; omega) ?_; intro a3 n3 c3 w3 hn3 ho3 hs3 hf3 hat3; have hst3 := BytSt.next hst2 ho2 hf3; clear hn3 hat3)
    refine ⟨⟨k + 1, ⟨a3, n3, c3⟩, by omega, by go_num, rfl, ?_, hst3.1, hst3.2.1⟩, by simp [intOf]; omega⟩
    rw [HPS.out]; exact ho3
  ·have HE : Hid (prefB level n (its.take k) = codeB level its) := by
    unfold Hid prefB codeB
    rw [List.take_of_length_le (by have := HN.out; omega), HN.out]
   unfold SlR.val
   go_wp2
   go_ret
   refine ⟨v, rfl, ?_, hbel⟩
   rw [← HE.out]
   exact owns_base hown (fun q hq => by have := (hown.lt q hq).1; omega)
end Go.Proofs.Ytekegfbjbainhaa
