import Derived.Test.YtekegfbjbainhaaGreatKJoin5
import Derived.Test.YtekegfbjbainhaaGreatKRef2
import Derived.Lib.Bytealg
/- The reference's Commit, walked. -/
namespace Go.Proofs.YtekegfbjbainhaaGreat
set_option linter.unusedVariables false
set_option linter.unusedSimpArgs false
open Go.RowKit

theorem step_appendV {P : Program} {ops : Array Oper} {w : World} {o : Oper} {a : Act} {K : Act → World → Prop} {Q : Exit → Act → World → Prop} {E : Prop} (hgd : o.guard = none) (s x : Operand) (t : TypeId)
    (ho : o.op = .call { callee := .builtin .append, args := #[s, x], argTypes := #[t, t] })
    (base : Nat) (e : TypeId) (z : Value) (size bytes : Nat) (ht : P.underlying t = some (.slice e)) (hi : (P.info? e).map (fun i => (i.zero, i.size, i.bytes)) = some (some z, size, bytes)) (hzs : z.cells.size = size) (hsz : 0 < size)
    (v : Value) (n : Nat) (xs : List Value) (hs : a.eval s = v) (hown : w.ownsRow base e size v n xs)
    (ad : Addr) (m c : Nat) (news : List Value) (hx : a.eval x = .slice (some ad) m c) (hl : news.length = m * size) (hnews : SlV w (some ad) news) (h1 : ∀ u ∈ news, u.oneCell' = true)
    (h63 : n + m ≤ maxLen) (hbytes : (n + m) * bytes ≤ 140737488355328) (hbase : base ≤ w.heap.size)
    (h : ∀ a' n' cap' w', w'.ownsRow base e size (.slice a' n' cap') (n + m) (xs ++ news) → Frame (fun k => v.ownBlock = some k) w w' → ((Value.slice a' n' cap').ownBlock = v.ownBlock ∨ (Value.slice a' n' cap').ownBlock = some w.heap.size) → K (a.put o.dst (.slice a' n' cap')) w') :
    if Region.wanted o (yielded ops a.tmps) = true then Oper.wp P o a w K Q else E := by
  have hw : Region.wanted o (yielded ops a.tmps) = true := by simp [Region.wanted, hgd]
  rw [if_pos hw]
  refine op_appendV s x t ho base e z size bytes ht hi hzs hsz v n xs hs hown ad m c news hx hl hnews h1 h63 hbytes hbase ?_
  intro v' w' ho' hf hat
  obtain ⟨a', cap', rfl, _⟩ := owns_form ho'
  exact h a' _ cap' w' ho' hf hat

theorem Tryz.infoItems : (Tryz.prog.info? 78).map (fun i => (i.zero, i.size, i.bytes)) = some (some (.slice none 0 0), 1, 24) := by kernel_rfl
theorem Tryz.infoDigs : (Tryz.prog.info? 36).map (fun i => (i.zero, i.size, i.bytes)) = some (some (.agg #[.int .u8 0, .int .u8 0, .int .u8 0, .int .u8 0, .int .u8 0, .int .u8 0, .int .u8 0, .int .u8 0]), 8, 8) := by kernel_rfl
theorem Tryz.sizeCommit : (Tryz.prog.info? 103).map (·.size) = some 18 := by kernel_rfl

/-- The reference's store as it lies: what is there; of each commit what was there; the roots. -/
structure RefAt (W : World) (sb base : Nat) (now past roots : SlR) (nowL : List ItR) (pastL : List (SlR × List ItR)) (rootsL : List (List UInt8)) : Prop where
  row : RefRow W sb now.val past.val roots.val
  hnow : OwnI W base now.val nowL
  hpast : W.ownsRow base 78 1 past.val pastL.length (pastL.map (fun q => q.1.val))
  hpok : ∀ q ∈ pastL, OwnI W base q.1.val q.2
  hroots : W.ownsRow base 36 8 roots.val rootsL.length (digsC rootsL)
  h8 : ∀ d ∈ rootsL, d.length = 8

theorem RefAt.below {W W' : World} {sb base : Nat} {now past roots : SlR} {nowL : List ItR} {pastL : List (SlR × List ItR)} {rootsL : List (List UInt8)} (h : RefAt W sb base now past roots nowL pastL rootsL) (hb : Below W.heap.size W W') : RefAt W' sb base now past roots nowL pastL rootsL :=
  ⟨RowV.below h.row (RowV.lt h.row) hb, owns_below h.hnow hb, owns_below h.hpast hb, fun q hq => owns_below (h.hpok q hq) hb, owns_below h.hroots hb, h.h8⟩
theorem RefAt.drew {W : World} {sb base : Nat} {now past roots : SlR} {nowL : List ItR} {pastL : List (SlR × List ItR)} {rootsL : List (List UInt8)} (h : RefAt W sb base now past roots nowL pastL rootsL) : RefAt W.drew sb base now past roots nowL pastL rootsL :=
  ⟨h.row, h.hnow, h.hpast, h.hpok, h.hroots, h.h8⟩

/-- The end of a function with two results, the first in a row. -/
theorem ret_agg2 {fn : Func} {R : Ending → World → Prop} {a : Act} {w : World} {k k2 b T : Nat} {cs : List Value} {v2 : Value} {d : TypeDesc} (hf : fn.results = #[ResultVar.cell k T, ResultVar.tmp k2]) (ha : a.tmps.getD k undef = .pointer (some ⟨b, 0, none⟩)) (ha2 : a.tmps.getD k2 undef = v2)
    (hR : RowV w b T cs) (hu : Tryz.prog.underlying T = some d) (hd : d.isRow = true) (hi : (Tryz.prog.info? T).map (·.size) = some cs.length) (hdf : a.defers = []) (h : R (.returned (.tuple #[.agg cs.toArray, v2])) w) : bodyPost Tryz.prog fn R .ret a w := by
  refine bodyPost_ret (v := .tuple #[.agg cs.toArray, v2]) ?_ hdf h
  have hl := run_loadVar_mid (P := Tryz.prog) w b 0 T cs d hR.range hu hd hi
  have ha' : a.tmps[k]?.getD undef = .pointer (some ⟨b, 0, none⟩) := by rw [← ha]; simp [Array.getD_eq_getD_getElem?]
  have ha2' : a.tmps[k2]?.getD undef = v2 := by rw [← ha2]; simp [Array.getD_eq_getD_getElem?]
  unfold results
  rw [hf]
  simp [ha', ha2', hl, asAddr]

/-- A commit as a value: its number, the root, the head's size and sum. -/
def commitC (epoch : Nat) (root : List UInt8) (size : Nat) (sum : List UInt8) : List Value := [.int .i64 (epoch : Int)] ++ root.map u8c ++ [.int .i64 (size : Int)] ++ sum.map u8c
def zero18 : List Value := [.int .i64 0, .int .u8 0, .int .u8 0, .int .u8 0, .int .u8 0, .int .u8 0, .int .u8 0, .int .u8 0, .int .u8 0, .int .i64 0, .int .u8 0, .int .u8 0, .int .u8 0, .int .u8 0, .int .u8 0, .int .u8 0, .int .u8 0, .int .u8 0]

set_option maxRecDepth 100000 in
set_option maxHeartbeats 1000000 in
theorem refCommit_full (sb base : Nat) (now past roots : SlR) (nowL : List ItR) (pastL : List (SlR × List ItR)) (rootsL : List (List UInt8)) (w : World) (h : RefAt w sb base now past roots nowL pastL rootsL) (h40 : rootsL.length = 40) :
    Calls Tryz.prog 45 #[.pointer (some ⟨sb, 0, none⟩)] w fun e w' => e = .returned (.tuple #[.agg zero18.toArray, .int .i64 2]) ∧ Below w.heap.size w w' := by
  have hsb := RowV.lt h.row
  have c2 : w.cell? ⟨sb, 2, none⟩ = some (.slice roots.a roots.n roots.cap) := RowV.cell h.row 2 (by simp)
  have hrn : roots.n = 40 := by rw [← h40]; exact (SlV.ofOwn h.hroots).2
  rw [hrn] at c2
  clear h
  go_enter Tryz.func45, Tryz.ntmps45
  go_wp2
  exact ret_agg2 (k := 2) (k2 := 3) (cs := zero18) rfl rfl rfl (RowV.new_at _ _ _ _ (by simp)) Tryz.underlying103 rfl Tryz.sizeCommit rfl ⟨rfl, by go_grown⟩

end Go.Proofs.YtekegfbjbainhaaGreat

/- The reference's Commit, walked: one more. -/
namespace Go.Proofs.YtekegfbjbainhaaGreat
set_option linter.unusedVariables false
set_option linter.unusedSimpArgs false
open Go.RowKit
attribute [local go_sem ↓] Go.wp_at_zero Go.wp_at_succ

theorem partedN_pos (level : Nat) (l : List ItR) : 1 ≤ (partedN level l).length := (partF_length level l []).1
theorem grownF_ok : ∀ (f level : Nat) (l : List ItR), (∀ x ∈ l, ItOk x) → l.length ≤ 200 → ∀ ps ∈ grownF f level l, ps ≠ [] ∧ ∀ p ∈ ps, p.length ≤ 200 ∧ ∀ x ∈ p, ItOk x
  | 0, _, _, _, _, ps, hp => by cases hp
  | f + 1, level, l, hok, hl, ps, hp => by
    have hpart : partedN level l ≠ [] ∧ ∀ p ∈ partedN level l, p.length ≤ 200 ∧ ∀ x ∈ p, ItOk x :=
      ⟨fun e => by have := partedN_pos level l; rw [e] at this; simp at this, fun p hp => ⟨by have := partF_size level l [] p hp; simp at this; omega, parted_ok hok p hp⟩⟩
    unfold grownF at hp
    split at hp
    · simp only [List.mem_singleton] at hp
      subst hp; exact hpart
    · rename_i h1
      rcases List.mem_cons.1 hp with rfl | hp
      · exact hpart
      · refine grownF_ok f (level + 1) _ (nextF_ok level 0 _ (parted_ok hok)) ?_ ps hp
        rw [nextF_length]
        by_cases hne : l = []
        · subst hne; exact absurd rfl h1
        · have := partF_bound level l [] hne; unfold partedN; omega
theorem grownF_length : ∀ (f level : Nat) (l : List ItR), 1 ≤ f → 1 ≤ (grownF f level l).length ∧ (grownF f level l).length ≤ f
  | 0, _, _, h => absurd h (by omega)
  | f + 1, level, l, _ => by
    unfold grownF
    split
    · simp
    · cases f with
      | zero => simp [grownF]
      | succ f' => have := grownF_length (f' + 1) (level + 1) (nextF level 0 (partedN level l)) (by omega); simp; omega

/-- The root page: its level, its entries; the root. -/
def rootLevel (l : List ItR) : Nat := (grownN l).length - 1
def rootPage (l : List ItR) : List ItR := ((grownN l)[(grownN l).length - 1]?.getD []).headD []
def rootB (l : List ItR) : List UInt8 := digB (codeB (rootLevel l) (rootPage l))
theorem rootB_length (l : List ItR) : (rootB l).length = 8 := rfl

theorem lvls_last {lvls : List LevR} {l : List ItR} (hn : lvN lvls = grownN l) (hok : ∀ x ∈ l, ItOk x) (hl : l.length ≤ 200) :
    ∃ m s q ql rest, lvls.length = m + 1 ∧ m ≤ 6 ∧ lvls[m]? = some (s, (q, ql) :: rest) ∧ rootLevel l = m ∧ rootPage l = ql ∧ ql.length ≤ 200 ∧ ∀ x ∈ ql, ItOk x := by
  have hlen : (grownN l).length = lvls.length := by rw [← hn]; simp [lvN]
  obtain ⟨h1, h7⟩ := grownF_length 7 0 l (by omega)
  have h1 : 1 ≤ (grownN l).length := h1
  have h7 : (grownN l).length ≤ 7 := h7
  obtain ⟨⟨s, ps⟩, hq⟩ : ∃ x, lvls[lvls.length - 1]? = some x := ⟨_, List.getElem?_eq_getElem (by omega)⟩
  have hg : (grownN l)[lvls.length - 1]? = some (ps.map (·.2)) := by
    rw [← hn]; unfold lvN; rw [List.getElem?_map, hq]; rfl
  have hm := grownF_ok 7 0 l hok hl _ (List.mem_of_getElem? hg)
  cases ps with
  | nil => exact absurd rfl hm.1
  | cons x rest =>
    obtain ⟨q, ql⟩ := x
    refine ⟨lvls.length - 1, s, q, ql, rest, by omega, by omega, hq, ?_, ?_, (hm.2 ql (by simp)).1, (hm.2 ql (by simp)).2⟩
    · unfold rootLevel; rw [hlen]
    · unfold rootPage; rw [hlen, hg]; rfl

/-- The commit's own list, one more; then the store's field. -/
theorem RefAt.pushPast {W W1 : World} {sb base : Nat} {now past roots past' : SlR} {nowL : List ItR} {pastL : List (SlR × List ItR)} {rootsL : List (List UInt8)} (h : RefAt W sb base now past roots nowL pastL rootsL)
    (ho : W1.ownsRow base 78 1 past'.val (pastL.length + 1) (pastL.map (fun q => q.1.val) ++ [now.val])) (hf : Frame (fun k => past.val.ownBlock = some k) W W1) :
    RefAt (W1.setCell ⟨sb, 1, none⟩ past'.val) sb base now past' roots nowL (pastL ++ [(now, nowL)]) rootsL := by
  have hr1 : RefRow W1 sb now.val past.val roots.val := RowV.of_block h.row (hf.block _ (RowV.lt h.row) (fun e => owns_ne h.hpast h.row (by decide) e))
  have hf2 : Frame (fun k => k = sb) W1 (W1.setCell ⟨sb, 1, none⟩ past'.val) := (Frame.refl (fun k => k = sb) _).setCell (p := ⟨sb, 1, none⟩) rfl _
  have key : ∀ {base' e size n : Nat} {v : Value} {xs : List Value}, W.ownsRow base' e size v n xs → e ≠ 78 → e ≠ 91 → (W1.setCell ⟨sb, 1, none⟩ past'.val).ownsRow base' e size v n xs := fun {base' e size n v xs} hx h1 h2 => by
    have hx1 := owns_frame hx hf (fun k hk e' => owns_ne2 hx h.hpast h1 k hk e')
    exact owns_frame hx1 hf2 (fun k hk e' => owns_ne hx1 hr1 h2 (by rw [hk, e']))
  refine ⟨by simpa [RefRow] using RowV.set hr1 1 past'.val, key h.hnow (by decide) (by decide), ?_, ?_, key h.hroots (by decide) (by decide), h.h8⟩
  · rw [List.length_append, List.map_append]
    exact owns_frame ho hf2 (fun k hk e => owns_ne ho hr1 (by decide) (by rw [hk, e]))
  · intro q hq
    rcases List.mem_append.1 hq with hq | hq
    · exact key (h.hpok q hq) (by decide) (by decide)
    · simp only [List.mem_singleton] at hq
      subst hq; exact key h.hnow (by decide) (by decide)
theorem RefAt.pushRoot {W W1 : World} {sb base : Nat} {now past roots roots' : SlR} {nowL : List ItR} {pastL : List (SlR × List ItR)} {rootsL : List (List UInt8)} {d : List UInt8} (h : RefAt W sb base now past roots nowL pastL rootsL) (hd : d.length = 8)
    (ho : W1.ownsRow base 36 8 roots'.val (rootsL.length + 1) (digsC rootsL ++ d.map u8c)) (hf : Frame (fun k => roots.val.ownBlock = some k) W W1) :
    RefAt (W1.setCell ⟨sb, 2, none⟩ roots'.val) sb base now past roots' nowL pastL (rootsL ++ [d]) := by
  have hr1 : RefRow W1 sb now.val past.val roots.val := RowV.of_block h.row (hf.block _ (RowV.lt h.row) (fun e => owns_ne h.hroots h.row (by decide) e))
  have hf2 : Frame (fun k => k = sb) W1 (W1.setCell ⟨sb, 2, none⟩ roots'.val) := (Frame.refl (fun k => k = sb) _).setCell (p := ⟨sb, 2, none⟩) rfl _
  have key : ∀ {base' e size n : Nat} {v : Value} {xs : List Value}, W.ownsRow base' e size v n xs → e ≠ 36 → e ≠ 91 → (W1.setCell ⟨sb, 2, none⟩ roots'.val).ownsRow base' e size v n xs := fun {base' e size n v xs} hx h1 h2 => by
    have hx1 := owns_frame hx hf (fun k hk e' => owns_ne2 hx h.hroots h1 k hk e')
    exact owns_frame hx1 hf2 (fun k hk e' => owns_ne hx1 hr1 h2 (by rw [hk, e']))
  refine ⟨by simpa [RefRow] using RowV.set hr1 2 roots'.val, key h.hnow (by decide) (by decide), key h.hpast (by decide) (by decide), fun q hq => key (h.hpok q hq) (by decide) (by decide), ?_, ?_⟩
  · have e : digsC (rootsL ++ [d]) = digsC rootsL ++ d.map u8c := by simp [digsC]
    rw [List.length_append, e]
    exact owns_frame ho hf2 (fun k hk e => owns_ne ho hr1 (by decide) (by rw [hk, e]))
  · intro x hx
    rcases List.mem_append.1 hx with hx | hx
    · exact h.h8 x hx
    · simp only [List.mem_singleton] at hx; subst hx; exact hd
end Go.Proofs.YtekegfbjbainhaaGreat

/- The program's small parts: keys, bytes compared and cloned. -/
namespace Go.Proofs.YtekegfbjbainhaaGreat
set_option linter.unusedVariables false
set_option linter.unusedSimpArgs false
open Go.RowKit

/-- A slice of bytes as it lies: what it holds. -/
structure BS (w : World) (s : SlR) (l : List UInt8) : Prop where
  sl : SlB w s.a l
  n : s.n = l.length
  nil : s.a = none → s.cap = 0
  lt : ∀ x, s.a = some x → x.block < w.heap.size
theorem BS.frame {w w' : World} {S : Nat → Prop} {s : SlR} {l : List UInt8} (h : BS w s l) (hf : Frame S w w') (hS : ∀ x, s.a = some x → ¬ S x.block) : BS w' s l := ⟨h.sl.frame hf hS, h.n, h.nil, fun x hx => Nat.lt_of_lt_of_le (h.lt x hx) hf.size⟩
theorem BS.below {w w' : World} {s : SlR} {l : List UInt8} (h : BS w s l) (hf : Below w.heap.size w w') : BS w' s l := ⟨h.sl.below hf (Nat.le_refl _), h.n, h.nil, fun x hx => Nat.lt_of_lt_of_le (h.lt x hx) hf.size⟩

set_option maxRecDepth 100000 in
theorem isKey_any (a : Option Addr) (n cap : Nat) (w : World) (hn : n ≤ maxLen) :
    Calls Tryz.prog 27 #[.slice a n cap] w fun e w' => e = .returned (.bool (decide (1 ≤ n) && decide (n ≤ 12))) ∧ w' = w := by
  unfold maxLen at hn
  by_cases h1 : 1 ≤ n
  · by_cases h2 : n ≤ 12
    · have h1' : (1 : Int) ≤ n := by omega
      have h2' : (n : Int) ≤ 12 := by omega
      go_enter Tryz.func27, Tryz.ntmps27
      go_wp2
      go_ret
      exact ⟨by simp [h1, h2], rfl⟩
    · have h1' : (1 : Int) ≤ n := by omega
      have h2' : ¬ (n : Int) ≤ 12 := by omega
      go_enter Tryz.func27, Tryz.ntmps27
      go_wp2
      go_ret
      exact ⟨by simp [h1, h2], rfl⟩
  · have h1' : ¬ (1 : Int) ≤ n := by omega
    go_enter Tryz.func27, Tryz.ntmps27
    go_wp2
    go_ret
    exact ⟨by simp [h1], rfl⟩

set_option maxRecDepth 100000 in
theorem isValue_any (a : Option Addr) (n cap : Nat) (w : World) (hn : n ≤ maxLen) :
    Calls Tryz.prog 78 #[.slice a n cap] w fun e w' => e = .returned (.bool (decide (n ≤ 12))) ∧ w' = w := by
  unfold maxLen at hn
  by_cases h2 : n ≤ 12
  · have h2' : (n : Int) ≤ 12 := by omega
    go_enter Tryz.func78, Tryz.ntmps78
    go_wp2
    go_ret
    exact ⟨by simp [h2], rfl⟩
  · have h2' : ¬ (n : Int) ≤ 12 := by omega
    go_enter Tryz.func78, Tryz.ntmps78
    go_wp2
    go_ret
    exact ⟨by simp [h2], rfl⟩

/-- Bytes read out of memory, one by one. -/
theorem run_loadBytes {P : Program} {w : World} (b : Nat) : ∀ (l : List UInt8) (o : Nat) (acc : ByteArray), (∀ i (h : i < l.length), w.cell? ⟨b, o + i, none⟩ = some (.int .u8 (l[i].toNat : Int))) →
    (Extern.Bytes.loadBytes ⟨b, o, none⟩ l.length acc).run P w = .ok ⟨acc.data ++ l.toArray⟩ w
  | [], o, acc, h => by simp [Extern.Bytes.loadBytes]
  | x :: l, o, acc, h => by
    have h0 := h 0 (by simp)
    have ih := run_loadBytes (P := P) (w := w) b l (o + 1) (acc.push x) (fun i hi => by
      have := h (i + 1) (by simpa using hi)
      rw [show o + 1 + i = o + (i + 1) by omega]
      simpa using this)
    simp only [Nat.add_zero, List.getElem_cons_zero] at h0
    have hx : ((x.toNat : Int)).toNat.toUInt8 = x := by simp
    have ha : (Addr.add ⟨b, o, none⟩ 1) = ⟨b, o + 1, none⟩ := rfl
    have hl : (Go.load ⟨b, o, none⟩).run P w = .ok (.int .u8 (x.toNat : Int)) w := by
      simp [h0]
    simp only [List.length_cons, Extern.Bytes.loadBytes, Sem.run_bind, hl, Result.andThen, hx, ha, ih]
    congr 2
    simp [ByteArray.push]
theorem run_bytesOf {P : Program} {w : World} {s : SlR} {l : List UInt8} (h : BS w s l) : (Extern.Bytes.bytesOf s.val).run P w = .ok ⟨l.toArray⟩ w := by
  obtain ⟨a, n, cap⟩ := s
  obtain ⟨hs, hn, hnil, _⟩ := h
  simp only at hs hn hnil
  subst hn
  cases a with
  | none =>
    cases l with
    | nil => simp [SlR.val, Extern.Bytes.bytesOf]; rfl
    | cons y r => obtain ⟨b, o, ha, _⟩ := hs 0 (by simp); cases ha
  | some x =>
    simp only [SlR.val, Extern.Bytes.bytesOf]
    cases l with
    | nil => simp [Extern.Bytes.loadBytes]; rfl
    | cons y r =>
      obtain ⟨b, o, ha, _⟩ := hs 0 (by simp)
      cases ha
      rw [run_loadBytes b (y :: r) o _ (fun i hi => by
        obtain ⟨b', o', ha', _, hc⟩ := hs i hi
        cases ha'; exact hc)]
      congr 2
      simp [ByteArray.empty, ByteArray.emptyWithCapacity]
      try rfl

theorem run_compare {P : Program} {w : World} {s t : SlR} {l m : List UInt8} (h : BS w s l) (k : BS w t m) :
    (Extern.BytealgCompare.compare #[s.val, t.val]).run P w = .ok (.int .i64 (Lib.compareBytes l m)) w := by
  change Sem.run P (do pure (goInt (Extern.BytealgCompare.cmp (← Extern.Bytes.bytesOf s.val) (← Extern.Bytes.bytesOf t.val)))) w = _
  simp only [Sem.run_bind, Sem.run_pure, Result.andThen, run_bytesOf h, run_bytesOf k]
  rw [Lib.cmp_eq]
  rfl

theorem cmp_neg : ∀ (l m : List UInt8), (Lib.compareBytes l m < 0) ↔ Op.bytesLess l m = true
  | [], [] => by simp [Lib.compareBytes, Op.bytesLess]
  | [], _ :: _ => by simp [Lib.compareBytes, Op.bytesLess]
  | _ :: _, [] => by simp [Lib.compareBytes, Op.bytesLess]
  | a :: l, b :: m => by
    have ih := cmp_neg l m
    unfold Lib.compareBytes Op.bytesLess
    by_cases h1 : a < b
    · simp [h1]
    · by_cases h2 : b < a
      · have hne : ¬ a = b := fun e => by subst e; exact UInt8.lt_irrefl _ h2
        simp [h1, h2, hne]
      · have he : a = b := UInt8.le_antisymm (UInt8.not_lt.1 h2) (UInt8.not_lt.1 h1)
        subst he
        simp [h1, ih]
theorem cmp_zero : ∀ (l m : List UInt8), (Lib.compareBytes l m = 0) ↔ l = m
  | [], [] => by simp [Lib.compareBytes]
  | [], _ :: _ => by simp [Lib.compareBytes]
  | _ :: _, [] => by simp [Lib.compareBytes]
  | a :: l, b :: m => by
    have ih := cmp_zero l m
    unfold Lib.compareBytes
    by_cases h1 : a < b
    · have hne : ¬ a = b := fun e => by subst e; exact UInt8.lt_irrefl _ h1
      simp [h1, hne]
    · by_cases h2 : b < a
      · have hne : ¬ a = b := fun e => by subst e; exact UInt8.lt_irrefl _ h2
        simp [h1, h2, hne]
      · have he : a = b := UInt8.le_antisymm (UInt8.not_lt.1 h2) (UInt8.not_lt.1 h1)
        subst he
        simp [h1, ih]
theorem cmp_bd : ∀ (l m : List UInt8), -1 ≤ Lib.compareBytes l m ∧ Lib.compareBytes l m ≤ 1
  | [], [] => by simp [Lib.compareBytes]
  | [], _ :: _ => by simp [Lib.compareBytes]
  | _ :: _, [] => by simp [Lib.compareBytes]
  | a :: l, b :: m => by
    have ih := cmp_bd l m
    unfold Lib.compareBytes
    split
    · simp
    · split
      · simp
      · exact ih

set_option maxRecDepth 100000 in
theorem compare_any (s t : SlR) (l m : List UInt8) (w : World) (h : BS w s l) (k : BS w t m) :
    Calls Tryz.prog 63 #[s.val, t.val] w fun e w' => e = .returned (.int .i64 (Lib.compareBytes l m)) ∧ w' = w := by
  have hc := run_compare (P := Tryz.prog) h k
  unfold SlR.val at hc ⊢
  go_enter Tryz.func63, Tryz.ntmps63
  go_wp2
  rw [run_callFunc_extern Tryz.func106 (by kernel_rfl) (by kernel_rfl) (by kernel_rfl) (e := Extern.BytealgCompare.compare) (by kernel_rfl), hc]
  simp only [Result.andThen]
  rw [Oper.upon_value]
  go_wp2
  go_ret
  exact ⟨rfl, rfl⟩
end Go.Proofs.YtekegfbjbainhaaGreat
