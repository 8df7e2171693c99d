import Derived.Deep.RegionHeld3
import Derived.Test.YtekegfbjbainhaaKJoin18
set_option linter.unusedVariables false
set_option linter.unusedSimpArgs false

namespace Go.Proofs.Ytekegfbjbainhaa
open Go
section
variable {P : Program} {ops : Array Oper} {Q : Exit → Act → World → Prop} {md : Region.Mode} {S : World → Prop} {z : Nat}
def wpAnyU (P : Program) (md : Region.Mode) (ops : Array Oper) (Q : Exit → Act → World → Prop) (S : World → Prop) (z : Nat) : Nat → Array Bool → Act → World → Prop
 | 0, L, a, w => Region.ready md ops L = [] ∧ Q .normal a w
 | fuel + 1, L, a, w =>
  (Region.ready md ops L = [] → Q .normal a w) ∧
  ∀ i ∈ Region.ready md ops L, wpOp P ops Q i (fun a' w' => ((L.setIfInBounds i true).getD z true = false → S w') ∧ wpAnyU P md ops Q S z fuel (L.setIfInBounds i true) a' w') a w
theorem any_of_U : ∀ (fuel : Nat) (L : Array Bool) (a : Act) (w : World), wpAnyU P md ops Q S z fuel L a w → wpAny P md ops Q fuel L a w
 | 0, _, _, _, h => h
 | fuel + 1, _, _, _, h => ⟨h.1, fun i hi => wpOp_mono (fun a' w' h' => any_of_U fuel _ a' w' h'.2) (h.2 i hi)⟩
def waits (md : Region.Mode) (ops : Array Oper) (Z : List Nat) (i : Nat) : Bool :=
 Z.all fun y => match ops[y]? with
  | some o => o.after.any fun e => Region.binds md e && (e.on == i || Z.contains e.on)
  | none => false
theorem not_ready {Z : List Nat} {i : Nat} (hw : waits md ops Z i = true) {L : Array Bool} (hi : L.getD i true = false) (hZ : ∀ y ∈ Z, L.getD y true = false) {j : Nat} (hj : j ∈ Region.ready md ops L) : j ∉ Z := by
 intro hjZ
 obtain ⟨-, o, ho, hall⟩ := mem_ready.1 hj
 have h1 := List.all_eq_true.1 hw j hjZ
 rw [ho] at h1
 dsimp only at h1
 have key : ∀ x, L.getD x true = false → L.getD x false = true → False := by
  intro x h0 h1
  rcases Nat.lt_or_ge x L.size with h' | h'
  ·simp [h'] at h0 h1; rw [h0] at h1; cases h1
  ·simp [Array.getElem?_eq_none h'] at h1
 have : ∃ e ∈ o.after, Region.binds md e = true ∧ (e.on = i ∨ e.on ∈ Z) := by
  simp only [Array.any_eq_true] at h1
  obtain ⟨k, hk, h2⟩ := h1
  exact ⟨o.after[k], Array.getElem_mem hk, by simpa using h2⟩
 obtain ⟨e, he, hb, hor⟩ := this
 have h2 := hall e he hb
 rcases hor with h | h
 ·rw [h] at h2; exact key i hi h2
 ·exact key _ (hZ _ h) h2
theorem anyU_first {i : Nat} {oi : Oper} {v : Value} {Z : List Nat} (hi : ops[i]? = some oi) (hsel : ∀ (j : Nat) (o : Oper) cs b, ops[j]? = some o → o.op ≠ .select cs b)
  (hQ : ∀ c a w, Q (.panic c) (a.put oi.dst v) w → Q (.panic c) a w) (hw : waits md ops Z i = true) (hz : z ∈ Z) :
  ∀ (fuel : Nat) (L : Array Bool) (a : Act) (w : World),
   (∀ j oj, ops[j]? = some oj → j ≠ i → L.getD j true = false → (∀ e ∈ oj.after, Region.binds md e = true → e.on ≠ i) → oi.apart ops oj = true) →
   (∀ y ∈ Z, L.getD y true = false) → i ∉ Z →
   i ∈ Region.ready md ops L → YieldsIf P ops S oi v a → S w →
   wpAnyU P md ops Q S z fuel (L.setIfInBounds i true) (a.put oi.dst v) w → wpAnyU P md ops Q S z (fuel + 1) L a w := by
 intro fuel
 induction fuel with
 | zero =>
  intro L a w _ hZ _ hr hy hS H
  refine ⟨fun h => (by rw [h] at hr; cases hr), fun j hj => ?_⟩
  by_cases hji : j = i
  ·subst hji; exact hy.wpOp hi hS ⟨fun _ => hS, H⟩
  ·have := ready_mono hj hji
   rw [H.1] at this
   cases this
 | succ fuel ih =>
  intro L a w hfree hZ hiZ hr hy hS H
  refine ⟨fun h => (by rw [h] at hr; cases hr), fun j hj => ?_⟩
  by_cases hji : j = i
  ·subst hji; exact hy.wpOp hi hS ⟨fun _ => hS, H⟩
  ·have hi0 := (mem_ready.1 hr).1
   have hjZ := not_ready hw hi0 hZ hj
   have h1 := H.2 j (ready_mono hj hji)
   obtain ⟨hjun, oj, hoj, hall⟩ := mem_ready.1 hj
   have hnot : ∀ e ∈ oj.after, Region.binds md e = true → e.on ≠ i := fun e he hb heq => by
    have h1 := hall e he hb
    rw [heq] at h1
    rcases Nat.lt_or_ge i L.size with h' | h'
    ·simp [h'] at hi0 h1; rw [hi0] at h1; cases h1
    ·simp [Array.getElem?_eq_none h'] at h1
   have h2 := wpOp_putIf hoj (hfree j oj hoj hji hjun hnot) (fun cs b => hsel i oi cs b hi) (fun cs b => hsel j oj cs b hoj) hQ hy h1
   have hZ' : ∀ y ∈ Z, (L.setIfInBounds j true).getD y true = false := fun y hy => by
    rw [getD_set_ne true (fun e => hjZ (by rw [e]; exact hy))]; exact hZ y hy
   have hzi : ((L.setIfInBounds i true).setIfInBounds j true).getD z true = false := by
    rw [getD_set_ne true (fun e => hjZ (by rw [e]; exact hz)), getD_set_ne true (fun e => hiZ (by rw [e]; exact hz))]; exact hZ z hz
   have hfree' : ∀ k ok, ops[k]? = some ok → k ≠ i → (L.setIfInBounds j true).getD k true = false →
     (∀ e ∈ ok.after, Region.binds md e = true → e.on ≠ i) → oi.apart ops ok = true := fun k ok hk hki hun hno => by
    refine hfree k ok hk hki ?_ hno
    by_cases hjk : j = k
    ·subst hjk; exact hjun
    ·rw [getD_set_ne true hjk] at hun; exact hun
   refine wpOp_mono (fun a' w' h3 => ?_) h2
   have hS' := h3.2.1 hzi
   refine ⟨fun _ => hS', ih (L.setIfInBounds j true) a' w' hfree' hZ' hiZ (ready_mono hr (Ne.symm hji)) h3.1 hS' ?_⟩
   rw [Array.setIfInBounds_comm _ _ hji]
   exact h3.2.2
theorem anyU_take (i : Nat) (oi : Oper) (v : Value) (Z : List Nat) {fuel : Nat} {L : Array Bool} {a : Act} {w : World} (hi' : ops.toList[i]? = some oi)
  (hs : Region.noSelect ops = true) (hf : Region.free md ops L i = true) (hr : (Region.ready md ops L).contains i = true)
  (hQ : ∀ c a w, Q (.panic c) (a.put oi.dst v) w → Q (.panic c) a w) (hw : (waits md ops Z i && Z.contains z && Z.all (fun y => !(L.getD y true)) && !(Z.contains i)) = true)
  (hS : S w) (hy : YieldsIf P ops S oi v a)
  (h : wpAnyU P md ops Q S z fuel (L.setIfInBounds i true) (a.put oi.dst v) w) : wpAnyU P md ops Q S z (fuel + 1) L a w := by
 have hi : ops[i]? = some oi := by rw [← Array.getElem?_toList]; exact hi'
 simp only [Bool.and_eq_true, List.all_eq_true, Bool.not_eq_true', List.contains_iff_mem] at hw
 refine anyU_first hi (Region.noSelect_spec hs) hQ hw.1.1.1 hw.1.1.2 fuel L a w (Region.free_spec hi hf) hw.1.2 (fun hm => ?_) (by simpa using hr) hy hS h
 have := hw.2
 rw [List.contains_iff_mem.2 hm] at this
 cases this
theorem anyU_plain {i : Nat} {oi : Oper} {v : Value} (hi : ops[i]? = some oi) (hsel : ∀ (j : Nat) (o : Oper) cs b, ops[j]? = some o → o.op ≠ .select cs b)
  (hQ : ∀ c a w, Q (.panic c) (a.put oi.dst v) w → Q (.panic c) a w) (hiz : i ≠ z) :
  ∀ (fuel : Nat) (L : Array Bool) (a : Act) (w : World),
   (∀ j oj, ops[j]? = some oj → j ≠ i → L.getD j true = false → (∀ e ∈ oj.after, Region.binds md e = true → e.on ≠ i) → oi.apart ops oj = true) →
   i ∈ Region.ready md ops L → YieldsIf P ops (fun _ => True) oi v a → (L.getD z true = false → S w) →
   wpAnyU P md ops Q S z fuel (L.setIfInBounds i true) (a.put oi.dst v) w → wpAnyU P md ops Q S z (fuel + 1) L a w := by
 intro fuel
 induction fuel with
 | zero =>
  intro L a w _ hr hy hS H
  refine ⟨fun h => (by rw [h] at hr; cases hr), fun j hj => ?_⟩
  by_cases hji : j = i
  ·subst hji; exact hy.wpOp hi trivial ⟨fun h => hS (by rw [getD_set_ne true hiz] at h; exact h), H⟩
  ·have := ready_mono hj hji
   rw [H.1] at this
   cases this
 | succ fuel ih =>
  intro L a w hfree hr hy hS H
  refine ⟨fun h => (by rw [h] at hr; cases hr), fun j hj => ?_⟩
  by_cases hji : j = i
  ·subst hji; exact hy.wpOp hi trivial ⟨fun h => hS (by rw [getD_set_ne true hiz] at h; exact h), H⟩
  ·have hi0 := (mem_ready.1 hr).1
   have h1 := H.2 j (ready_mono hj hji)
   obtain ⟨hjun, oj, hoj, hall⟩ := mem_ready.1 hj
   have hnot : ∀ e ∈ oj.after, Region.binds md e = true → e.on ≠ i := fun e he hb heq => by
    have h1 := hall e he hb
    rw [heq] at h1
    rcases Nat.lt_or_ge i L.size with h' | h'
    ·simp [h'] at hi0 h1; rw [hi0] at h1; cases h1
    ·simp [Array.getElem?_eq_none h'] at h1
   have h2 := wpOp_putIf hoj (hfree j oj hoj hji hjun hnot) (fun cs b => hsel i oi cs b hi) (fun cs b => hsel j oj cs b hoj) hQ hy h1
   have hfree' : ∀ k ok, ops[k]? = some ok → k ≠ i → (L.setIfInBounds j true).getD k true = false →
     (∀ e ∈ ok.after, Region.binds md e = true → e.on ≠ i) → oi.apart ops ok = true := fun k ok hk hki hun hno => by
    refine hfree k ok hk hki ?_ hno
    by_cases hjk : j = k
    ·subst hjk; exact hjun
    ·rw [getD_set_ne true hjk] at hun; exact hun
   have hcm : (L.setIfInBounds i true).setIfInBounds j true = (L.setIfInBounds j true).setIfInBounds i true := Array.setIfInBounds_comm _ _ (Ne.symm hji)
   refine wpOp_mono (fun a' w' h3 => ?_) h2
   have hS' : (L.setIfInBounds j true).getD z true = false → S w' := fun hz => h3.2.1 (by rw [hcm, getD_set_ne true hiz]; exact hz)
   refine ⟨hS', ih (L.setIfInBounds j true) a' w' hfree' (ready_mono hr (Ne.symm hji)) h3.1 hS' ?_⟩
   rw [← hcm]
   exact h3.2.2
theorem anyU_move (i : Nat) (oi : Oper) (v : Value) {fuel : Nat} {L : Array Bool} {a : Act} {w : World} (hi' : ops.toList[i]? = some oi)
  (hs : Region.noSelect ops = true) (hf : Region.free md ops L i = true) (hr : (Region.ready md ops L).contains i = true)
  (hQ : ∀ c a w, Q (.panic c) (a.put oi.dst v) w → Q (.panic c) a w) (hiz : i ≠ z)
  (hS : S w) (hy : YieldsIf P ops (fun _ => True) oi v a)
  (h : wpAnyU P md ops Q S z fuel (L.setIfInBounds i true) (a.put oi.dst v) w) : wpAnyU P md ops Q S z (fuel + 1) L a w :=
 have hi : ops[i]? = some oi := by rw [← Array.getElem?_toList]; exact hi'
 anyU_plain hi (Region.noSelect_spec hs) hQ hiz fuel L a w (Region.free_spec hi hf) (by simpa using hr) hy (fun _ => hS) h
theorem anyU_one (i : Nat) (o : Oper) {fuel : Nat} {L : Array Bool} {a : Act} {w : World} (hr : Region.ready md ops L = [i]) (ho' : ops.toList[i]? = some o)
  (h : ∀ K' : Act → World → Prop, Shut (∀ a w, S w → wpAnyU P md ops Q S z fuel (L.setIfInBounds i true) a w → K' a w) → if Region.wanted o (yielded ops a.tmps) = true then Oper.wp P o a w K' Q else K' (a.put o.dst undef) w) :
  wpAnyU P md ops Q S z (fuel + 1) L a w :=
 ⟨fun h0 => (by rw [hr] at h0; cases h0), by
  rw [hr]
  intro j hj
  obtain rfl := List.mem_singleton.1 hj
  exact wpOp_step (by rw [← Array.getElem?_toList]; exact ho') (fun K' hK => h K' (fun a w hS hW => hK a w ⟨fun _ => hS, hW⟩))⟩
theorem anyU_past (i : Nat) (o : Oper) {fuel : Nat} {L : Array Bool} {a : Act} {w : World} (hr : Region.ready md ops L = [i]) (ho' : ops.toList[i]? = some o) (hz : (L.setIfInBounds i true).getD z true = true)
  (h : ∀ K' : Act → World → Prop, Shut (∀ a w, wpAnyU P md ops Q S z fuel (L.setIfInBounds i true) a w → K' a w) → if Region.wanted o (yielded ops a.tmps) = true then Oper.wp P o a w K' Q else K' (a.put o.dst undef) w) :
  wpAnyU P md ops Q S z (fuel + 1) L a w :=
 ⟨fun h0 => (by rw [hr] at h0; cases h0), by
  rw [hr]
  intro j hj
  obtain rfl := List.mem_singleton.1 hj
  exact wpOp_step (by rw [← Array.getElem?_toList]; exact ho') (fun K' hK => h K' (fun a w hW => hK a w ⟨fun h0 => (by rw [hz] at h0; cases h0), hW⟩))⟩
theorem anyU_done {L : Array Bool} {a : Act} {w : World} (hr : Region.ready md ops L = []) (h : Q .normal a w) :
  ∀ fuel, wpAnyU P md ops Q S z fuel L a w
 | 0 => ⟨hr, h⟩
 | _ + 1 => ⟨fun _ => h, by rw [hr]; simp⟩
theorem region_U {id : Nat} {a : Act} {w : World} (S : World → Prop) (z : Nat) (hm : P.follows .mixedOrders = true) (hS : S w.drew)
  (h : S w.drew → wpAnyU P .any ops Q S z ops.size (Array.replicate ops.size false) a w.drew) : (Code.region id ops true).wp P Q a w :=
 wp_region_any hm (any_of_U _ _ _ _ (h hS))
end
end Go.Proofs.Ytekegfbjbainhaa


namespace Go.Proofs.Ytekegfbjbainhaa
open Go.RowKit
theorem EnsK.frame {w W : World} {S : Nat → Prop} {base : Nat} {v : SlR} {es : List (SlR × SlR)} {l : List ItR} (h : EnsK w base v es l) (hf : Frame S w W) (hS : ∀ k, ensF v es k → ¬ S k) : EnsK W base v es l :=
 ⟨owns_frame h.own hf (fun k hk => hS k (Or.inl hk)), h.len, (BsL.frame (es := es) (l := l) ⟨h.len, h.bs⟩ hf (fun k hk => hS k (Or.inr hk))).2⟩
theorem EnsK.lt {w : World} {base : Nat} {v : SlR} {es : List (SlR × SlR)} {l : List ItR} (h : EnsK w base v es l) : ∀ k, ensF v es k → k < w.heap.size := fun k hk => by
 rcases hk with hk | ⟨e, he, hk⟩
 ·exact (h.own.lt k hk).2
 ·obtain ⟨i, hi, rfl⟩ := List.mem_iff_getElem.1 he
  have := h.bs i hi (by rw [← h.len]; exact hi)
  rcases hk with ⟨x, hx, rfl⟩ | ⟨x, hx, rfl⟩
  ·exact this.1.lt x hx
  ·exact this.2.lt x hx
structure HouD where
 hb : Nat
 sb : Nat
 N : Nat
 en : SlR
 tr : SlR
 mp : Option Nat
 ms : List MEn
 xs : List EnP
 its : List ItR
 tds : List Nd
 nw : SlR
 nes : List (SlR × SlR)
 pa : SlR
 pd : List (SlR × List (SlR × SlR))
 dn : SlR
 T : List (List (List Nd))
 pp : List (List ItR)
def HouD.E (d : HouD) (k : Nat) : Prop := ensF d.nw d.nes k ∨ ∃ p ∈ d.pd, ensF p.1 p.2 k
def HouD.St (d : HouD) (k : Nat) : Prop := stoF d.sb d.en d.tr d.mp d.ms d.xs d.tds k ∨ treeF d.T k
structure HouAt (w : World) (d : HouD) : Prop where
 row : RowV w d.hb 32 [.pointer (some ⟨d.sb, 0, none⟩), d.nw.val, d.pa.val, d.dn.val]
 sto : StoAt w d.sb d.N d.en d.tr d.mp d.ms d.xs d.its d.tds
 stt : StoT w d.sb d.mp d.ms d.T d.tds d.pp
 now : EnsK w 0 d.nw d.nes d.its
 pst : w.ownsRow 0 27 1 d.pa.val d.pd.length (d.pd.map (fun p => p.1.val))
 pl : d.pd.length = d.pp.length
 pds : ∀ i (h1 : i < d.pd.length) (h2 : i < d.pp.length), EnsK w 0 d.pd[i].1 d.pd[i].2 d.pp[i]
 don : w.ownsRow 0 49 18 d.dn.val d.tds.length (comsC (d.tds.map rootOf))
 t40 : d.tds.length ≤ 40
 nN : d.N ≤ 500 * d.tds.length
 sS : ∀ k, d.St k → k ≠ d.hb ∧ d.pa.val.ownBlock ≠ some k ∧ d.dn.val.ownBlock ≠ some k
 sE : ∀ k, d.E k → k ≠ d.hb ∧ ¬ KMut d.sb d.mp d.ms k ∧ d.pa.val.ownBlock ≠ some k ∧ d.dn.val.ownBlock ≠ some k
def HouD.M (d : HouD) (k : Nat) : Prop := k = d.hb ∨ KMut d.sb d.mp d.ms k ∨ d.pa.val.ownBlock = some k ∨ d.dn.val.ownBlock = some k
def HouD.F (d : HouD) (k : Nat) : Prop := d.St k ∨ d.E k ∨ k = d.hb ∨ d.pa.val.ownBlock = some k ∨ d.dn.val.ownBlock = some k
theorem HouAt.ltE {w : World} {d : HouD} (h : HouAt w d) : ∀ k, d.E k → k < w.heap.size := fun k hk => by
 rcases hk with hk | ⟨p, hp, hk⟩
 ·exact h.now.lt k hk
 ·obtain ⟨i, hi, rfl⟩ := List.mem_iff_getElem.1 hp
  exact (h.pds i hi (by rw [← h.pl]; exact hi)).lt k hk
theorem HouAt.frame {w W : World} {S : Nat → Prop} {d : HouD} (h : HouAt w d) (hf : Frame S w W) (hS : ∀ k, d.F k → ¬ S k) : HouAt W d :=
 ⟨h.row.of_block (hf.block _ h.row.lt (hS _ (Or.inr (Or.inr (Or.inl rfl))))), h.sto.frame hf (fun k hk => hS k (Or.inl (Or.inl hk))), h.stt.frame hf (fun k hk => hS k (Or.inl (Or.inr hk))), h.now.frame hf (fun k hk => hS k (Or.inr (Or.inl (Or.inl hk)))),
  owns_frame h.pst hf (fun k hk => hS k (Or.inr (Or.inr (Or.inr (Or.inl hk))))), h.pl, fun i h1 h2 => (h.pds i h1 h2).frame hf (fun k hk => hS k (Or.inr (Or.inl (Or.inr ⟨_, List.getElem_mem h1, hk⟩)))), owns_frame h.don hf (fun k hk => hS k (Or.inr (Or.inr (Or.inr (Or.inr hk))))), h.t40, h.nN, h.sS, h.sE⟩
theorem HouAt.below {w W : World} {d : HouD} (h : HouAt w d) (hb : Below w.heap.size w W) : HouAt W d := h.frame (Frame.of_below_all (S := fun _ => False) hb) (fun _ _ e => e)
theorem HouAt.hbsb {w : World} {d : HouD} (h : HouAt w d) : d.hb ≠ d.sb := fun e => (h.sS d.sb (Or.inl (Or.inl (Or.inl rfl)))).1 e.symm
theorem HouAt.turn {w w' : World} {d : HouD} {F : Nat → Prop} {l : List ItR} {e : Ending} (h : HouAt w d) (hF : ∀ k, F k → ¬ d.M k)
  (hp : hpost w d.hb d.sb d.N d.en d.tr d.mp d.ms d.xs d.its d.tds d.nw d.nes d.pa.val d.dn.val F l e w') :
  e = .returned (.bool true) ∧ ∃ d' : HouD, HouAt w' d' ∧ d'.hb = d.hb ∧ d'.its = l ∧ d'.tds = d.tds ∧ d'.pp = d.pp ∧ Frame d.M w w' ∧ (∀ k, d'.M k → d.M k) ∧ ∀ k, d'.F k → k < w.heap.size → d.F k ∨ F k := by
 obtain ⟨rfl, en', xs', nw', nes', h1, h2, h3, h4, h5, h6⟩ := hp
 have hsb : d.sb < w.heap.size := h.sto.row.lt
 have hhb : d.hb < w.heap.size := h.row.lt
 have hne := h.hbsb
 have hpb : ∀ k, d.pa.val.ownBlock = some k → ¬ (k = d.sb ∨ k = d.hb) := fun k hk e => by
  rcases e with rfl | rfl
  ·exact (h.sS d.sb (Or.inl (Or.inl (Or.inl rfl)))).2.1 hk
  ·exact owns_ne h.pst h.row (by decide) hk
 have hdb : ∀ k, d.dn.val.ownBlock = some k → ¬ (k = d.sb ∨ k = d.hb) := fun k hk e => by
  rcases e with rfl | rfl
  ·exact (h.sS d.sb (Or.inl (Or.inl (Or.inl rfl)))).2.2 hk
  ·exact owns_ne h.don h.row (by decide) hk
 have hEb : ∀ k, d.E k → ¬ (k = d.sb ∨ k = d.hb) := fun k hk e => by
  rcases e with rfl | rfl
  ·exact (h.sE _ hk).2.1 (Or.inl rfl)
  ·exact (h.sE _ hk).1 rfl
 have hTb : ∀ k, treeF d.T k → ¬ (k = d.sb ∨ k = d.hb) := fun k hk e => by
  rcases e with rfl | rfl
  ·obtain ⟨L, hL, nds, hn, x, hx, hk⟩ := hk
   exact (h.stt.good L hL nds hn x hx).2 _ hk (Or.inl rfl)
  ·exact (h.sS _ (Or.inr hk)).1 rfl
 have hz : w.heap.size ≤ w'.heap.size := h4.size
 refine ⟨rfl, ⟨d.hb, d.sb, d.N, en', d.tr, d.mp, d.ms, xs', l, d.tds, nw', nes', d.pa, d.pd, d.dn, d.T, d.pp⟩, ⟨h3, h1, h.stt.frame h4 hTb, h2, owns_frame h.pst h4 hpb, h.pl, fun i g1 g2 => (h.pds i g1 g2).frame h4 (fun k hk => hEb k (Or.inr ⟨_, List.getElem_mem g1, hk⟩)), owns_frame h.don h4 hdb, h.t40, h.nN, ?_, ?_⟩, rfl, rfl, rfl, rfl, ?_, ?_, ?_⟩
 ·intro k hk
  by_cases hlt : k < w.heap.size
  ·rcases hk with hk | hk
   ·exact h.sS k (Or.inl (h5 k hk hlt))
   ·exact h.sS k (Or.inr hk)
  ·exact ⟨fun e => hlt (by rw [e]; exact hhb), fun e => hlt (h.pst.lt k e).2, fun e => hlt (h.don.lt k e).2⟩
 ·intro k hk
  by_cases hlt : k < w.heap.size
  ·rcases hk with hk | hk
   ·rcases h6 k hk hlt with hk | hk
    ·exact h.sE k (Or.inl hk)
    ·exact ⟨fun e => hF k hk (Or.inl e), fun e => hF k hk (Or.inr (Or.inl e)), fun e => hF k hk (Or.inr (Or.inr (Or.inl e))), fun e => hF k hk (Or.inr (Or.inr (Or.inr e)))⟩
   ·exact h.sE k (Or.inr hk)
  ·exact ⟨fun e => hlt (by rw [e]; exact hhb), fun e => hlt (h.sto.lt k (Or.inl e)), fun e => hlt (h.pst.lt k e).2, fun e => hlt (h.don.lt k e).2⟩
 ·refine h4.mono (fun k _ hk => ?_)
  rcases hk with rfl | rfl
  ·exact Or.inr (Or.inl (Or.inl rfl))
  ·exact Or.inl rfl
 ·exact fun k hk => hk
 ·intro k hk hlt
  rcases hk with (hk | hk) | (hk | hk) | hk
  ·exact Or.inl (Or.inl (Or.inl (h5 k hk hlt)))
  ·exact Or.inl (Or.inl (Or.inr hk))
  ·exact (h6 k hk hlt).imp (fun e => Or.inr (Or.inl (Or.inl e))) id
  ·exact Or.inl (Or.inr (Or.inl (Or.inr hk)))
  ·exact Or.inl (Or.inr (Or.inr hk))
end Go.Proofs.Ytekegfbjbainhaa
