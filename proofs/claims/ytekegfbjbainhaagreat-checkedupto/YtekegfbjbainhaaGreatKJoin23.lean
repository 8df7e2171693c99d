import Derived.Test.YtekegfbjbainhaaGreatKRefC6
import Derived.Test.YtekegfbjbainhaaGreatKJoin21
import Derived.Test.YtekegfbjbainhaaGreatKJoin22
import Derived.Test.YtekegfbjbainhaaGreatKJoin20
import Derived.WalkLawsBesides
set_option linter.unusedVariables false
set_option linter.unusedSimpArgs false

namespace Go.Proofs.YtekegfbjbainhaaGreat
open Go.RowKit
theorem takeR_len {n : Nat} {o : Option (List UInt8)} {r : List UInt8} (h : takeR n o = some r) : ∃ l, o = some l ∧ r.length + n = l.length := by
 cases o with
 | none => cases h
 | some l =>
  have h' : (if n ≤ l.length then some (l.drop n) else none) = some r := h
  split at h'
  ·cases h'; exact ⟨l, rfl, by rw [List.length_drop]; omega⟩
  ·cases h'
theorem entR_len {lv : Nat} {l r : List UInt8} (h : entR lv (some l) = some r) : r.length + 1 ≤ l.length := by
 have ho : ∃ l2, entO (some l) = some l2 ∧ r.length ≤ l2.length := by
  unfold entR at h
  split at h
  ·obtain ⟨l1, h1, e1⟩ := takeR_len h
   obtain ⟨l2, h2, e2⟩ := takeR_len h1
   exact ⟨l2, h2, by omega⟩
  ·obtain ⟨l2, h2, e2⟩ := takeR_len h
   exact ⟨l2, h2, by omega⟩
 obtain ⟨l2, h2, e2⟩ := ho
 unfold entO at h2
 obtain ⟨l3, h3, e3⟩ := takeR_len h2
 obtain ⟨l4, h4, e4⟩ := takeR_len h3
 cases h4
 omega
theorem itemsO_len (lv : Nat) : ∀ (n : Nat) (its : List ItR) (l : List UInt8) (res : List ItR), itemsO lv n its (some l) = some res → n ≤ l.length
 | 0, _, _, _, _ => Nat.zero_le _
 | n + 1, its, l, res, h => by
  unfold itemsO at h
  split at h
  ·cases e : entR lv (some l) with
   | none => rw [e, itemsO_none] at h; cases h
   | some r =>
    rw [e] at h
    have h1 := itemsO_len lv n _ r res h
    have h2 := entR_len e
    omega
  ·cases h
theorem pageF_len {b : List UInt8} {lv : Nat} {its : List ItR} (h : pageF b = some (lv, its)) : its.length + 2 ≤ b.length := by
 unfold pageF at h
 split at h
 case isFalse => cases h
 case isTrue hc =>
  cases e : itemsO (oneV (some b)) (oneV (takeR 1 (some b))) [] (takeR 1 (takeR 1 (some b))) with
  | none => rw [e] at h; cases h
  | some l =>
   rw [e] at h
   simp only [Option.map_some, Option.some.injEq, Prod.mk.injEq] at h
   obtain ⟨rfl, rfl⟩ := h
   obtain ⟨h1, h2, h3⟩ := itemsO_ok _ _ [] _ l e List.Pairwise.nil (fun x hx => by cases hx)
   cases e2 : takeR 1 (takeR 1 (some b)) with
   | none => rw [e2, itemsO_none] at e; cases e
   | some r =>
    rw [e2] at e
    have h4 := itemsO_len _ _ _ _ _ e
    obtain ⟨l1, g1, e1⟩ := takeR_len e2
    obtain ⟨l2, g2, e3⟩ := takeR_len g1
    cases g2
    rw [h2]; simp; omega
theorem pgO_len {s d : List UInt8} {lv : Nat} {its : List ItR} {r : List UInt8} (h : pgO (some s) d = some ((lv, its), r)) : its.length + r.length + 4 ≤ s.length := by
 unfold pgO at h
 split at h
 ·cases h
 ·rename_i r' hr
  split at h
  ·cases h
  ·rename_i p hp
   split at h
   ·simp only [Option.some.injEq, Prod.mk.injEq] at h
    obtain ⟨rfl, rfl⟩ := h
    have h1 := pageF_len hp
    obtain ⟨l1, g1, e1⟩ := takeR_len hr
    obtain ⟨l2, g2, e2⟩ := takeR_len g1
    obtain ⟨l3, g3, e3⟩ := takeR_len g2
    cases g3
    have h2 : (pgB (some s)).length = pgN (some s) := takeB_some hr
    omega
   ·cases h
theorem readU_len (fr tu : List UInt8) : ∀ (lv : Nat) (its : List ItR) (r : List UInt8) (es : List ItR) (r' : List UInt8), readU fr tu lv its r = some (es, r') → es.length + r'.length ≤ its.length + r.length
 | 0, its, r, es, r', h => by
  have h' : some (its, r) = some (es, r') := h
  simp only [Option.some.injEq, Prod.mk.injEq] at h'
  obtain ⟨rfl, rfl⟩ := h'
  omega
 | lv + 1, its, r, es, r', h => by
  have key : ∀ (sel : List ItR) (s : List ItR × List UInt8), sel.foldlM (stepU (readU fr tu lv) lv) s = some (es, r') → es.length + r'.length ≤ s.1.length + s.2.length := by
   intro sel
   induction sel with
   | nil => intro s hs; simp only [List.foldlM_nil] at hs; cases hs; exact Nat.le_refl _
   | cons x xs ih =>
    intro s hs
    simp only [List.foldlM_cons] at hs
    cases e : stepU (readU fr tu lv) lv s x with
    | none => rw [e] at hs; cases hs
    | some t =>
     rw [e] at hs
     have h1 := ih t hs
     unfold stepU at e
     split at e
     ·cases e
     ·rename_i l its' r1 hp
      split at e
      ·cases e2 : readU fr tu lv its' r1 with
       | none => rw [e2] at e; cases e
       | some q =>
        obtain ⟨q1, q2⟩ := q
        rw [e2] at e
        simp only [Option.map_some, Option.some.injEq] at e
        subst e
        have h2 := readU_len fr tu lv its' r1 q1 q2 e2
        have h3 := pgO_len hp
        simp at h1
        omega
      ·cases e
  have := key _ _ h
  simp at this
  omega
def entC (e : SlR × SlR) : List Value := [e.1.val, e.2.val]
def entsC (l : List (SlR × SlR)) : List Value := l.flatMap entC
theorem entsC_length (l : List (SlR × SlR)) : (entsC l).length = l.length * 2 := flat_length entC 2 l (fun _ _ => rfl)
theorem entsC_append (l m : List (SlR × SlR)) : entsC (l ++ m) = entsC l ++ entsC m := by simp [entsC]
theorem entsC_one (l : List (SlR × SlR)) : ∀ u ∈ entsC l, u.oneCell' = true := fun u hu => by
 obtain ⟨x, _, hx⟩ := List.mem_flatMap.1 hu
 simp only [entC, SlR.val, List.mem_cons, List.not_mem_nil, or_false] at hx
 rcases hx with rfl | rfl <;> rfl
theorem Tryz.infoEnt : (Tryz.prog.info? 164).map (fun i => (i.zero, i.size, i.bytes)) = some (some (.agg #[.slice none 0 0, .slice none 0 0]), 2, 48) := by kernel_rfl
structure EntsR (w : World) (base : Nat) (v : SlR) (es : List (SlR × SlR)) (l : List ItR) : Prop where
 own : w.ownsRow base 164 2 v.val es.length (entsC es)
 len : es.length = l.length
 bs : ∀ i (h1 : i < es.length) (h2 : i < l.length), BS w es[i].1 l[i].key ∧ BS w es[i].2 l[i].more
 ge : ∀ e ∈ es, ∀ x, (e.1.a = some x ∨ e.2.a = some x) → base ≤ x.block ∧ v.val.ownBlock ≠ some x.block
theorem EntsR.nil (w : World) (base : Nat) : EntsR w base ⟨none, 0, 0⟩ [] [] := ⟨World.ownsRow_nil _ _ _ _, rfl, fun i h => absurd h (Nat.not_lt_zero _), fun e he => (by cases he)⟩
theorem EntsR.frame {w w' : World} {S : Nat → Prop} {base : Nat} {v : SlR} {es : List (SlR × SlR)} {l : List ItR} (h : EntsR w base v es l) (hf : Frame S w w') (hS : ∀ k, S k → k < base) : EntsR w' base v es l :=
 ⟨owns_frame h.own hf (fun k hk e => by have := (h.own.lt k hk).1; have := hS k e; omega), h.len, fun i h1 h2 =>
  ⟨(h.bs i h1 h2).1.frame hf (fun x hx e => by have := (h.ge _ (List.getElem_mem h1) x (Or.inl hx)).1; have := hS _ e; omega),
   (h.bs i h1 h2).2.frame hf (fun x hx e => by have := (h.ge _ (List.getElem_mem h1) x (Or.inr hx)).1; have := hS _ e; omega)⟩, h.ge⟩
theorem EntsR.below {w w' : World} {base : Nat} {v : SlR} {es : List (SlR × SlR)} {l : List ItR} (h : EntsR w base v es l) (hf : Below w.heap.size w w') : EntsR w' base v es l := h.frame (Frame.of_below_all (S := fun _ => False) hf) (fun _ e => e.elim)
theorem EntsR.toBase {w : World} {base base' : Nat} {v : SlR} {es : List (SlR × SlR)} {l : List ItR} (h : EntsR w base v es l) (hb : base' ≤ base) : EntsR w base' v es l :=
 ⟨owns_base h.own (fun k hk => Nat.le_trans hb (h.own.lt k hk).1), h.len, h.bs, fun e he x hx => ⟨Nat.le_trans hb (h.ge e he x hx).1, (h.ge e he x hx).2⟩⟩
theorem EntsR.push {w w' : World} {base : Nat} {v v' : SlR} {es es2 : List (SlR × SlR)} {l l2 : List ItR} (h : EntsR w base v es l) (h2 : es2.length = l2.length) (hb : ∀ i (h1 : i < es2.length) (h2 : i < l2.length), BS w es2[i].1 l2[i].key ∧ BS w es2[i].2 l2[i].more)
  (hg : ∀ e ∈ es2, ∀ x, (e.1.a = some x ∨ e.2.a = some x) → base ≤ x.block ∧ v.val.ownBlock ≠ some x.block)
  (ho : w'.ownsRow base 164 2 v'.val (es.length + es2.length) (entsC es ++ entsC es2)) (hf : Frame (fun k => v.val.ownBlock = some k) w w') (hat : v'.val.ownBlock = v.val.ownBlock ∨ v'.val.ownBlock = some w.heap.size) : EntsR w' base v' (es ++ es2) (l ++ l2) := by
 have hlt : ∀ e, e ∈ es ++ es2 → ∀ x, (e.1.a = some x ∨ e.2.a = some x) → x.block < w.heap.size ∧ base ≤ x.block ∧ v.val.ownBlock ≠ some x.block := fun e he x hx => by
  rcases List.mem_append.1 he with he | he
  ·obtain ⟨i, hi, rfl⟩ := List.mem_iff_getElem.1 he
   refine ⟨?_, h.ge _ he x hx⟩
   rcases hx with hx | hx
   ·exact (h.bs i hi (by rw [← h.len]; exact hi)).1.lt x hx
   ·exact (h.bs i hi (by rw [← h.len]; exact hi)).2.lt x hx
  ·obtain ⟨i, hi, rfl⟩ := List.mem_iff_getElem.1 he
   refine ⟨?_, hg _ he x hx⟩
   rcases hx with hx | hx
   ·exact (hb i hi (by rw [← h2]; exact hi)).1.lt x hx
   ·exact (hb i hi (by rw [← h2]; exact hi)).2.lt x hx
 refine ⟨by rw [List.length_append, entsC_append]; exact ho, by rw [List.length_append, List.length_append, h.len, h2], fun i h1 h3 => ?_, fun e he x hx => ?_⟩
 ·have hm := List.getElem_mem h1
  have hB : BS w (es ++ es2)[i].1 (l ++ l2)[i].key ∧ BS w (es ++ es2)[i].2 (l ++ l2)[i].more := by
   by_cases hi : i < es.length
   ·rw [List.getElem_append_left hi, List.getElem_append_left (by rw [← h.len]; exact hi)]
    exact h.bs i hi (by rw [← h.len]; exact hi)
   ·have e1 : l.length ≤ i := by rw [← h.len]; omega
    rw [List.getElem_append_right (by omega), List.getElem_append_right e1]
    simp only [← h.len]
    exact hb _ _ _
  exact ⟨hB.1.frame hf (fun x hx e => (hlt _ hm x (Or.inl hx)).2.2 e), hB.2.frame hf (fun x hx e => (hlt _ hm x (Or.inr hx)).2.2 e)⟩
 ·obtain ⟨g1, g2, g3⟩ := hlt e he x hx
  refine ⟨g2, ?_⟩
  rcases hat with e' | e'
  ·rw [e']; exact g3
  ·rw [e']; intro e2; have e3 : w.heap.size = x.block := Option.some.inj e2; omega
end Go.Proofs.YtekegfbjbainhaaGreat


namespace Go.Proofs.YtekegfbjbainhaaGreat
open Go.RowKit
def patE (kb : Nat) : Nat → Value := fun j => if j % 2 = 0 then .slice (some ⟨kb, 0, none⟩) 2 2 else .slice none 0 0
structure MkAt (w : World) (m kb : Nat) : Prop where
 c0 : w.cell? ⟨kb, 0, none⟩ = some (.int .u8 ((m : Int) % 251))
 c1 : w.cell? ⟨kb, 1, none⟩ = some (.int .u8 9)
 lt : kb < w.heap.size
theorem MkAt.frame {w w' : World} {S : Nat → Prop} {m kb : Nat} (h : MkAt w m kb) (hf : Frame S w w') (hS : ¬ S kb) : MkAt w' m kb :=
 ⟨by rw [World.cell?_of_block (w := w) (w' := w') (a := ⟨kb, 0, none⟩) (hf.block kb h.lt hS)]; exact h.c0, by rw [World.cell?_of_block (w := w) (w' := w') (a := ⟨kb, 1, none⟩) (hf.block kb h.lt hS)]; exact h.c1, Nat.lt_of_lt_of_le h.lt hf.size⟩
theorem MkAt.below {w w' : World} {m kb : Nat} (h : MkAt w m kb) (hb : Below w.heap.size w w') : MkAt w' m kb := h.frame (Frame.of_below_all (S := fun _ => False) hb) (fun e => e)
set_option maxRecDepth 100000 in
set_option maxHeartbeats 1000000 in
theorem allEntries_any (s : SlR) (m kb : Nat) (w : World) (h : PatSl w (patE kb) 2 s) (hk : MkAt w m kb) (hn : s.n ≤ 140737488355328) (hm : m ≤ 140737488355328) :
  Calls Tryz.prog 59 #[s.val, .int .i64 (m : Int)] w fun e w' => e = .returned (.bool true) ∧ w' = w := by
 have hmI : (m : Int) ≤ 140737488355328 := by omega
 have hm0 : (0 : Int) ≤ m := by omega
 have hnI : (s.n : Int) ≤ 140737488355328 := by omega
 have HP : Hid (PatSl w (patE kb) 2 s) := h
 have q0 := hk.c0
 have q1 := hk.c1
 clear h hk
 unfold SlR.val
 go_enter Tryz.func59, Tryz.ntmps59
 go_wp2
 go_loop [5] (fun i => ∃ k : Nat, k ≤ s.n ∧ i = .int .i64 k) (fun i => s.n - (intOf i).toNat)
 case atStart => exact ⟨0, by omega, rfl⟩
 case round =>
  obtain ⟨k, hk, rfl⟩ := hrel
  by_cases hlt : k < s.n
  ·have hltI : (k : Int) < s.n := by omega
   obtain ⟨g, ha, hg, hc⟩ := HP.out (k * 2) (by omega)
   obtain ⟨g', ha', hg', hc'⟩ := HP.out (k * 2 + 1) (by omega)
   rw [ha] at ha'; cases ha'
   have e0 : w.cell? ⟨g, k * 2, none⟩ = some (.slice (some ⟨kb, 0, none⟩) 2 2) := by rw [hc]; unfold patE; rw [if_pos (by omega)]
   have e1 : w.cell? ⟨g, k * 2 + 1, none⟩ = some (.slice none 0 0) := by rw [hc']; unfold patE; rw [if_neg (by omega)]
   rw [ha]
   clear hc hc'
   go_wp2
   go_round
   case rel => exact ⟨k + 1, by omega, by go_num⟩
   case measure => simp [intOf]; omega
  ·have hltI : ¬ (k : Int) < s.n := by omega
   go_wp2
   go_ret
   exact ⟨rfl, rfl⟩
set_option maxRecDepth 100000 in
set_option maxHeartbeats 1000000 in
theorem stillE_any (r : BkR) (m kb : Nat) (w : World) (h : BkOk w (patE kb) 2 r) (hk : MkAt w m kb) (hm : m ≤ 140737488355328) :
  Calls Tryz.prog 26 #[.agg (bkC r m).toArray] w fun e w' => e = .returned (.bool true) ∧ Below w.heap.size w w' := by
 have hb : Below w.heap.size w (w.alloc (.cells #[.slice r.l.a r.l.n r.l.cap, .slice r.one.a r.one.n r.one.cap, .slice r.two.a r.two.n r.two.cap, .slice r.three.a r.three.n r.three.cap, .int .i64 (m : Int)] 65)) := (Below.refl _ _).alloc (Nat.le_refl _) _
 have h' := h.below hb
 have hk' := hk.below hb
 have H1 : Hid (Calls _ _ _ _ _) := allEntries_any r.l m kb _ h'.l hk' (by have := h.nl; omega) hm
 have H2 : Hid (Calls _ _ _ _ _) := allEntries_any r.one m kb _ h'.one hk' (by have := h.n1; omega) hm
 have H3 : Hid (Calls _ _ _ _ _) := allEntries_any r.two m kb _ h'.two hk' (by have := h.n2; omega) hm
 have H4 : Hid (Calls _ _ _ _ _) := allEntries_any r.three m kb _ h'.three hk' (by have := h.n3; omega) hm
 clear h h' hb hk hk'
 unfold bkC
 unfold SlR.val at H1 H2 H3 H4 ⊢
 go_enter Tryz.func26, Tryz.ntmps26
 go_wp2_with fail
 refine H1.out.mono ?_
 rintro e w1 ⟨rfl, rfl⟩
 go_wp2_with fail
 refine H2.out.mono ?_
 rintro e w1 ⟨rfl, rfl⟩
 go_wp2_with fail
 refine H3.out.mono ?_
 rintro e w1 ⟨rfl, rfl⟩
 go_wp2_with fail
 refine H4.out.mono ?_
 rintro e w1 ⟨rfl, rfl⟩
 go_wp2
 go_ret
 exact ⟨rfl, by go_grown⟩
end Go.Proofs.YtekegfbjbainhaaGreat


namespace Go.Proofs.YtekegfbjbainhaaGreat
open Go.RowKit
theorem Tryz.sizeEnts : (Tryz.prog.info? 65).map (·.size) = some 5 := by kernel_rfl
theorem patE_one (kb : Nat) : ∀ j, (patE kb j).oneCell' = true := fun j => by unfold patE; split <;> rfl
theorem patE_shift (kb k q : Nat) : patL (fun j => patE kb (k * 2 + j)) (q * 2) = patL (patE kb) (q * 2) := by
 unfold patL
 refine List.map_congr_left (fun j _ => ?_)
 unfold patE
 have : (k * 2 + j) % 2 = j % 2 := by omega
 rw [this]
theorem mark_moreE {W : World} {base k kb : Nat} {v : Value} (q : Nat) (h : W.ownsRow base 164 2 v k (patL (patE kb) (k * 2))) : (W.alloc (.cells (patL (patE kb) (q * 2)).toArray 164)).ownsRow base 164 2 v k (patL (patE kb) (k * 2)) ∧ SlV (W.alloc (.cells (patL (patE kb) (q * 2)).toArray 164)) (some ⟨W.heap.size, 0, none⟩) (patL (fun j => patE kb (k * 2 + j)) (q * 2)) := by
 refine ⟨h.alloc _, ?_⟩
 rw [patE_shift]
 exact SlV.alloc_new W _ _
theorem patE_set2 (kb : Nat) (xs : List Value) (k : Nat) (h : k * 2 + 1 < xs.length) : ((patL (patE kb) (k * 2) ++ xs.drop (k * 2)).set (k * 2) (.slice (some ⟨kb, 0, none⟩) 2 2)).set (k * 2 + 1) (.slice none 0 0) = patL (patE kb) ((k + 1) * 2) ++ xs.drop ((k + 1) * 2) := by
 have e0 : (.slice (some ⟨kb, 0, none⟩) 2 2 : Value) = patE kb (k * 2) := by unfold patE; rw [if_pos (by omega)]
 have e1 : (.slice none 0 0 : Value) = patE kb (k * 2 + 1) := by unfold patE; rw [if_neg (by omega)]
 rw [e0, e1, pat_set _ _ _ (by omega), pat_set _ _ _ (by omega), show (k + 1) * 2 = k * 2 + 1 + 1 by omega]
def ownEPost (w : World) (v : SlR) (m : Nat) (e : Ending) (w' : World) : Prop := ∃ (r : BkR) (kb : Nat), e = .returned (.agg (bkC r m).toArray) ∧ BkOk w' (patE kb) 2 r ∧ MkAt w' m kb ∧ Frame (fun k => v.val.ownBlock = some k) w w' ∧ (∀ k, bkF r k → v.val.ownBlock = some k ∨ w.heap.size + 1 < k) ∧ kb = w.heap.size + 1
set_option maxRecDepth 100000 in
set_option maxHeartbeats 4000000 in
theorem ownEntries_any (v : SlR) (n : Nat) (xs : List Value) (base m : Nat) (w : World) (ho : w.ownsRow base 164 2 v.val n xs) (hL : n ≤ 1000000000) (hm : m ≤ 140737488355328) (hb : base ≤ w.heap.size) :
  Calls Tryz.prog 110 #[v.val, .int .i64 (m : Int)] w (ownEPost w v m) := by
 have hcp := owns_cap (a := v.a) (n' := v.n) (cap := v.cap) ho
 obtain ⟨va, vn, vc⟩ := v
 unfold SlR.val at ho ⊢
 simp only at ho hcp
 obtain ⟨h1, h2, h3, h4⟩ := hcp
 subst h1
 have hmI : (m : Int) ≤ 140737488355328 := by omega
 have hm0 : (0 : Int) ≤ m := by omega
 have hA : Below w.heap.size w (((w.alloc (.cells #[.slice none 0 0, .slice none 0 0, .slice none 0 0, .slice none 0 0, .int .i64 0] 65)).alloc (.cells #[.int .u8 ((m : Int) % 251), .int .u8 9] 5)).alloc (.cells #[.slice (some ⟨w.heap.size + 1, 0, none⟩) 2 2, .slice none 0 0] 164)) := (((Below.refl _ _).alloc (Nat.le_refl _) _).alloc (by simp) _).alloc (by simp; omega) _
 have hxl : xs.length = vn * 2 := ho.1
 have HR0 : Hid (RowV (((w.alloc (.cells #[.slice none 0 0, .slice none 0 0, .slice none 0 0, .slice none 0 0, .int .i64 0] 65)).alloc (.cells #[.int .u8 ((m : Int) % 251), .int .u8 9] 5)).alloc (.cells #[.slice (some ⟨w.heap.size + 1, 0, none⟩) 2 2, .slice none 0 0] 164)) w.heap.size 65 [.slice none 0 0, .slice none 0 0, .slice none 0 0, .slice none 0 0, .int .i64 0]) := ((RowV.new w _ _).alloc _).alloc _
 have HK0 : Hid (RowV (((w.alloc (.cells #[.slice none 0 0, .slice none 0 0, .slice none 0 0, .slice none 0 0, .int .i64 0] 65)).alloc (.cells #[.int .u8 ((m : Int) % 251), .int .u8 9] 5)).alloc (.cells #[.slice (some ⟨w.heap.size + 1, 0, none⟩) 2 2, .slice none 0 0] 164)) (w.heap.size + 1) 5 [.int .u8 ((m : Int) % 251), .int .u8 9]) := (RowV.new_at _ _ _ _ (by simp)).alloc _
 have HX0 : Hid (RowV (((w.alloc (.cells #[.slice none 0 0, .slice none 0 0, .slice none 0 0, .slice none 0 0, .int .i64 0] 65)).alloc (.cells #[.int .u8 ((m : Int) % 251), .int .u8 9] 5)).alloc (.cells #[.slice (some ⟨w.heap.size + 1, 0, none⟩) 2 2, .slice none 0 0] 164)) (w.heap.size + 1 + 1) 164 [.slice (some ⟨w.heap.size + 1, 0, none⟩) 2 2, .slice none 0 0]) := RowV.new_at _ _ _ _ (by simp)
 have HO0 : Hid ((((w.alloc (.cells #[.slice none 0 0, .slice none 0 0, .slice none 0 0, .slice none 0 0, .int .i64 0] 65)).alloc (.cells #[.int .u8 ((m : Int) % 251), .int .u8 9] 5)).alloc (.cells #[.slice (some ⟨w.heap.size + 1, 0, none⟩) 2 2, .slice none 0 0] 164)).ownsRow base 164 2 (.slice va vn vc) vn xs) := owns_below ho hA
 have HF0 : Hid (Frame (fun k => (Value.slice va vn vc).ownBlock = some k) w (((w.alloc (.cells #[.slice none 0 0, .slice none 0 0, .slice none 0 0, .slice none 0 0, .int .i64 0] 65)).alloc (.cells #[.int .u8 ((m : Int) % 251), .int .u8 9] 5)).alloc (.cells #[.slice (some ⟨w.heap.size + 1, 0, none⟩) 2 2, .slice none 0 0] 164))) := Frame.of_below_all hA
 have HVL : Hid (∀ k, (Value.slice va vn vc).ownBlock = some k → base ≤ k ∧ k < w.heap.size) := ho.lt
 have hnI : (vn : Int) ≤ 1000000000 := by omega
 have HAD : Hid (va = none ∧ vn = 0 ∧ vc = 0 ∨ ∃ g, va = some ⟨g, 0, none⟩ ∧ base ≤ g ∧ g < w.heap.size) := h4
 have HB : Hid (base ≤ w.heap.size) := hb
 have HL : Hid (vn ≤ 1000000000) := hL
 have HXL : Hid (xs.length = vn * 2) := hxl
 clear hA ho h2 h3 h4 hb hL hxl
 go_enter Tryz.func110, Tryz.ntmps110
 go_upto_region 2 with fail
 generalize ((w.alloc (.cells #[.slice none 0 0, .slice none 0 0, .slice none 0 0, .slice none 0 0, .int .i64 0] 65)).alloc (.cells #[.int .u8 ((m : Int) % 251), .int .u8 9] 5)).alloc (.cells #[.slice (some ⟨w.heap.size + 1, 0, none⟩) 2 2, .slice none 0 0] 164) = W at *
 generalize hxb : w.heap.size + 1 + 1 = xb at *
 generalize hkb : w.heap.size + 1 = kb at *
 have HXB : Hid (xb = w.heap.size + 2) := by unfold Hid; omega
 have HKB : Hid (kb = w.heap.size + 1) := by unfold Hid; omega
 have hne1 : xb ≠ w.heap.size := by have := HXB.out; omega
 clear hxb hkb
 go_wp2
 go_loopw [6] (fun i wr => ∃ k : Nat, k ≤ vn ∧ i = .int .i64 k ∧ Hid (wr.ownsRow base 164 2 (.slice va vn vc) vn (patL (patE kb) (k * 2) ++ xs.drop (k * 2))) ∧ Hid (Frame (fun k => (Value.slice va vn vc).ownBlock = some k) w wr) ∧ Hid (RowV wr w.heap.size 65 [.slice none 0 0, .slice none 0 0, .slice none 0 0, .slice none 0 0, .int .i64 0]) ∧ Hid (RowV wr kb 5 [.int .u8 ((m : Int) % 251), .int .u8 9]) ∧ Hid (RowV wr xb 164 [.slice (some ⟨kb, 0, none⟩) 2 2, .slice none 0 0])) (fun i _ => vn - (intOf i).toNat)
 case atStart => exact ⟨0, by omega, by simp, by unfold Hid; simpa [patL] using HO0.out, HF0, HR0, HK0, HX0⟩
 case round =>
  obtain ⟨k, hk, rfl, HO, HF, HR, HK, HX⟩ := hrel
  have x0 := HX.out.cell 0 (by simp)
  have x1 := HX.out.cell 1 (by simp)
  simp only [List.getElem_cons_zero, List.getElem_cons_succ] at x0 x1
  have hkM : (k : Int) ≤ 1000000000 := by omega
  by_cases hlt : k < vn
  ·have hltI : (k : Int) < vn := by omega
   obtain ⟨g, hva, hbg, hgw⟩ : ∃ g, va = some ⟨g, 0, none⟩ ∧ base ≤ g ∧ g < w.heap.size := by
    rcases HAD.out with ⟨_, h0, _⟩ | h
    ·omega
    ·exact h
   subst hva
   have hkx : k * 2 + 1 < xs.length := by have := HXL.out; omega
   have hlen : (patL (patE kb) (k * 2) ++ xs.drop (k * 2)).length = xs.length := by rw [List.length_append, patL_length, List.length_drop]; omega
   obtain ⟨u0, hu0⟩ : ∃ u, (patL (patE kb) (k * 2) ++ xs.drop (k * 2))[k * 2]? = some u := ⟨_, List.getElem?_eq_getElem (by rw [hlen]; omega)⟩
   obtain ⟨u1, hu1⟩ : ∃ u, (patL (patE kb) (k * 2) ++ xs.drop (k * 2))[k * 2 + 1]? = some u := ⟨_, List.getElem?_eq_getElem (by rw [hlen]; omega)⟩
   have c0 := World.ownsRow.cellAt HO.out (k * 2) (by omega)
   have c1 := World.ownsRow.cellAt HO.out (k * 2 + 1) (by omega)
   rw [hu0] at c0
   rw [hu1] at c1
   have f0 := World.ownsRow.frozenAt HO.out (k * 2)
   have f1 := World.ownsRow.frozenAt HO.out (k * 2 + 1)
   have HO' : Hid (((wr.setCell ⟨g, k * 2, none⟩ (.slice (some ⟨kb, 0, none⟩) 2 2)).setCell ⟨g, k * 2 + 1, none⟩ (.slice none 0 0)).ownsRow base 164 2 (.slice (some ⟨g, 0, none⟩) vn vc) vn (patL (patE kb) ((k + 1) * 2) ++ xs.drop ((k + 1) * 2))) := by
    have h1 := (World.ownsRow.stored HO.out (k * 2) (.slice (some ⟨kb, 0, none⟩) 2 2)).1
    have h2 := (World.ownsRow.stored h1 (k * 2 + 1) (.slice none 0 0)).1
    rw [patE_set2 kb xs k hkx] at h2
    exact h2
   have hft : Frame (fun q => (Value.slice (some ⟨g, 0, none⟩) vn vc).ownBlock = some q) wr ((wr.setCell ⟨g, k * 2, none⟩ (.slice (some ⟨kb, 0, none⟩) 2 2)).setCell ⟨g, k * 2 + 1, none⟩ (.slice none 0 0)) := ((Frame.refl (fun q => (Value.slice (some ⟨g, 0, none⟩) vn vc).ownBlock = some q) wr).setCell (p := ⟨g, k * 2, none⟩) rfl _).setCell (p := ⟨g, k * 2 + 1, none⟩) rfl _
   have hno : ∀ q, w.heap.size ≤ q → ¬ (Value.slice (some ⟨g, 0, none⟩) vn vc).ownBlock = some q := fun q hq e => by have := (HVL.out q e).2; omega
   have HF' : Hid (Frame (fun k => (Value.slice (some ⟨g, 0, none⟩) vn vc).ownBlock = some k) w ((wr.setCell ⟨g, k * 2, none⟩ (.slice (some ⟨kb, 0, none⟩) 2 2)).setCell ⟨g, k * 2 + 1, none⟩ (.slice none 0 0))) := HF.out.trans hft
   have HR' : Hid (RowV ((wr.setCell ⟨g, k * 2, none⟩ (.slice (some ⟨kb, 0, none⟩) 2 2)).setCell ⟨g, k * 2 + 1, none⟩ (.slice none 0 0)) w.heap.size 65 [.slice none 0 0, .slice none 0 0, .slice none 0 0, .slice none 0 0, .int .i64 0]) := RowV.of_block HR.out (hft.block _ HR.out.lt (hno _ (Nat.le_refl _)))
   have HK' : Hid (RowV ((wr.setCell ⟨g, k * 2, none⟩ (.slice (some ⟨kb, 0, none⟩) 2 2)).setCell ⟨g, k * 2 + 1, none⟩ (.slice none 0 0)) kb 5 [.int .u8 ((m : Int) % 251), .int .u8 9]) := RowV.of_block HK.out (hft.block _ HK.out.lt (hno _ (by have := HKB.out; omega)))
   have HX' : Hid (RowV ((wr.setCell ⟨g, k * 2, none⟩ (.slice (some ⟨kb, 0, none⟩) 2 2)).setCell ⟨g, k * 2 + 1, none⟩ (.slice none 0 0)) xb 164 [.slice (some ⟨kb, 0, none⟩) 2 2, .slice none 0 0]) := RowV.of_block HX.out (hft.block _ HX.out.lt (hno _ (by have := HXB.out; omega)))
   clear hbg hgw hft hno hlen hu0 hu1
   go_wp2
   exact ⟨⟨k + 1, by omega, by go_num, HO', HF', HR', HK', HX'⟩, by simp [intOf]; omega⟩
  ·obtain rfl : k = vn := by omega
   have hltI : ¬ (k : Int) < k := by omega
   have HO1 : Hid (wr.ownsRow base 164 2 (.slice va k vc) k (patL (patE kb) (k * 2))) := by
    have := HO.out
    rw [List.drop_eq_nil_of_le (by rw [HXL.out]; exact Nat.le_refl _), List.append_nil] at this
    exact this
   clear HO
   have hva := HVL.out
   have HN1 : Hid (∀ q, (Value.slice va k vc).ownBlock = some q → q < w.heap.size) := fun q hq => (HVL.out q hq).2
   have HKR : Hid (∀ (W1 W2 : World) (b : Nat) (T : Nat) (l : List Value), w.heap.size ≤ b → RowV W1 b T l → Frame (fun q => (Value.slice va k vc).ownBlock = some q) W1 W2 → RowV W2 b T l) := fun W1 W2 b T l hb h hf => h.of_block (hf.block _ h.lt (fun e => by have := HN1.out _ e; omega))
   have HBW : Hid (base ≤ wr.heap.size) := Nat.le_trans HB.out HF.out.size
   have hkb1 : w.heap.size ≤ kb := by have := HKB.out; omega
   have hxb1 : w.heap.size ≤ xb := by have := HXB.out; omega
   clear hva
   go_wp2_with (first
    | (at_builtin; have ox1 : (wr.alloc (.cells #[.slice (some ⟨kb, 0, none⟩) 2 2, .slice none 0 0] 164)).ownsRow base 164 2 (.slice va k vc) k (patL (patE kb) (k * 2)) := (mark_moreE 1 HO1.out).1; have sx1 : SlV (wr.alloc (.cells #[.slice (some ⟨kb, 0, none⟩) 2 2, .slice none 0 0] 164)) (some ⟨wr.heap.size, 0, none⟩) (patL (fun j => patE kb (k * 2 + j)) (1 * 2)) := (mark_moreE 1 HO1.out).2; refine wp_appendPat (by rfl) (.tmp 25) (.tmp 27) 63 (by rfl) base 164 _ 2 48 Tryz.underlying63 Tryz.infoEnt rfl (by decide) (patE kb) (.slice va k vc) k (by rfl) ox1 ⟨wr.heap.size, 0, none⟩ 1 1 (by rfl) sx1 (patE_one kb) (by decide) (by have := HL.out; unfold maxLen; omega) (by have := HL.out; omega) (by have := HBW.out; simp; omega) ?_; intro a2 c2 w2 ho2 hf2 hat2 hk2 hv2; have hX2 := HKR.out _ _ xb _ _ hxb1 (RowV.alloc HX.out _) hf2; have y0 := hX2.cell 0 (by simp); have y1 := hX2.cell 1 (by simp); simp only [List.getElem_cons_zero, List.getElem_cons_succ] at y0 y1)
    | (at_builtin; have ox2 : (w2.alloc (.cells #[.slice (some ⟨kb, 0, none⟩) 2 2, .slice none 0 0, .slice (some ⟨kb, 0, none⟩) 2 2, .slice none 0 0] 164)).ownsRow base 164 2 (.slice va k vc) k (patL (patE kb) (k * 2)) := (mark_moreE 2 hv2).1; have sx2 : SlV (w2.alloc (.cells #[.slice (some ⟨kb, 0, none⟩) 2 2, .slice none 0 0, .slice (some ⟨kb, 0, none⟩) 2 2, .slice none 0 0] 164)) (some ⟨w2.heap.size, 0, none⟩) (patL (fun j => patE kb (k * 2 + j)) (2 * 2)) := (mark_moreE 2 hv2).2; refine wp_appendPat (by rfl) (.tmp 29) (.tmp 32) 63 (by rfl) base 164 _ 2 48 Tryz.underlying63 Tryz.infoEnt rfl (by decide) (patE kb) (.slice va k vc) k (by rfl) ox2 ⟨w2.heap.size, 0, none⟩ 2 2 (by rfl) sx2 (patE_one kb) (by decide) (by have := HL.out; unfold maxLen; omega) (by have := HL.out; omega) (by have := (Nat.le_trans HBW.out (Nat.le_trans (by simp) hf2.size) : base ≤ w2.heap.size); simp; omega) ?_; intro a3 c3 w3 ho3 hf3 hat3 hk3 hv3; have hX3 := HKR.out _ _ xb _ _ hxb1 (RowV.alloc hX2 _) hf3; have z0 := hX3.cell 0 (by simp); have z1 := hX3.cell 1 (by simp); simp only [List.getElem_cons_zero, List.getElem_cons_succ] at z0 z1)
    | (at_builtin; have ox3 : (w3.alloc (.cells #[.slice (some ⟨kb, 0, none⟩) 2 2, .slice none 0 0, .slice (some ⟨kb, 0, none⟩) 2 2, .slice none 0 0, .slice (some ⟨kb, 0, none⟩) 2 2, .slice none 0 0] 164)).ownsRow base 164 2 (.slice va k vc) k (patL (patE kb) (k * 2)) := (mark_moreE 3 hv3).1; have sx3 : SlV (w3.alloc (.cells #[.slice (some ⟨kb, 0, none⟩) 2 2, .slice none 0 0, .slice (some ⟨kb, 0, none⟩) 2 2, .slice none 0 0, .slice (some ⟨kb, 0, none⟩) 2 2, .slice none 0 0] 164)) (some ⟨w3.heap.size, 0, none⟩) (patL (fun j => patE kb (k * 2 + j)) (3 * 2)) := (mark_moreE 3 hv3).2; refine wp_appendPat (by rfl) (.tmp 34) (.tmp 38) 63 (by rfl) base 164 _ 2 48 Tryz.underlying63 Tryz.infoEnt rfl (by decide) (patE kb) (.slice va k vc) k (by rfl) ox3 ⟨w3.heap.size, 0, none⟩ 3 3 (by rfl) sx3 (patE_one kb) (by decide) (by have := HL.out; unfold maxLen; omega) (by have := HL.out; omega) (by have := (Nat.le_trans HBW.out (Nat.le_trans (Nat.le_trans (by simp) hf2.size) (Nat.le_trans (by simp) hf3.size)) : base ≤ w3.heap.size); simp; omega) ?_; intro a4 c4 w4 ho4 hf4 hat4 hk4 hv4; have hR4 := HKR.out _ _ _ _ _ (Nat.le_refl _) (RowV.alloc (HKR.out _ _ _ _ _ (Nat.le_refl _) (RowV.alloc (HKR.out _ _ _ _ _ (Nat.le_refl _) (RowV.alloc HR.out _) hf2) _) hf3) _) hf4)
    | (refine wp_storeR (by rfl) 65 (.tmp 4) (.tmp 45) (by rfl) w.heap.size (by rfl) [.slice va k vc, .slice a2 (k + 1) c2, .slice a3 (k + 2) c3, .slice a4 (k + 3) c4, .int .i64 (m : Int)] (by rfl) hR4 rfl Tryz.sizeEnts (fun u hu => bk_one hu) ?_; intro w5 hR5 hf5 hz5))
   have hK4 := HKR.out _ _ _ _ _ hkb1 (RowV.alloc (HKR.out _ _ _ _ _ hkb1 (RowV.alloc (HKR.out _ _ _ _ _ hkb1 (RowV.alloc HK.out _) hf2) _) hf3) _) hf4
   have hwr : xb < wr.heap.size := HX.out.lt
   have z2 := hf2.size
   have z3 := hf3.size
   have z4 := hf4.size
   simp only [World.size_alloc] at z2 z3 z4
   have hb2 : Below w2.heap.size w2 (w2.alloc (.cells #[.slice (some ⟨kb, 0, none⟩) 2 2, .slice none 0 0, .slice (some ⟨kb, 0, none⟩) 2 2, .slice none 0 0] 164)) := (Below.refl _ _).alloc (Nat.le_refl _) _
   have hb3 : Below w3.heap.size w3 (w3.alloc (.cells #[.slice (some ⟨kb, 0, none⟩) 2 2, .slice none 0 0, .slice (some ⟨kb, 0, none⟩) 2 2, .slice none 0 0, .slice (some ⟨kb, 0, none⟩) 2 2, .slice none 0 0] 164)) := (Below.refl _ _).alloc (Nat.le_refl _) _
   have k23 : PatKeep (patE kb) w2 w3 := (PatKeep.below hb2).trans hk3 hb2.size
   have k34 : PatKeep (patE kb) w3 w4 := (PatKeep.below hb3).trans hk4 hb3.size
   have k24 : PatKeep (patE kb) w2 w4 := k23.trans k34 (by omega)
   have hKB := HKB.out
   have hXB := HXB.out
   have g1 : ∀ q, (Value.slice a2 (k + 1) c2).ownBlock = some q → (Value.slice va k vc).ownBlock = some q ∨ w.heap.size + 1 < q := fun q hq => by
    rcases hat2 with e | e
    ·exact Or.inl (by rw [← e]; exact hq)
    ·rw [e] at hq; have := Option.some.inj hq; simp at this; exact Or.inr (by omega)
   have g2 : ∀ q, (Value.slice a3 (k + 2) c3).ownBlock = some q → (Value.slice va k vc).ownBlock = some q ∨ w.heap.size + 1 < q := fun q hq => by
    rcases hat3 with e | e
    ·exact Or.inl (by rw [← e]; exact hq)
    ·rw [e] at hq; have := Option.some.inj hq; simp at this; exact Or.inr (by omega)
   have g3 : ∀ q, (Value.slice a4 (k + 3) c4).ownBlock = some q → (Value.slice va k vc).ownBlock = some q ∨ w.heap.size + 1 < q := fun q hq => by
    rcases hat4 with e | e
    ·exact Or.inl (by rw [← e]; exact hq)
    ·rw [e] at hq; have := Option.some.inj hq; simp at this; exact Or.inr (by omega)
   have hne : ∀ q, ((Value.slice va k vc).ownBlock = some q ∨ w.heap.size + 1 < q) → ¬ q = w.heap.size := fun q hq e => by
    rcases hq with h | h
    ·have := HN1.out q h; omega
    ·omega
   have hfw : Frame (fun q => (Value.slice va k vc).ownBlock = some q) w w4 := (((((HF.out.alloc _).trans hf2).alloc _).trans hf3).alloc _).trans hf4
   have hl60 := HL.out
   have hK5 := RowV.of_block hK4 (hf5.block _ hK4.lt (by omega))
   refine ret_agg (k := 4) (cs := bkC ⟨⟨va, k, vc⟩, ⟨a2, k + 1, c2⟩, ⟨a3, k + 2, c3⟩, ⟨a4, k + 3, c4⟩⟩ m) rfl rfl hR5 Tryz.underlying65 rfl Tryz.sizeEnts rfl ⟨⟨⟨va, k, vc⟩, ⟨a2, k + 1, c2⟩, ⟨a3, k + 2, c3⟩, ⟨a4, k + 3, c4⟩⟩, kb, rfl, ⟨?_, ?_, ?_, ?_, by simp only; omega, by simp only; omega, by simp only; omega, by simp only; omega, ?_⟩, ⟨hK5.cell 0 (by simp), hK5.cell 1 (by simp), hK5.lt⟩, ?_, ?_, hKB⟩
   ·exact (PatSl.own (s := ⟨va, k, vc⟩) hv4).frame hf5 (fun q hq => hne q (Or.inl hq))
   ·exact ((PatSl.own (s := ⟨a2, k + 1, c2⟩) ho2).keep k24 (by omega)).frame hf5 (fun q hq => hne q (g1 q hq))
   ·exact ((PatSl.own (s := ⟨a3, k + 2, c3⟩) ho3).keep k34 (by omega)).frame hf5 (fun q hq => hne q (g2 q hq))
   ·exact (PatSl.own (s := ⟨a4, k + 3, c4⟩) ho4).frame hf5 (fun q hq => hne q (g3 q hq))
   ·intro q hq
    have z5 := hf5.size
    rcases hq with hq | hq | hq | hq
    ·have := (hv4.lt q hq).2; omega
    ·have := (ho2.lt q hq).2; omega
    ·have := (ho3.lt q hq).2; omega
    ·have := (ho4.lt q hq).2; omega
   ·exact Frame.inside hfw hf5 (fun q hlt' e => by omega)
   ·intro q hq
    rcases hq with hq | hq | hq | hq
    ·exact Or.inl hq
    ·exact g1 q hq
    ·exact g2 q hq
    ·exact g3 q hq
end Go.Proofs.YtekegfbjbainhaaGreat


namespace Go.Proofs.YtekegfbjbainhaaGreat
open Go.RowKit
attribute [local go_sem ↓] Go.wp_at_zero Go.wp_at_succ
def pkE : Ending := .panicked [{ v := .iface 166 (.agg #[]), recovered := false }]
set_option maxRecDepth 100000 in
theorem must_yes (w : World) : Calls Tryz.prog 132 #[.bool true] w fun e w' => e = .returned (.tuple #[]) ∧ w' = w := by
 go_enter Tryz.func132, Tryz.ntmps132
 go_wp2
 go_returns
 exact ⟨rfl, rfl⟩
set_option maxRecDepth 100000 in
theorem must_no (w : World) : Calls Tryz.prog 132 #[.bool false] w fun e w' => e = pkE ∧ w' = w := by
 go_enter Tryz.func132, Tryz.ntmps132
 go_wp2
 exact ⟨rfl, rfl, rfl⟩
def RdP (w : World) (K : Nat → Prop) (rb : Nat) (l : List UInt8) : Prop := ∃ s : SlR, RowV w rb 168 [s.val] ∧ SubS w K s l ∧ ¬ K rb
theorem RdP.lt {w : World} {K : Nat → Prop} {rb : Nat} {l : List UInt8} (h : RdP w K rb l) : rb < w.heap.size := by obtain ⟨s, h, _⟩ := h; exact RowV.lt h
theorem RdP.frame {w w' : World} {S K : Nat → Prop} {rb : Nat} {l : List UInt8} (h : RdP w K rb l) (hf : Frame S w w') (h1 : ¬ S rb) (h2 : ∀ k, K k → ¬ S k) : RdP w' K rb l := by
 obtain ⟨s, h, hs, ho⟩ := h
 exact ⟨s, RowV.of_block h (hf.block _ (RowV.lt h) h1), hs.frame hf h2, ho⟩
theorem RdP.below {w w' : World} {K : Nat → Prop} {rb : Nat} {l : List UInt8} (h : RdP w K rb l) (hf : Below w.heap.size w w') : RdP w' K rb l := h.frame (Frame.of_below_all (S := fun _ => False) hf) (fun e => e) (fun _ _ e => e)
theorem RdP.rowNe {w : World} {K : Nat → Prop} {rb b : Nat} {o : List UInt8} {t : Nat} {l : List Value} (h : RdP w K rb o) (h' : RowV w b t l) (hne : t ≠ 168) : b ≠ rb := by
 obtain ⟨s, h, _⟩ := h
 exact rowV_ne h' h hne
theorem RdP.ownNe {w : World} {K : Nat → Prop} {rb base e size n : Nat} {v : Value} {xs : List Value} {o : List UInt8} (h : RdP w K rb o) (h' : w.ownsRow base e size v n xs) (hne : e ≠ 168) : v.ownBlock ≠ some rb := by
 obtain ⟨s, h, _⟩ := h
 exact owns_ne h' h hne
set_option maxRecDepth 100000 in
set_option maxHeartbeats 1000000 in
theorem take_yes (K : Nat → Prop) (rb n : Nat) (l : List UInt8) (w : World) (h : RdP w K rb l) (hn : n ≤ l.length) :
  Calls Tryz.prog 133 #[.pointer (some ⟨rb, 0, none⟩), .int .i64 (n : Int)] w fun e w' => ∃ s' : SlR, e = .returned s'.val ∧ Frame (fun k => k = rb) w w' ∧ w'.heap.size = w.heap.size ∧ SubS w' K s' (l.take n) ∧ s'.cap = n ∧ RdP w' K rb (l.drop n) := by
 obtain ⟨s, hrow, hs, hko⟩ := h
 have r0 : w.cell? ⟨rb, 0, none⟩ = some (.slice s.a s.n s.cap) := RowV.cell hrow 0 (by simp)
 have fz0 := hrow.frozen 0
 have hsn := hs.bs.n
 have hnI : (n : Int) ≤ s.n := by omega
 have hnC : n ≤ s.cap := by have := hs.cap; omega
 have HI : Hid ((Tryz.prog.info? 5).map (·.size) = some 1) := by unfold Hid; kernel_rfl
 have HRW : Hid (RowV w rb 168 [s.val]) := hrow
 have HS : Hid (SubS w K s l) := hs
 have HKO : Hid (¬ K rb) := hko
 have HL : Hid (n ≤ l.length) := hn
 have hlo : n ≤ s.n := by omega
 have hsc : s.n ≤ s.cap := hs.cap
 clear hrow hs hko hn hsn
 go_enter Tryz.func133, Tryz.ntmps133
 go_wp2_with (first
  | (go_at_call 132; refine (must_yes _).mono ?_; rintro e w1 ⟨rfl, hw1⟩; obtain rfl : w = w1 := hw1.symm; clear hw1)
  | (refine wp_sliceLo (by rfl) 38 5 (.tmp 25) (.tmp 26) (by rfl) s.a s.n s.cap n 1 (by rfl) (by rfl) Tryz.underlying38 HI.out hlo hsc ?_))
 go_ret
 have hf : Frame (fun k => k = rb) w (w.setCell ⟨rb, 0, none⟩ (.slice (cutS s.a s.cap n 1) (s.n - n) (s.cap - n))) := (Frame.refl (fun k => k = rb) _).setCell (p := ⟨rb, 0, none⟩) rfl _
 have ht := HS.out.take n HL.out
 have ht2 : SubS w K ⟨s.a, n, n⟩ (l.take n) := ⟨⟨ht.bs.sl, ht.bs.n, fun e => by have := ht.bs.nil e; have : s.cap = 0 := this; show n = 0; omega, ht.bs.lt⟩, Nat.le_refl _, ht.k⟩
 refine ⟨⟨s.a, n, n⟩, rfl, hf, by simp, ht2.frame hf (fun k hk e => HKO.out (e ▸ hk)), rfl, ⟨cutS s.a s.cap n 1, s.n - n, s.cap - n⟩, by have h := RowV.set HRW.out 0 (SlR.val ⟨cutS s.a s.cap n 1, s.n - n, s.cap - n⟩); simpa [SlR.val] using h, (HS.out.drop n HL.out).frame hf (fun k hk e => HKO.out (e ▸ hk)), HKO.out⟩
set_option maxRecDepth 100000 in
set_option maxHeartbeats 1000000 in
theorem take_no (K : Nat → Prop) (rb n : Nat) (l : List UInt8) (w : World) (h : RdP w K rb l) (hn : ¬ n ≤ l.length) :
  Calls Tryz.prog 133 #[.pointer (some ⟨rb, 0, none⟩), .int .i64 (n : Int)] w fun e w' => e = pkE ∧ w' = w := by
 obtain ⟨s, hrow, hs, hko⟩ := h
 have r0 : w.cell? ⟨rb, 0, none⟩ = some (.slice s.a s.n s.cap) := RowV.cell hrow 0 (by simp)
 have hsn := hs.bs.n
 have hnI : ¬ (n : Int) ≤ s.n := by omega
 clear hrow hs hko hn hsn
 go_enter Tryz.func133, Tryz.ntmps133
 go_wp2_with (go_at_call 132; refine (must_no _).mono ?_; rintro e w1 ⟨rfl, hw1⟩; obtain rfl : w = w1 := hw1.symm; clear hw1; unfold pkE)
 exact ⟨rfl, rfl, rfl⟩
set_option maxRecDepth 100000 in
set_option maxHeartbeats 1000000 in
theorem number_yes (K : Nat → Prop) (rb : Nat) (x : UInt8) (l : List UInt8) (w : World) (h : RdP w K rb (x :: l)) :
  Calls Tryz.prog 148 #[.pointer (some ⟨rb, 0, none⟩)] w fun e w' => e = .returned (.int .i64 (x.toNat : Int)) ∧ Frame (fun k => k = rb) w w' ∧ w'.heap.size = w.heap.size ∧ RdP w' K rb l := by
 have HT : Hid (Calls _ _ _ _ _) := take_yes K rb 1 (x :: l) w h (by simp)
 clear h
 go_enter Tryz.func148, Tryz.ntmps148
 go_wp2_with fail
 refine HT.out.mono ?_
 rintro e w1 ⟨s', rfl, hf, hz, hs, hc, hr⟩
 obtain ⟨b, o, ha, hb, hcell⟩ := hs.bs.sl 0 (by simp)
 have hn1 : s'.n = 1 := by have := hs.bs.n; simpa using this
 have HR : Hid (RdP w1 K rb l) := hr
 obtain ⟨sa, sn, sc⟩ := s'
 simp only at ha hn1
 subst ha; subst hn1
 have hxl := x.toNat_lt
 have hw := wrap64_toNat8 x
 simp only [Nat.add_zero] at hcell
 have hcell' : w1.cell? ⟨b, o, none⟩ = some (.int .u8 (x.toNat : Int)) := by rw [hcell]; rfl
 clear hcell hs hr
 unfold SlR.val
 go_wp2
 go_ret
 exact ⟨by first | rfl | (simp [hw]), hf, hz, HR.out⟩
set_option maxRecDepth 100000 in
set_option maxHeartbeats 1000000 in
theorem number_no (K : Nat → Prop) (rb : Nat) (w : World) (h : RdP w K rb []) :
  Calls Tryz.prog 148 #[.pointer (some ⟨rb, 0, none⟩)] w fun e w' => e = pkE ∧ w' = w := by
 have HT : Hid (Calls _ _ _ _ _) := take_no K rb 1 [] w h (by simp)
 clear h
 go_enter Tryz.func148, Tryz.ntmps148
 go_wp2_with fail
 refine HT.out.mono ?_
 rintro e w1 ⟨rfl, rfl⟩
 unfold pkE
 go_wp2
 exact ⟨rfl, rfl, rfl⟩
end Go.Proofs.YtekegfbjbainhaaGreat


namespace Go.Proofs.YtekegfbjbainhaaGreat
open Go.RowKit
attribute [local go_sem ↓] Go.wp_at_zero Go.wp_at_succ
def cntPost (w : World) (K : Nat → Prop) (rb : Nat) (b : List UInt8) (o : Option (List UInt8)) (e : Ending) (w' : World) : Prop :=
 Frame (fun k => k = rb) w w' ∧ w'.heap.size = w.heap.size ∧ match o with
  | none => e = pkE
  | some r => ∃ s' : SlR, e = .returned s'.val ∧ SubS w' K s' b ∧ RdP w' K rb r
theorem takeP_any (K : Nat → Prop) (rb n : Nat) (l : List UInt8) (w : World) (h : RdP w K rb l) :
  Calls Tryz.prog 133 #[.pointer (some ⟨rb, 0, none⟩), .int .i64 (n : Int)] w (cntPost w K rb (takeB n (some l)) (takeR n (some l))) := by
 by_cases hn : n ≤ l.length
 ·refine (take_yes K rb n l w h hn).mono ?_
  rintro e w' ⟨s', rfl, hf, hz, hs, hc, hr⟩
  have e1 : takeB n (some l) = l.take n := by show (if n ≤ l.length then l.take n else []) = _; rw [if_pos hn]
  have e2 : takeR n (some l) = some (l.drop n) := by show (if n ≤ l.length then some (l.drop n) else none) = _; rw [if_pos hn]
  rw [e1, e2]
  exact ⟨hf, hz, s', rfl, hs, hr⟩
 ·refine (take_no K rb n l w h hn).mono ?_
  rintro e w' ⟨rfl, rfl⟩
  have e2 : takeR n (some l) = none := by show (if n ≤ l.length then some (l.drop n) else none) = _; rw [if_neg hn]
  rw [e2]
  exact ⟨Frame.refl _ _, rfl, rfl⟩
theorem numberP_any (K : Nat → Prop) (rb : Nat) (l : List UInt8) (w : World) (h : RdP w K rb l) :
  Calls Tryz.prog 148 #[.pointer (some ⟨rb, 0, none⟩)] w fun e w' => Frame (fun k => k = rb) w w' ∧ w'.heap.size = w.heap.size ∧ match takeR 1 (some l) with
   | none => e = pkE
   | some r => e = .returned (.int .i64 (oneV (some l) : Int)) ∧ RdP w' K rb r := by
 cases l with
 | nil =>
  refine (number_no K rb w h).mono ?_
  rintro e w' ⟨rfl, rfl⟩
  exact ⟨Frame.refl _ _, rfl, rfl⟩
 | cons x l =>
  refine (number_yes K rb x l w h).mono ?_
  rintro e w' ⟨rfl, hf, hz, hr⟩
  have e2 : takeR 1 (some (x :: l)) = some l := by show (if 1 ≤ (x :: l).length then some ((x :: l).drop 1) else none) = _; rw [if_pos (by simp)]; rfl
  rw [e2]
  exact ⟨hf, hz, rfl, hr⟩
set_option maxRecDepth 100000 in
set_option maxHeartbeats 1000000 in
theorem countedP_any (K : Nat → Prop) (rb : Nat) (l : List UInt8) (w : World) (h : RdP w K rb l) :
  Calls Tryz.prog 159 #[.pointer (some ⟨rb, 0, none⟩)] w (cntPost w K rb (takeB (oneV (some l)) (takeR 1 (some l))) (takeR (oneV (some l)) (takeR 1 (some l)))) := by
 have HN : Hid (Calls _ _ _ _ _) := numberP_any K rb l w h
 clear h
 go_enter Tryz.func159, Tryz.ntmps159
 go_wp2_with fail
 refine HN.out.mono ?_
 rintro e w1 ⟨hf1, hz1, hm⟩
 cases h1 : takeR 1 (some l) with
 | none =>
  rw [h1] at hm
  obtain rfl : e = pkE := hm
  unfold pkE
  go_wp2
  exact ⟨rfl, hf1, hz1, rfl⟩
 | some r =>
  rw [h1] at hm
  obtain ⟨rfl, hr⟩ := hm
  have HT : Hid (Calls _ _ _ _ _) := takeP_any K rb (oneV (some l)) r w1 hr
  have HF : Hid (Frame (fun k => k = rb) w w1) := hf1
  have HZ : Hid (w1.heap.size = w.heap.size) := hz1
  have H1 : Hid (takeR 1 (some l) = some r) := h1
  clear HN hf1 hz1 hr h1
  generalize oneV (some l) = n at *
  go_wp2_with fail
  refine HT.out.mono ?_
  rintro e w2 ⟨hf2, hz2, hm⟩
  have HF2 : Hid (Frame (fun k => k = rb) w w2) := HF.out.trans hf2
  have HZ2 : Hid (w2.heap.size = w.heap.size) := by unfold Hid; rw [hz2]; exact HZ.out
  cases h2 : takeR n (some r) with
  | none =>
   rw [h2] at hm
   obtain rfl : e = pkE := hm
   unfold pkE
   go_wp2
   refine ⟨rfl, HF2.out, HZ2.out, ?_⟩
   rw [H1.out, h2]; rfl
  | some r2 =>
   rw [h2] at hm
   obtain ⟨s', rfl, hs, hr⟩ := hm
   unfold SlR.val
   go_wp2
   go_ret
   refine ⟨HF2.out, HZ2.out, ?_⟩
   rw [H1.out, h2]
   exact ⟨s', rfl, hs, hr⟩
set_option maxRecDepth 100000 in
set_option maxHeartbeats 1000000 in
theorem endP_any (K : Nat → Prop) (rb : Nat) (l : List UInt8) (w : World) (h : RdP w K rb l) :
  Calls Tryz.prog 105 #[.pointer (some ⟨rb, 0, none⟩)] w fun e w' => w' = w ∧ e = if l = [] then .returned (.tuple #[]) else pkE := by
 obtain ⟨s, hrow, hs, hko⟩ := h
 have r0 : w.cell? ⟨rb, 0, none⟩ = some (.slice s.a s.n s.cap) := RowV.cell hrow 0 (by simp)
 have hsn := hs.bs.n
 clear hrow hs hko
 by_cases hl : l = []
 ·rw [if_pos hl]
  have hz : (s.n : Int) = 0 := by rw [hsn, hl]; rfl
  have hzN : s.n = 0 := by omega
  clear hsn hl
  go_enter Tryz.func105, Tryz.ntmps105
  go_wp2_with (go_at_call 132; refine (must_yes _).mono ?_; rintro e w1 ⟨rfl, hw1⟩; obtain rfl : w = w1 := hw1.symm; clear hw1)
  go_returns
  exact ⟨rfl, rfl⟩
 ·rw [if_neg hl]
  have hz : ((s.n : Int) == 0) = false := by
   have : s.n ≠ 0 := fun e => hl (List.length_eq_zero_iff.1 (by omega))
   simp; omega
  clear hsn hl
  go_enter Tryz.func105, Tryz.ntmps105
  go_wp2_with (go_at_call 132; refine (must_no _).mono ?_; rintro e w1 ⟨rfl, hw1⟩; obtain rfl : w = w1 := hw1.symm; clear hw1; unfold pkE)
  exact ⟨rfl, rfl, rfl⟩
end Go.Proofs.YtekegfbjbainhaaGreat
