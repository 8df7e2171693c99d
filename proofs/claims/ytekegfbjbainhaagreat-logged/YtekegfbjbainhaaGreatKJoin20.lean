import Derived.Test.YtekegfbjbainhaaGreatKJoin19
import Derived.Test.YtekegfbjbainhaaGreatKJoin14
import Derived.WalkLawsBesides
import Derived.Deep.DeepCutAuto
import Derived.Deep.RegionWith
import Derived.Defers
import Derived.Recover
import Derived.Deep.CutBlock
import Derived.Deep.RegionHeld3
set_option linter.unusedVariables false
set_option linter.unusedSimpArgs false

namespace Go.Proofs.YtekegfbjbainhaaGreat
open Go.RowKit
def patE (kb : Nat) : Nat → Value := fun j => if j % 2 = 0 then .slice (some ⟨kb, 0, none⟩) 2 2 else .slice none 0 0
structure MkAt (w : World) (m kb : Nat) : Prop where
 c0 : w.cell? ⟨kb, 0, none⟩ = some (.int .u8 ((m : Int) % 251))
 c1 : w.cell? ⟨kb, 1, none⟩ = some (.int .u8 9)
 lt : kb < w.heap.size
theorem MkAt.frame {w w' : World} {S : Nat → Prop} {m kb : Nat} (h : MkAt w m kb) (hf : Frame S w w') (hS : ¬ S kb) : MkAt w' m kb :=
 ⟨by rw [World.cell?_of_block (w := w) (w' := w') (a := ⟨kb, 0, none⟩) (hf.block kb h.lt hS)]; exact h.c0, by rw [World.cell?_of_block (w := w) (w' := w') (a := ⟨kb, 1, none⟩) (hf.block kb h.lt hS)]; exact h.c1, Nat.lt_of_lt_of_le h.lt hf.size⟩
theorem MkAt.below {w w' : World} {m kb : Nat} (h : MkAt w m kb) (hb : Below w.heap.size w w') : MkAt w' m kb := h.frame (Frame.of_below_all (S := fun _ => False) hb) (fun e => e)
set_option maxRecDepth 100000 in
set_option maxHeartbeats 1000000 in
theorem allEntries_any (s : SlR) (m kb : Nat) (w : World) (h : PatSl w (patE kb) 2 s) (hk : MkAt w m kb) (hn : s.n ≤ 140737488355328) (hm : m ≤ 140737488355328) :
  Calls Tryz.prog 59 #[s.val, .int .i64 (m : Int)] w fun e w' => e = .returned (.bool true) ∧ w' = w := by
 have hmI : (m : Int) ≤ 140737488355328 := by omega
 have hm0 : (0 : Int) ≤ m := by omega
 have hnI : (s.n : Int) ≤ 140737488355328 := by omega
 have HP : Hid (PatSl w (patE kb) 2 s) := h
 have q0 := hk.c0
 have q1 := hk.c1
 clear h hk
 unfold SlR.val
 go_enter Tryz.func59, Tryz.ntmps59
 go_wp2
 go_loop [5] (fun i => ∃ k : Nat, k ≤ s.n ∧ i = .int .i64 k) (fun i => s.n - (intOf i).toNat)
 case atStart => exact ⟨0, by omega, rfl⟩
 case round =>
  obtain ⟨k, hk, rfl⟩ := hrel
  by_cases hlt : k < s.n
  ·have hltI : (k : Int) < s.n := by omega
   obtain ⟨g, ha, hg, hc⟩ := HP.out (k * 2) (by omega)
   obtain ⟨g', ha', hg', hc'⟩ := HP.out (k * 2 + 1) (by omega)
   rw [ha] at ha'; cases ha'
   have e0 : w.cell? ⟨g, k * 2, none⟩ = some (.slice (some ⟨kb, 0, none⟩) 2 2) := by rw [hc]; unfold patE; rw [if_pos (by omega)]
   have e1 : w.cell? ⟨g, k * 2 + 1, none⟩ = some (.slice none 0 0) := by rw [hc']; unfold patE; rw [if_neg (by omega)]
   rw [ha]
   clear hc hc'
   go_wp2
   go_round
   case rel => exact ⟨k + 1, by omega, by go_num⟩
   case measure => simp [intOf]; omega
  ·have hltI : ¬ (k : Int) < s.n := by omega
   go_wp2
   go_ret
   exact ⟨rfl, rfl⟩
set_option maxRecDepth 100000 in
set_option maxHeartbeats 1000000 in
theorem stillE_any (r : BkR) (m kb : Nat) (w : World) (h : BkOk w (patE kb) 2 r) (hk : MkAt w m kb) (hm : m ≤ 140737488355328) :
  Calls Tryz.prog 26 #[.agg (bkC r m).toArray] w fun e w' => e = .returned (.bool true) ∧ Below w.heap.size w w' := by
 have hb : Below w.heap.size w (w.alloc (.cells #[.slice r.l.a r.l.n r.l.cap, .slice r.one.a r.one.n r.one.cap, .slice r.two.a r.two.n r.two.cap, .slice r.three.a r.three.n r.three.cap, .int .i64 (m : Int)] 65)) := (Below.refl _ _).alloc (Nat.le_refl _) _
 have h' := h.below hb
 have hk' := hk.below hb
 have H1 : Hid (Calls _ _ _ _ _) := allEntries_any r.l m kb _ h'.l hk' (by have := h.nl; omega) hm
 have H2 : Hid (Calls _ _ _ _ _) := allEntries_any r.one m kb _ h'.one hk' (by have := h.n1; omega) hm
 have H3 : Hid (Calls _ _ _ _ _) := allEntries_any r.two m kb _ h'.two hk' (by have := h.n2; omega) hm
 have H4 : Hid (Calls _ _ _ _ _) := allEntries_any r.three m kb _ h'.three hk' (by have := h.n3; omega) hm
 clear h h' hb hk hk'
 unfold bkC
 unfold SlR.val at H1 H2 H3 H4 ⊢
 go_enter Tryz.func26, Tryz.ntmps26
 go_wp2_with fail
 refine H1.out.mono ?_
 rintro e w1 ⟨rfl, rfl⟩
 go_wp2_with fail
 refine H2.out.mono ?_
 rintro e w1 ⟨rfl, rfl⟩
 go_wp2_with fail
 refine H3.out.mono ?_
 rintro e w1 ⟨rfl, rfl⟩
 go_wp2_with fail
 refine H4.out.mono ?_
 rintro e w1 ⟨rfl, rfl⟩
 go_wp2
 go_ret
 exact ⟨rfl, by go_grown⟩
end Go.Proofs.YtekegfbjbainhaaGreat


namespace Go.Proofs.YtekegfbjbainhaaGreat
open Go.RowKit
end Go.Proofs.YtekegfbjbainhaaGreat


namespace Go.Proofs.YtekegfbjbainhaaGreat
open Go.RowKit
end Go.Proofs.YtekegfbjbainhaaGreat


namespace Go.Proofs.YtekegfbjbainhaaGreat
open Go.RowKit
attribute [local go_sem ↓] Go.wp_at_zero Go.wp_at_succ
end Go.Proofs.YtekegfbjbainhaaGreat


namespace Go.Proofs.YtekegfbjbainhaaGreat
open Go.RowKit
attribute [local go_sem ↓] Go.wp_at_zero Go.wp_at_succ
end Go.Proofs.YtekegfbjbainhaaGreat


namespace Go.Proofs.YtekegfbjbainhaaGreat
open Go.RowKit
attribute [local go_sem ↓] Go.wp_at_zero Go.wp_at_succ
end Go.Proofs.YtekegfbjbainhaaGreat


namespace Go.Proofs.YtekegfbjbainhaaGreat
open Go.RowKit
end Go.Proofs.YtekegfbjbainhaaGreat


namespace Go.Proofs.YtekegfbjbainhaaGreat
open Go.RowKit
attribute [local go_sem ↓] Go.wp_at_zero Go.wp_at_succ
end Go.Proofs.YtekegfbjbainhaaGreat


namespace Go.Proofs.YtekegfbjbainhaaGreat
open Go.RowKit
attribute [local go_sem ↓] Go.wp_at_zero Go.wp_at_succ
end Go.Proofs.YtekegfbjbainhaaGreat


namespace Go.Proofs.YtekegfbjbainhaaGreat
open Go.RowKit
attribute [local go_sem ↓] Go.wp_at_zero Go.wp_at_succ
end Go.Proofs.YtekegfbjbainhaaGreat


namespace Go.Proofs.YtekegfbjbainhaaGreat
open Go.RowKit
attribute [local go_sem ↓] Go.wp_at_zero Go.wp_at_succ
end Go.Proofs.YtekegfbjbainhaaGreat


namespace Go.Proofs.YtekegfbjbainhaaGreat
open Go.RowKit
attribute [local go_sem ↓] Go.wp_at_zero Go.wp_at_succ
end Go.Proofs.YtekegfbjbainhaaGreat


namespace Go.Proofs.YtekegfbjbainhaaGreat
open Go.RowKit
attribute [local go_sem ↓] Go.wp_at_zero Go.wp_at_succ
end Go.Proofs.YtekegfbjbainhaaGreat


namespace Go.Proofs.YtekegfbjbainhaaGreat
open Go.RowKit
attribute [local go_sem ↓] Go.wp_at_zero Go.wp_at_succ
end Go.Proofs.YtekegfbjbainhaaGreat


namespace Go.Proofs.YtekegfbjbainhaaGreat
open Go.RowKit
attribute [local go_sem ↓] Go.wp_at_zero Go.wp_at_succ
end Go.Proofs.YtekegfbjbainhaaGreat


namespace Go.Proofs.YtekegfbjbainhaaGreat
open Go.RowKit
attribute [local go_sem ↓] Go.wp_at_zero Go.wp_at_succ
end Go.Proofs.YtekegfbjbainhaaGreat


namespace Go.Proofs.YtekegfbjbainhaaGreat
open Go.RowKit
attribute [local go_sem ↓] Go.wp_at_zero Go.wp_at_succ
end Go.Proofs.YtekegfbjbainhaaGreat


namespace Go.Proofs.YtekegfbjbainhaaGreat
open Go.RowKit
attribute [local go_sem ↓] Go.wp_at_zero Go.wp_at_succ
end Go.Proofs.YtekegfbjbainhaaGreat


namespace Go.Proofs.YtekegfbjbainhaaGreat
open Go.RowKit
attribute [local go_sem ↓] Go.wp_at_zero Go.wp_at_succ
end Go.Proofs.YtekegfbjbainhaaGreat


namespace Go.Proofs.YtekegfbjbainhaaGreat
open Go.RowKit
attribute [local go_sem ↓] Go.wp_at_zero Go.wp_at_succ
end Go.Proofs.YtekegfbjbainhaaGreat


namespace Go.Proofs.YtekegfbjbainhaaGreat
open Go.RowKit
attribute [local go_sem ↓] Go.wp_at_zero Go.wp_at_succ
end Go.Proofs.YtekegfbjbainhaaGreat


namespace Go.Proofs.YtekegfbjbainhaaGreat
open Go.RowKit
attribute [local go_sem ↓] Go.wp_at_zero Go.wp_at_succ
structure EBk where
 r : BkR
 kb : Nat
def ebF (h : EBk) (k : Nat) : Prop := bkF h.r k ∨ k = h.kb
structure BeAt (w : World) (es : SlR) (hs : List EBk) : Prop where
 own : w.ownsRow 0 65 5 es.val hs.length (bksF 0 (hs.map (·.r)))
 ok : ∀ i (h : i < hs.length), BkOk w (patE hs[i].kb) 2 hs[i].r ∧ MkAt w i hs[i].kb
 apart : ∀ h ∈ hs, ∀ k, ebF h k → es.val.ownBlock ≠ some k
def bookE (es : SlR) (hs : List EBk) (k : Nat) : Prop := es.val.ownBlock = some k ∨ ∃ h ∈ hs, ebF h k
theorem BeAt.frame {w w' : World} {S : Nat → Prop} {es : SlR} {hs : List EBk} (h : BeAt w es hs) (hf : Frame S w w') (hS : ∀ k, bookE es hs k → ¬ S k) : BeAt w' es hs :=
 ⟨owns_frame h.own hf (fun k hk => hS k (Or.inl hk)), fun i hi => ⟨(h.ok i hi).1.frame hf (fun k hk => hS k (Or.inr ⟨hs[i], List.getElem_mem hi, Or.inl hk⟩)), (h.ok i hi).2.frame hf (hS _ (Or.inr ⟨hs[i], List.getElem_mem hi, Or.inr rfl⟩))⟩, h.apart⟩
theorem BeAt.lt {w : World} {es : SlR} {hs : List EBk} (h : BeAt w es hs) : ∀ k, bookE es hs k → k < w.heap.size := fun k hk => by
 rcases hk with hk | ⟨r, hr, hk | hk⟩
 ·exact (h.own.lt k hk).2
 ·obtain ⟨i, hi, rfl⟩ := List.getElem_of_mem hr
  exact (h.ok i hi).1.lt k hk
 ·obtain ⟨i, hi, rfl⟩ := List.getElem_of_mem hr
  rw [hk]; exact (h.ok i hi).2.lt
theorem BeAt.nil (w : World) : BeAt w ⟨none, 0, 0⟩ [] := ⟨World.ownsRow_nil _ _ _ _, fun i h => absurd h (Nat.not_lt_zero _), fun r hr => (by cases hr)⟩
end Go.Proofs.YtekegfbjbainhaaGreat


namespace Go.Proofs.YtekegfbjbainhaaGreat
open Go.RowKit
attribute [local go_sem ↓] Go.wp_at_zero Go.wp_at_succ
end Go.Proofs.YtekegfbjbainhaaGreat


namespace Go.Proofs.YtekegfbjbainhaaGreat
open Go.RowKit
attribute [local go_sem ↓] Go.wp_at_zero Go.wp_at_succ
def signB (m : Nat) : List UInt8 := [UInt8.ofNat m, UInt8.ofNat (m / 256), UInt8.ofNat (m / 65536), 77, 0, 0, 0, 0]
theorem signB_length (m : Nat) : (signB m).length = 8 := rfl
theorem u8c_nat (n : Nat) : u8c (UInt8.ofNat n) = .int .u8 ((n : Int) % 256) := by
 unfold u8c
 rw [UInt8.toNat_ofNat']
 simp
theorem signB_cells (m : Nat) : (signB m).map u8c = [.int .u8 ((m : Int) % 256), .int .u8 ((m : Int) / 256 % 256), .int .u8 ((m : Int) / 65536 % 256), .int .u8 77, .int .u8 0, .int .u8 0, .int .u8 0, .int .u8 0] := by
 unfold signB
 rw [List.map_cons, List.map_cons, List.map_cons, u8c_nat, u8c_nat, u8c_nat]
 rfl
set_option maxRecDepth 100000 in
set_option maxHeartbeats 1000000 in
theorem sign_any (m : Nat) (w : World) (hm : m ≤ 140737488355328) :
  Calls Tryz.prog 101 #[.int .i64 (m : Int)] w fun e w' => e = .returned (dV (signB m)) ∧ Below w.heap.size w w' := by
 have hmI : (m : Int) ≤ 140737488355328 := by omega
 have hm0 : (0 : Int) ≤ m := by omega
 unfold dV
 rw [signB_cells]
 go_enter Tryz.func101, Tryz.ntmps101
 go_wp2
 go_returns
 exact ⟨rfl, by go_grown⟩
def patD (m : Nat) : Nat → Value := fun j => ((signB m).map u8c).getD (j % 8) (.int .u8 0)
theorem patD_at (m k j : Nat) (hj : j < 8) : patD m (k * 8 + j) = ((signB m).map u8c).getD j (.int .u8 0) := by
 unfold patD
 rw [show (k * 8 + j) % 8 = j by omega]
set_option maxRecDepth 100000 in
set_option maxHeartbeats 2000000 in
theorem allDigests_any (s : SlR) (m : Nat) (w : World) (h : PatSl w (patD m) 8 s) (hn : s.n ≤ 140737488355328) (hm : m ≤ 140737488355328) :
  Calls Tryz.prog 58 #[s.val, .int .i64 (m : Int)] w fun e w' => e = .returned (.bool true) ∧ Below w.heap.size w w' := by
 have hmI : (m : Int) ≤ 140737488355328 := by omega
 have hm0 : (0 : Int) ≤ m := by omega
 have hnI : (s.n : Int) ≤ 140737488355328 := by omega
 have HP : Hid (PatSl w (patD m) 8 s) := h
 have HSG : Hid (∀ W, Calls Tryz.prog 101 #[.int .i64 (m : Int)] W fun e w' => e = .returned (dV (signB m)) ∧ Below W.heap.size W w') := fun W => sign_any m W hm
 have HEQ : Hid (∀ W, (Op.equalIn 10000 36 (dV (signB m)) (dV (signB m))).run Tryz.prog W = .ok true W) := fun W => by
  have h := run_equalIn_bytes (P := Tryz.prog) W 9998 36 5 8 Tryz.underlying36 Tryz.underlying5 Tryz.sizeU8 (signB m) (signB m) rfl rfl
  rw [beq_self_eq_true] at h
  exact h
 have HPA := fun k j hj => patD_at m k j hj
 clear h
 unfold dV at HEQ HSG
 rw [signB_cells] at HEQ HSG HPA
 generalize ((m : Int) % 256) = x0 at *
 generalize ((m : Int) / 256 % 256) = x1 at *
 generalize ((m : Int) / 65536 % 256) = x2 at *
 have heq := HEQ.out
 unfold SlR.val
 go_enter Tryz.func58, Tryz.ntmps58
 go_wp2_with fail
 go_loopw [5] (fun i wr => ∃ k : Nat, k ≤ s.n ∧ i = .int .i64 k ∧ Hid (Below w.heap.size w wr)) (fun i _ => s.n - (intOf i).toNat)
 case atStart => exact ⟨0, by omega, rfl, Below.refl _ _⟩
 case round =>
  obtain ⟨k, hk, rfl, HB⟩ := hrel
  by_cases hlt : k < s.n
  ·have hltI : (k : Int) < s.n := by omega
   have HC : ∀ j, j < 8 → ∃ g, s.a = some ⟨g, 0, none⟩ ∧ g < w.heap.size ∧ wr.cell? ⟨g, k * 8 + j, none⟩ = some (patD m (k * 8 + j)) := fun j hj => by
    obtain ⟨g, ha, hg, hc⟩ := HP.out (k * 8 + j) (by omega)
    exact ⟨g, ha, hg, by rw [HB.out.cell (p := ⟨g, k * 8 + j, none⟩) hg]; exact hc⟩
   obtain ⟨g, ha, hg, c0⟩ := HC 0 (by omega)
   obtain ⟨_, ha', _, c1⟩ := HC 1 (by omega)
   rw [ha] at ha'; cases ha'
   obtain ⟨_, ha', _, c2⟩ := HC 2 (by omega)
   rw [ha] at ha'; cases ha'
   obtain ⟨_, ha', _, c3⟩ := HC 3 (by omega)
   rw [ha] at ha'; cases ha'
   obtain ⟨_, ha', _, c4⟩ := HC 4 (by omega)
   rw [ha] at ha'; cases ha'
   obtain ⟨_, ha', _, c5⟩ := HC 5 (by omega)
   rw [ha] at ha'; cases ha'
   obtain ⟨_, ha', _, c6⟩ := HC 6 (by omega)
   rw [ha] at ha'; cases ha'
   obtain ⟨_, ha', _, c7⟩ := HC 7 (by omega)
   rw [ha] at ha'; cases ha'
   rw [HPA k _ (by omega)] at c0 c1 c2 c3 c4 c5 c6 c7
   simp only [List.getD_cons_zero, List.getD_cons_succ, Nat.add_zero] at c0 c1 c2 c3 c4 c5 c6 c7
   have HGW : Hid (g < wr.heap.size) := Nat.lt_of_lt_of_le hg HB.out.size
   rw [ha]
   clear HC
   go_wp2_with fail
   go_region_held3 (fun W => W.cell? ⟨g, k * 8, none⟩ = some (.int .u8 x0) ∧ W.cell? ⟨g, k * 8 + 1, none⟩ = some (.int .u8 x1) ∧ W.cell? ⟨g, k * 8 + 2, none⟩ = some (.int .u8 x2) ∧ W.cell? ⟨g, k * 8 + 3, none⟩ = some (.int .u8 77) ∧ W.cell? ⟨g, k * 8 + 4, none⟩ = some (.int .u8 0) ∧ W.cell? ⟨g, k * 8 + 5, none⟩ = some (.int .u8 0) ∧ W.cell? ⟨g, k * 8 + 6, none⟩ = some (.int .u8 0) ∧ W.cell? ⟨g, k * 8 + 7, none⟩ = some (.int .u8 0)) (go_keep)
    ((go_at_call 101; refine (HSG.out _).mono ?_; rintro r w2 ⟨rfl, hb2⟩; have q0 : w2.cell? ⟨g, k * 8, none⟩ = some (.int .u8 x0) := (by rw [hb2.cell (p := ⟨g, k * 8, none⟩) (by show g < wr.heap.size; exact HGW.out)]; exact c0); have q1 : w2.cell? ⟨g, k * 8 + 1, none⟩ = some (.int .u8 x1) := (by rw [hb2.cell (p := ⟨g, k * 8 + 1, none⟩) (by show g < wr.heap.size; exact HGW.out)]; exact c1); have q2 : w2.cell? ⟨g, k * 8 + 2, none⟩ = some (.int .u8 x2) := (by rw [hb2.cell (p := ⟨g, k * 8 + 2, none⟩) (by show g < wr.heap.size; exact HGW.out)]; exact c2); have q3 : w2.cell? ⟨g, k * 8 + 3, none⟩ = some (.int .u8 77) := (by rw [hb2.cell (p := ⟨g, k * 8 + 3, none⟩) (by show g < wr.heap.size; exact HGW.out)]; exact c3); have q4 : w2.cell? ⟨g, k * 8 + 4, none⟩ = some (.int .u8 0) := (by rw [hb2.cell (p := ⟨g, k * 8 + 4, none⟩) (by show g < wr.heap.size; exact HGW.out)]; exact c4); have q5 : w2.cell? ⟨g, k * 8 + 5, none⟩ = some (.int .u8 0) := (by rw [hb2.cell (p := ⟨g, k * 8 + 5, none⟩) (by show g < wr.heap.size; exact HGW.out)]; exact c5); have q6 : w2.cell? ⟨g, k * 8 + 6, none⟩ = some (.int .u8 0) := (by rw [hb2.cell (p := ⟨g, k * 8 + 6, none⟩) (by show g < wr.heap.size; exact HGW.out)]; exact c6); have q7 : w2.cell? ⟨g, k * 8 + 7, none⟩ = some (.int .u8 0) := (by rw [hb2.cell (p := ⟨g, k * 8 + 7, none⟩) (by show g < wr.heap.size; exact HGW.out)]; exact c7)))
   all_goals
    have HB2 : Hid (Below w.heap.size w w2) := by
     have h2 : Below wr.heap.size wr w2 := ⟨hb2.os, hb2.tape, hb2.output, hb2.size, hb2.block⟩
     exact HB.out.trans (h2.mono HB.out.size)
    clear hb2
    go_wp2
    refine ⟨⟨k + 1, by omega, by go_num, HB2⟩, by simp [intOf]; omega⟩
  ·have hltI : ¬ (k : Int) < s.n := by omega
   go_wp2
   go_ret
   exact ⟨rfl, HB.out⟩
set_option maxRecDepth 100000 in
set_option maxHeartbeats 1000000 in
theorem stillD_any (r : BkR) (m : Nat) (w : World) (h : BkOk w (patD m) 8 r) (hm : m ≤ 140737488355328) :
  Calls Tryz.prog 25 #[.agg (bkC r m).toArray] w fun e w' => e = .returned (.bool true) ∧ Below w.heap.size w w' := by
 have hb : Below w.heap.size w (w.alloc (.cells #[.slice r.l.a r.l.n r.l.cap, .slice r.one.a r.one.n r.one.cap, .slice r.two.a r.two.n r.two.cap, .slice r.three.a r.three.n r.three.cap, .int .i64 (m : Int)] 62)) := (Below.refl _ _).alloc (Nat.le_refl _) _
 have HR : Hid (RowV (w.alloc (.cells #[.slice r.l.a r.l.n r.l.cap, .slice r.one.a r.one.n r.one.cap, .slice r.two.a r.two.n r.two.cap, .slice r.three.a r.three.n r.three.cap, .int .i64 (m : Int)] 62)) w.heap.size 62 [.slice r.l.a r.l.n r.l.cap, .slice r.one.a r.one.n r.one.cap, .slice r.two.a r.two.n r.two.cap, .slice r.three.a r.three.n r.three.cap, .int .i64 (m : Int)]) := RowV.new w _ _
 have HH : Hid (∀ W, Below w.heap.size w W → (Calls Tryz.prog 58 #[r.l.val, .int .i64 (m : Int)] W fun e w' => e = .returned (.bool true) ∧ Below W.heap.size W w') ∧ (Calls Tryz.prog 58 #[r.one.val, .int .i64 (m : Int)] W fun e w' => e = .returned (.bool true) ∧ Below W.heap.size W w') ∧ (Calls Tryz.prog 58 #[r.two.val, .int .i64 (m : Int)] W fun e w' => e = .returned (.bool true) ∧ Below W.heap.size W w') ∧ (Calls Tryz.prog 58 #[r.three.val, .int .i64 (m : Int)] W fun e w' => e = .returned (.bool true) ∧ Below W.heap.size W w')) := fun W hb => by
  have h' := h.below hb
  exact ⟨allDigests_any r.l m _ h'.l (by have := h.nl; omega) hm, allDigests_any r.one m _ h'.one (by have := h.n1; omega) hm, allDigests_any r.two m _ h'.two (by have := h.n2; omega) hm, allDigests_any r.three m _ h'.three (by have := h.n3; omega) hm⟩
 have HB : Hid (Below w.heap.size w _) := hb
 clear h hb
 unfold bkC
 unfold SlR.val at HH ⊢
 go_enter Tryz.func25, Tryz.ntmps25
 go_wp2_with fail
 refine (HH.out _ HB.out).1.mono ?_
 rintro e w1 ⟨rfl, hb1⟩
 have HB1 : Hid (Below w.heap.size w w1) := HB.out.trans (hb1.mono HB.out.size)
 have HR1 := RowV.below HR.out HR.out.lt hb1
 have c1 := HR1.cell 1 (by simp)
 have c2 := HR1.cell 2 (by simp)
 have c3 := HR1.cell 3 (by simp)
 have c4 := HR1.cell 4 (by simp)
 simp only [List.getElem_cons_zero, List.getElem_cons_succ] at c1 c2 c3 c4
 have HR1 : Hid _ := HR1
 clear hb1 HR
 go_wp2_with fail
 refine (HH.out _ HB1.out).2.1.mono ?_
 rintro e w2 ⟨rfl, hb2⟩
 have HB2 : Hid (Below w.heap.size w w2) := HB1.out.trans (hb2.mono HB1.out.size)
 have HR2 := RowV.below HR1.out (RowV.lt HR1.out) hb2
 clear c1 c2 c3 c4
 have c2 := HR2.cell 2 (by simp)
 have c3 := HR2.cell 3 (by simp)
 have c4 := HR2.cell 4 (by simp)
 simp only [List.getElem_cons_zero, List.getElem_cons_succ] at c2 c3 c4
 have HR2 : Hid _ := HR2
 clear hb2 HR1
 go_wp2_with fail
 refine (HH.out _ HB2.out).2.2.1.mono ?_
 rintro e w3 ⟨rfl, hb3⟩
 have HB3 : Hid (Below w.heap.size w w3) := HB2.out.trans (hb3.mono HB2.out.size)
 have HR3 := RowV.below HR2.out (RowV.lt HR2.out) hb3
 clear c2 c3 c4
 have c3 := HR3.cell 3 (by simp)
 have c4 := HR3.cell 4 (by simp)
 simp only [List.getElem_cons_zero, List.getElem_cons_succ] at c3 c4
 clear hb3 HR2 HR3
 go_wp2_with fail
 refine (HH.out _ HB3.out).2.2.2.mono ?_
 rintro e w4 ⟨rfl, hb4⟩
 have HB4 : Hid (Below w.heap.size w w4) := HB3.out.trans (hb4.mono HB3.out.size)
 clear hb4
 go_wp2
 go_ret
 exact ⟨rfl, HB4.out⟩
structure BdAt (w : World) (ds : SlR) (gs : List BkR) : Prop where
 own : w.ownsRow 0 62 5 ds.val gs.length (bksF 0 gs)
 ok : ∀ i (h : i < gs.length), BkOk w (patD i) 8 gs[i]
 apart : ∀ r ∈ gs, ∀ k, bkF r k → ds.val.ownBlock ≠ some k
theorem BdAt.frame {w w' : World} {S : Nat → Prop} {ds : SlR} {gs : List BkR} (h : BdAt w ds gs) (hf : Frame S w w') (hS : ∀ k, bookF ds gs k → ¬ S k) : BdAt w' ds gs :=
 ⟨owns_frame h.own hf (fun k hk => hS k (Or.inl hk)), fun i hi => (h.ok i hi).frame hf (fun k hk => hS k (Or.inr ⟨gs[i], List.getElem_mem hi, hk⟩)), h.apart⟩
theorem BdAt.below {w w' : World} {ds : SlR} {gs : List BkR} (h : BdAt w ds gs) (hb : Below w.heap.size w w') : BdAt w' ds gs := h.frame (Frame.of_below_all (S := fun _ => False) hb) (fun _ _ e => e)
theorem BdAt.lt {w : World} {ds : SlR} {gs : List BkR} (h : BdAt w ds gs) : ∀ k, bookF ds gs k → k < w.heap.size := fun k hk => by
 rcases hk with hk | ⟨r, hr, hk⟩
 ·exact (h.own.lt k hk).2
 ·obtain ⟨i, hi, rfl⟩ := List.getElem_of_mem hr
  exact (h.ok i hi).lt k hk
theorem BdAt.nil (w : World) : BdAt w ⟨none, 0, 0⟩ [] := ⟨World.ownsRow_nil _ _ _ _, fun i h => absurd h (Nat.not_lt_zero _), fun r hr => (by cases hr)⟩
end Go.Proofs.YtekegfbjbainhaaGreat
