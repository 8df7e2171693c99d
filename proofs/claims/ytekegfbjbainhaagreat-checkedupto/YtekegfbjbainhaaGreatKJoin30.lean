import Derived.Test.YtekegfbjbainhaaGreatKJoin29
import Derived.Deep.RegionHeld3
import Derived.Test.YtekegfbjbainhaaGreatKJoin20
import Derived.Test.YtekegfbjbainhaaGreatKJoin19
set_option linter.unusedVariables false
set_option linter.unusedSimpArgs false

namespace Go.Proofs.YtekegfbjbainhaaGreat
open Go.RowKit
attribute [local go_sem ↓] Go.wp_at_zero Go.wp_at_succ
def signB (m : Nat) : List UInt8 := [UInt8.ofNat m, UInt8.ofNat (m / 256), UInt8.ofNat (m / 65536), 77, 0, 0, 0, 0]
theorem u8c_nat (n : Nat) : u8c (UInt8.ofNat n) = .int .u8 ((n : Int) % 256) := by
 unfold u8c
 rw [UInt8.toNat_ofNat']
 simp
theorem signB_cells (m : Nat) : (signB m).map u8c = [.int .u8 ((m : Int) % 256), .int .u8 ((m : Int) / 256 % 256), .int .u8 ((m : Int) / 65536 % 256), .int .u8 77, .int .u8 0, .int .u8 0, .int .u8 0, .int .u8 0] := by
 unfold signB
 rw [List.map_cons, List.map_cons, List.map_cons, u8c_nat, u8c_nat, u8c_nat]
 rfl
set_option maxRecDepth 100000 in
set_option maxHeartbeats 1000000 in
theorem sign_any (m : Nat) (w : World) (hm : m ≤ 140737488355328) :
  Calls Tryz.prog 101 #[.int .i64 (m : Int)] w fun e w' => e = .returned (dV (signB m)) ∧ Below w.heap.size w w' := by
 have hmI : (m : Int) ≤ 140737488355328 := by omega
 have hm0 : (0 : Int) ≤ m := by omega
 unfold dV
 rw [signB_cells]
 go_enter Tryz.func101, Tryz.ntmps101
 go_wp2
 go_returns
 exact ⟨rfl, by go_grown⟩
def patD (m : Nat) : Nat → Value := fun j => ((signB m).map u8c).getD (j % 8) (.int .u8 0)
theorem patD_at (m k j : Nat) (hj : j < 8) : patD m (k * 8 + j) = ((signB m).map u8c).getD j (.int .u8 0) := by
 unfold patD
 rw [show (k * 8 + j) % 8 = j by omega]
set_option maxRecDepth 100000 in
set_option maxHeartbeats 2000000 in
theorem allDigests_any (s : SlR) (m : Nat) (w : World) (h : PatSl w (patD m) 8 s) (hn : s.n ≤ 140737488355328) (hm : m ≤ 140737488355328) :
  Calls Tryz.prog 58 #[s.val, .int .i64 (m : Int)] w fun e w' => e = .returned (.bool true) ∧ Below w.heap.size w w' := by
 have hmI : (m : Int) ≤ 140737488355328 := by omega
 have hm0 : (0 : Int) ≤ m := by omega
 have hnI : (s.n : Int) ≤ 140737488355328 := by omega
 have HP : Hid (PatSl w (patD m) 8 s) := h
 have HSG : Hid (∀ W, Calls Tryz.prog 101 #[.int .i64 (m : Int)] W fun e w' => e = .returned (dV (signB m)) ∧ Below W.heap.size W w') := fun W => sign_any m W hm
 have HEQ : Hid (∀ W, (Op.equalIn 10000 36 (dV (signB m)) (dV (signB m))).run Tryz.prog W = .ok true W) := fun W => by
  have h := run_equalIn_bytes (P := Tryz.prog) W 9998 36 5 8 Tryz.underlying36 Tryz.underlying5 Tryz.sizeU8 (signB m) (signB m) rfl rfl
  rw [beq_self_eq_true] at h
  exact h
 have HPA := fun k j hj => patD_at m k j hj
 clear h
 unfold dV at HEQ HSG
 rw [signB_cells] at HEQ HSG HPA
 generalize ((m : Int) % 256) = x0 at *
 generalize ((m : Int) / 256 % 256) = x1 at *
 generalize ((m : Int) / 65536 % 256) = x2 at *
 have heq := HEQ.out
 unfold SlR.val
 go_enter Tryz.func58, Tryz.ntmps58
 go_wp2_with fail
 go_loopw [5] (fun i wr => ∃ k : Nat, k ≤ s.n ∧ i = .int .i64 k ∧ Hid (Below w.heap.size w wr)) (fun i _ => s.n - (intOf i).toNat)
 case atStart => exact ⟨0, by omega, rfl, Below.refl _ _⟩
 case round =>
  obtain ⟨k, hk, rfl, HB⟩ := hrel
  by_cases hlt : k < s.n
  ·have hltI : (k : Int) < s.n := by omega
   have HC : ∀ j, j < 8 → ∃ g, s.a = some ⟨g, 0, none⟩ ∧ g < w.heap.size ∧ wr.cell? ⟨g, k * 8 + j, none⟩ = some (patD m (k * 8 + j)) := fun j hj => by
    obtain ⟨g, ha, hg, hc⟩ := HP.out (k * 8 + j) (by omega)
    exact ⟨g, ha, hg, by rw [HB.out.cell (p := ⟨g, k * 8 + j, none⟩) hg]; exact hc⟩
   obtain ⟨g, ha, hg, c0⟩ := HC 0 (by omega)
   obtain ⟨_, ha', _, c1⟩ := HC 1 (by omega)
   rw [ha] at ha'; cases ha'
   obtain ⟨_, ha', _, c2⟩ := HC 2 (by omega)
   rw [ha] at ha'; cases ha'
   obtain ⟨_, ha', _, c3⟩ := HC 3 (by omega)
   rw [ha] at ha'; cases ha'
   obtain ⟨_, ha', _, c4⟩ := HC 4 (by omega)
   rw [ha] at ha'; cases ha'
   obtain ⟨_, ha', _, c5⟩ := HC 5 (by omega)
   rw [ha] at ha'; cases ha'
   obtain ⟨_, ha', _, c6⟩ := HC 6 (by omega)
   rw [ha] at ha'; cases ha'
   obtain ⟨_, ha', _, c7⟩ := HC 7 (by omega)
   rw [ha] at ha'; cases ha'
   rw [HPA k _ (by omega)] at c0 c1 c2 c3 c4 c5 c6 c7
   simp only [List.getD_cons_zero, List.getD_cons_succ, Nat.add_zero] at c0 c1 c2 c3 c4 c5 c6 c7
   have HGW : Hid (g < wr.heap.size) := Nat.lt_of_lt_of_le hg HB.out.size
   rw [ha]
   clear HC
   go_wp2_with fail
   go_region_held3 (fun W => W.cell? ⟨g, k * 8, none⟩ = some (.int .u8 x0) ∧ W.cell? ⟨g, k * 8 + 1, none⟩ = some (.int .u8 x1) ∧ W.cell? ⟨g, k * 8 + 2, none⟩ = some (.int .u8 x2) ∧ W.cell? ⟨g, k * 8 + 3, none⟩ = some (.int .u8 77) ∧ W.cell? ⟨g, k * 8 + 4, none⟩ = some (.int .u8 0) ∧ W.cell? ⟨g, k * 8 + 5, none⟩ = some (.int .u8 0) ∧ W.cell? ⟨g, k * 8 + 6, none⟩ = some (.int .u8 0) ∧ W.cell? ⟨g, k * 8 + 7, none⟩ = some (.int .u8 0)) (go_keep)
    ((go_at_call 101; refine (HSG.out _).mono ?_; rintro r w2 ⟨rfl, hb2⟩; have q0 : w2.cell? ⟨g, k * 8, none⟩ = some (.int .u8 x0) := (by rw [hb2.cell (p := ⟨g, k * 8, none⟩) (by show g < wr.heap.size; exact HGW.out)]; exact c0); have q1 : w2.cell? ⟨g, k * 8 + 1, none⟩ = some (.int .u8 x1) := (by rw [hb2.cell (p := ⟨g, k * 8 + 1, none⟩) (by show g < wr.heap.size; exact HGW.out)]; exact c1); have q2 : w2.cell? ⟨g, k * 8 + 2, none⟩ = some (.int .u8 x2) := (by rw [hb2.cell (p := ⟨g, k * 8 + 2, none⟩) (by show g < wr.heap.size; exact HGW.out)]; exact c2); have q3 : w2.cell? ⟨g, k * 8 + 3, none⟩ = some (.int .u8 77) := (by rw [hb2.cell (p := ⟨g, k * 8 + 3, none⟩) (by show g < wr.heap.size; exact HGW.out)]; exact c3); have q4 : w2.cell? ⟨g, k * 8 + 4, none⟩ = some (.int .u8 0) := (by rw [hb2.cell (p := ⟨g, k * 8 + 4, none⟩) (by show g < wr.heap.size; exact HGW.out)]; exact c4); have q5 : w2.cell? ⟨g, k * 8 + 5, none⟩ = some (.int .u8 0) := (by rw [hb2.cell (p := ⟨g, k * 8 + 5, none⟩) (by show g < wr.heap.size; exact HGW.out)]; exact c5); have q6 : w2.cell? ⟨g, k * 8 + 6, none⟩ = some (.int .u8 0) := (by rw [hb2.cell (p := ⟨g, k * 8 + 6, none⟩) (by show g < wr.heap.size; exact HGW.out)]; exact c6); have q7 : w2.cell? ⟨g, k * 8 + 7, none⟩ = some (.int .u8 0) := (by rw [hb2.cell (p := ⟨g, k * 8 + 7, none⟩) (by show g < wr.heap.size; exact HGW.out)]; exact c7)))
   all_goals
    have HB2 : Hid (Below w.heap.size w w2) := by
     have h2 : Below wr.heap.size wr w2 := ⟨hb2.os, hb2.tape, hb2.output, hb2.size, hb2.block⟩
     exact HB.out.trans (h2.mono HB.out.size)
    clear hb2
    go_wp2
    refine ⟨⟨k + 1, by omega, by go_num, HB2⟩, by simp [intOf]; omega⟩
  ·have hltI : ¬ (k : Int) < s.n := by omega
   go_wp2
   go_ret
   exact ⟨rfl, HB.out⟩
set_option maxRecDepth 100000 in
set_option maxHeartbeats 1000000 in
theorem stillD_any (r : BkR) (m : Nat) (w : World) (h : BkOk w (patD m) 8 r) (hm : m ≤ 140737488355328) :
  Calls Tryz.prog 25 #[.agg (bkC r m).toArray] w fun e w' => e = .returned (.bool true) ∧ Below w.heap.size w w' := by
 have hb : Below w.heap.size w (w.alloc (.cells #[.slice r.l.a r.l.n r.l.cap, .slice r.one.a r.one.n r.one.cap, .slice r.two.a r.two.n r.two.cap, .slice r.three.a r.three.n r.three.cap, .int .i64 (m : Int)] 62)) := (Below.refl _ _).alloc (Nat.le_refl _) _
 have HR : Hid (RowV (w.alloc (.cells #[.slice r.l.a r.l.n r.l.cap, .slice r.one.a r.one.n r.one.cap, .slice r.two.a r.two.n r.two.cap, .slice r.three.a r.three.n r.three.cap, .int .i64 (m : Int)] 62)) w.heap.size 62 [.slice r.l.a r.l.n r.l.cap, .slice r.one.a r.one.n r.one.cap, .slice r.two.a r.two.n r.two.cap, .slice r.three.a r.three.n r.three.cap, .int .i64 (m : Int)]) := RowV.new w _ _
 have HH : Hid (∀ W, Below w.heap.size w W → (Calls Tryz.prog 58 #[r.l.val, .int .i64 (m : Int)] W fun e w' => e = .returned (.bool true) ∧ Below W.heap.size W w') ∧ (Calls Tryz.prog 58 #[r.one.val, .int .i64 (m : Int)] W fun e w' => e = .returned (.bool true) ∧ Below W.heap.size W w') ∧ (Calls Tryz.prog 58 #[r.two.val, .int .i64 (m : Int)] W fun e w' => e = .returned (.bool true) ∧ Below W.heap.size W w') ∧ (Calls Tryz.prog 58 #[r.three.val, .int .i64 (m : Int)] W fun e w' => e = .returned (.bool true) ∧ Below W.heap.size W w')) := fun W hb => by
  have h' := h.below hb
  exact ⟨allDigests_any r.l m _ h'.l (by have := h.nl; omega) hm, allDigests_any r.one m _ h'.one (by have := h.n1; omega) hm, allDigests_any r.two m _ h'.two (by have := h.n2; omega) hm, allDigests_any r.three m _ h'.three (by have := h.n3; omega) hm⟩
 have HB : Hid (Below w.heap.size w _) := hb
 clear h hb
 unfold bkC
 unfold SlR.val at HH ⊢
 go_enter Tryz.func25, Tryz.ntmps25
 go_wp2_with fail
 refine (HH.out _ HB.out).1.mono ?_
 rintro e w1 ⟨rfl, hb1⟩
 have HB1 : Hid (Below w.heap.size w w1) := HB.out.trans (hb1.mono HB.out.size)
 have HR1 := RowV.below HR.out HR.out.lt hb1
 have c1 := HR1.cell 1 (by simp)
 have c2 := HR1.cell 2 (by simp)
 have c3 := HR1.cell 3 (by simp)
 have c4 := HR1.cell 4 (by simp)
 simp only [List.getElem_cons_zero, List.getElem_cons_succ] at c1 c2 c3 c4
 have HR1 : Hid _ := HR1
 clear hb1 HR
 go_wp2_with fail
 refine (HH.out _ HB1.out).2.1.mono ?_
 rintro e w2 ⟨rfl, hb2⟩
 have HB2 : Hid (Below w.heap.size w w2) := HB1.out.trans (hb2.mono HB1.out.size)
 have HR2 := RowV.below HR1.out (RowV.lt HR1.out) hb2
 clear c1 c2 c3 c4
 have c2 := HR2.cell 2 (by simp)
 have c3 := HR2.cell 3 (by simp)
 have c4 := HR2.cell 4 (by simp)
 simp only [List.getElem_cons_zero, List.getElem_cons_succ] at c2 c3 c4
 have HR2 : Hid _ := HR2
 clear hb2 HR1
 go_wp2_with fail
 refine (HH.out _ HB2.out).2.2.1.mono ?_
 rintro e w3 ⟨rfl, hb3⟩
 have HB3 : Hid (Below w.heap.size w w3) := HB2.out.trans (hb3.mono HB2.out.size)
 have HR3 := RowV.below HR2.out (RowV.lt HR2.out) hb3
 clear c2 c3 c4
 have c3 := HR3.cell 3 (by simp)
 have c4 := HR3.cell 4 (by simp)
 simp only [List.getElem_cons_zero, List.getElem_cons_succ] at c3 c4
 clear hb3 HR2 HR3
 go_wp2_with fail
 refine (HH.out _ HB3.out).2.2.2.mono ?_
 rintro e w4 ⟨rfl, hb4⟩
 have HB4 : Hid (Below w.heap.size w w4) := HB3.out.trans (hb4.mono HB3.out.size)
 clear hb4
 go_wp2
 go_ret
 exact ⟨rfl, HB4.out⟩
structure BdAt (w : World) (ds : SlR) (gs : List BkR) : Prop where
 own : w.ownsRow 0 62 5 ds.val gs.length (bksF 0 gs)
 ok : ∀ i (h : i < gs.length), BkOk w (patD i) 8 gs[i]
 apart : ∀ r ∈ gs, ∀ k, bkF r k → ds.val.ownBlock ≠ some k
theorem BdAt.frame {w w' : World} {S : Nat → Prop} {ds : SlR} {gs : List BkR} (h : BdAt w ds gs) (hf : Frame S w w') (hS : ∀ k, bookF ds gs k → ¬ S k) : BdAt w' ds gs :=
 ⟨owns_frame h.own hf (fun k hk => hS k (Or.inl hk)), fun i hi => (h.ok i hi).frame hf (fun k hk => hS k (Or.inr ⟨gs[i], List.getElem_mem hi, hk⟩)), h.apart⟩
theorem BdAt.lt {w : World} {ds : SlR} {gs : List BkR} (h : BdAt w ds gs) : ∀ k, bookF ds gs k → k < w.heap.size := fun k hk => by
 rcases hk with hk | ⟨r, hr, hk⟩
 ·exact (h.own.lt k hk).2
 ·obtain ⟨i, hi, rfl⟩ := List.getElem_of_mem hr
  exact (h.ok i hi).lt k hk
theorem BdAt.nil (w : World) : BdAt w ⟨none, 0, 0⟩ [] := ⟨World.ownsRow_nil _ _ _ _, fun i h => absurd h (Nat.not_lt_zero _), fun r hr => (by cases hr)⟩
end Go.Proofs.YtekegfbjbainhaaGreat


namespace Go.Proofs.YtekegfbjbainhaaGreat
open Go.RowKit
theorem bk_range {w : World} {base e : Nat} {bs : SlR} {rs : List BkR} (h : w.ownsRow base e 5 bs.val rs.length (bksF 0 rs)) : bs.n = rs.length ∧ ∀ k (hk : k < rs.length), ∃ b o, bs.a = some ⟨b, o, none⟩ ∧ b < w.heap.size ∧ w.rangeAt b (o + k * 5) (bkC rs[k] k) := by
 obtain ⟨hsl, hbn⟩ := SlV.ofOwn (s := bs) h
 refine ⟨hbn, fun k hk => ?_⟩
 obtain ⟨b, o, ha, hb, _⟩ := hsl (k * 5) (by rw [bksF_length]; omega)
 refine ⟨b, o, ha, hb, fun j v hv => ?_⟩
 have hj : j < 5 := by
  have := (List.getElem?_eq_some_iff.1 hv).1
  simpa [bkC] using this
 have hg := bksF_get 0 rs k hk j hj
 rw [Nat.zero_add] at hg
 obtain ⟨b', o', ha', _, hc⟩ := hsl (k * 5 + j) (by rw [bksF_length]; omega)
 rw [ha] at ha'
 cases ha'
 rw [show o + k * 5 + j = o + (k * 5 + j) by omega, hc]
 rw [hv] at hg
 rw [List.getElem?_eq_getElem (by rw [bksF_length]; omega)] at hg
 exact hg
theorem range_below {w wr : World} {b o n : Nat} {l : List Value} (hb : Below w.heap.size w wr) (hbb : b < w.heap.size) (h : w.rangeAt b o l) : wr.rangeAt b o l := fun j v hv => by
 rw [hb.cell (p := ⟨b, o + j, none⟩) hbb]
 exact h j v hv
theorem Tryz.sizeDigests : (Tryz.prog.info? 62).map (·.size) = some 5 := by kernel_rfl
theorem Tryz.sizeEntries : (Tryz.prog.info? 65).map (·.size) = some 5 := by kernel_rfl
set_option maxRecDepth 100000 in
set_option maxHeartbeats 4000000 in
theorem looks_all (wb : Nat) (ps bs ds es : SlR) (rs gs : List BkR) (hs : List EBk) (w : World) (hW : RowV w wb 34 [ps.val, bs.val, ds.val, es.val]) (hB : BkAt w bs rs) (hD : BdAt w ds gs) (hE : BeAt w es hs) (hn : rs.length ≤ 1200000000000) (hg : gs.length ≤ 1200000000000) (hh : hs.length ≤ 1200000000000) :
  Calls Tryz.prog 13 #[.pointer (some ⟨wb, 1, none⟩)] w fun e w' => e = .returned (.bool true) ∧ Below w.heap.size w w' := by
 obtain ⟨hbn, hbr⟩ := bk_range hB.own
 obtain ⟨hdn, hdr⟩ := bk_range hD.own
 have hel : hs.length = (hs.map (·.r)).length := by simp
 obtain ⟨hen, her⟩ := bk_range (rs := hs.map (·.r)) (by rw [← hel]; exact hE.own)
 rw [← hel] at hen
 have hnI : (bs.n : Int) ≤ 1200000000000 := by rw [hbn]; omega
 have hdI : (ds.n : Int) ≤ 1200000000000 := by rw [hdn]; omega
 have heI : (es.n : Int) ≤ 1200000000000 := by rw [hen]; omega
 have HN : Hid (bs.n = rs.length) := hbn
 have HND : Hid (ds.n = gs.length) := hdn
 have HNE : Hid (es.n = hs.length) := hen
 have HW : Hid (RowV w wb 34 [ps.val, bs.val, ds.val, es.val]) := hW
 have HB : Hid (BkAt w bs rs) := hB
 have HD : Hid (BdAt w ds gs) := hD
 have HE : Hid (BeAt w es hs) := hE
 have HL : Hid (rs.length ≤ 1200000000000 ∧ gs.length ≤ 1200000000000 ∧ hs.length ≤ 1200000000000) := ⟨hn, hg, hh⟩
 have HRG : Hid (∀ k (hk : k < rs.length), ∃ b o, bs.a = some ⟨b, o, none⟩ ∧ b < w.heap.size ∧ w.rangeAt b (o + k * 5) (bkC rs[k] k)) := hbr
 have HRD : Hid (∀ k (hk : k < gs.length), ∃ b o, ds.a = some ⟨b, o, none⟩ ∧ b < w.heap.size ∧ w.rangeAt b (o + k * 5) (bkC gs[k] k)) := hdr
 have HRE : Hid (∀ k (hk : k < hs.length), ∃ b o, es.a = some ⟨b, o, none⟩ ∧ b < w.heap.size ∧ w.rangeAt b (o + k * 5) (bkC hs[k].r k)) := fun k hk => by
  have := her k (by simpa using hk)
  simpa using this
 clear hbn hdn hen hbr hdr her hel hW hB hD hE hn hg hh
 go_enter Tryz.func13, Tryz.ntmps13
 go_wp2
 go_loopw [3, 4, 5] (fun ok i _ wr => ∃ k : Nat, k ≤ bs.n ∧ i = .int .i64 k ∧ ok = .bool true ∧ Below w.heap.size w wr) (fun _ i _ _ => bs.n - (intOf i).toNat)
 case atStart => exact ⟨0, by omega, by simp, by simp, Below.refl _ _⟩
 case round =>
  obtain ⟨k, hk, rfl, rfl, hb⟩ := hrel
  have hWr := HW.out.below HW.out.lt hb
  have c1 : wr.cell? ⟨wb, 1, none⟩ = some (.slice bs.a bs.n bs.cap) := hWr.cell 1 (by simp)
  by_cases hlt : k < bs.n
  ·have hltI : (k : Int) < bs.n := by omega
   have hkl : k < rs.length := by have := HN.out; omega
   obtain ⟨b, o, ha, hbb, hrg⟩ := HRG.out k hkl
   have HST : Hid (Calls _ _ _ _ _) := still_any rs[k] k wr (((HB.out.ok k hkl).frame (Frame.of_below_all (S := fun _ => False) hb) (fun _ _ e => e))) (by have := HL.out.1; omega)
   have HRG' : Hid (wr.rangeAt b (o + k * 5) (bkC rs[k] k)) := range_below (n := 0) hb hbb hrg
   have HSZ : Hid ((Tryz.prog.info? 60).map (·.size) = some (bkC rs[k] k).length) := Tryz.sizeBytes
   rw [ha] at c1
   clear hrg hWr
   go_wp2_with (first
    | (refine wpList_load_mid (by rfl) 60 (.tmp 24) (by rfl) b (o + k * 5) (by rfl) (bkC rs[k] k) _ HRG'.out Tryz.underlying60 (by rfl) HSZ.out ?_)
    | (go_at_call 24; refine HST.out.mono ?_; rintro e w2 ⟨rfl, hb2⟩))
   refine ⟨⟨k + 1, by omega, by go_num, by simp, hb.trans (hb2.mono hb.size)⟩, by simp [intOf]; omega⟩
  ·have hltI : ¬ (k : Int) < bs.n := by omega
   clear hWr
   have HBA : Hid (Below w.heap.size w wr) := hb
   clear hb
   go_wp2
   go_loopw [3, 6, 7] (fun ok i _ wr => ∃ k : Nat, k ≤ ds.n ∧ i = .int .i64 k ∧ ok = .bool true ∧ Below w.heap.size w wr) (fun _ i _ _ => ds.n - (intOf i).toNat)
   case atStart => exact ⟨0, by omega, by simp, by simp, HBA.out⟩
   case round =>
    clear hk hltI hlt c1
    rename_i k0 _ _ _ _ _
    clear HBA
    obtain ⟨k, hk, rfl, rfl, hb⟩ := hrel
    have hWr := HW.out.below HW.out.lt hb
    have c1 : wr.cell? ⟨wb, 2, none⟩ = some (.slice ds.a ds.n ds.cap) := hWr.cell 2 (by simp)
    by_cases hlt : k < ds.n
    ·have hltI : (k : Int) < ds.n := by omega
     have hkl : k < gs.length := by have := HND.out; omega
     obtain ⟨b, o, ha, hbb, hrg⟩ := HRD.out k hkl
     have HST : Hid (Calls _ _ _ _ _) := stillD_any gs[k] k wr (((HD.out.ok k hkl).frame (Frame.of_below_all (S := fun _ => False) hb) (fun _ _ e => e))) (by have := HL.out.2.1; omega)
     have HRG' : Hid (wr.rangeAt b (o + k * 5) (bkC gs[k] k)) := range_below (n := 0) hb hbb hrg
     have HSZ : Hid ((Tryz.prog.info? 62).map (·.size) = some (bkC gs[k] k).length) := Tryz.sizeDigests
     rw [ha] at c1
     clear hrg hWr
     go_wp2_with (first
      | (refine wpList_load_mid (by rfl) 62 (.tmp 45) (by rfl) b (o + k * 5) (by rfl) (bkC gs[k] k) _ HRG'.out Tryz.underlying62 (by rfl) HSZ.out ?_)
      | (go_at_call 25; refine HST.out.mono ?_; rintro e w2 ⟨rfl, hb2⟩))
     refine ⟨⟨k + 1, by omega, by go_num, by simp, hb.trans (hb2.mono hb.size)⟩, by simp [intOf]; omega⟩
    ·have hltI : ¬ (k : Int) < ds.n := by omega
     clear hWr
     have HBA : Hid (Below w.heap.size w wr) := hb
     clear hb
     go_wp2
     go_loopw [3, 8, 9] (fun ok i _ wr => ∃ k : Nat, k ≤ es.n ∧ i = .int .i64 k ∧ ok = .bool true ∧ Below w.heap.size w wr) (fun _ i _ _ => es.n - (intOf i).toNat)
     case atStart => exact ⟨0, by omega, by simp, by simp, HBA.out⟩
     case round =>
      clear hk hltI hlt c1 HBA
      obtain ⟨k, hk, rfl, rfl, hb⟩ := hrel
      have hWr := HW.out.below HW.out.lt hb
      have c1 : wr.cell? ⟨wb, 3, none⟩ = some (.slice es.a es.n es.cap) := hWr.cell 3 (by simp)
      by_cases hlt : k < es.n
      ·have hltI : (k : Int) < es.n := by omega
       have hkl : k < hs.length := by have := HNE.out; omega
       obtain ⟨b, o, ha, hbb, hrg⟩ := HRE.out k hkl
       have HST : Hid (Calls _ _ _ _ _) := stillE_any hs[k].r k hs[k].kb wr (((HE.out.ok k hkl).1.frame (Frame.of_below_all (S := fun _ => False) hb) (fun _ _ e => e))) (((HE.out.ok k hkl).2.frame (Frame.of_below_all (S := fun _ => False) hb) (fun e => e))) (by have := HL.out.2.2; omega)
       have HRG' : Hid (wr.rangeAt b (o + k * 5) (bkC hs[k].r k)) := range_below (n := 0) hb hbb hrg
       have HSZ : Hid ((Tryz.prog.info? 65).map (·.size) = some (bkC hs[k].r k).length) := Tryz.sizeEntries
       rw [ha] at c1
       clear hrg hWr
       go_wp2_with (first
        | (refine wpList_load_mid (by rfl) 65 (.tmp 66) (by rfl) b (o + k * 5) (by rfl) (bkC hs[k].r k) _ HRG'.out Tryz.underlying65 (by rfl) HSZ.out ?_)
        | (go_at_call 26; refine HST.out.mono ?_; rintro e w2 ⟨rfl, hb2⟩))
       refine ⟨⟨k + 1, by omega, by go_num, by simp, hb.trans (hb2.mono hb.size)⟩, by simp [intOf]; omega⟩
      ·have hltI : ¬ (k : Int) < es.n := by omega
       clear hWr
       go_wp2
       go_ret
       exact ⟨rfl, hb⟩
end Go.Proofs.YtekegfbjbainhaaGreat


namespace Go.Proofs.YtekegfbjbainhaaGreat
open Go.RowKit
theorem next_places (level : Nat) : ∀ (ps : List (List ItR)) (i : Nat), (nextF level i ps).map (·.below) = List.range' i ps.length
 | [], i => by simp [nextF]
 | p :: r, i => by
  unfold nextF
  rw [List.map_cons, next_places level r (i + 1), List.length_cons, List.range'_succ]
theorem grownF_uniq : ∀ (f level : Nat) (l : List ItR) (n : Nat) (up : List (List ItR)), (grownF f level l)[n + 1]? = some up → (up.flatten.map (·.below)).Nodup
 | 0, level, l, n, up, h => by simp [grownF] at h
 | f + 1, level, l, n, up, h => by
  unfold grownF at h
  by_cases h1 : (partedN level l).length = 1
  ·rw [if_pos h1] at h
   simp at h
  ·rw [if_neg h1, List.getElem?_cons_succ] at h
   cases n with
   | succ n => exact grownF_uniq f (level + 1) _ n up h
   | zero =>
    cases f with
    | zero => simp [grownF] at h
    | succ f =>
     have hup : up = partedN (level + 1) (nextF level 0 (partedN level l)) := by
      unfold grownF at h
      split at h
      ·simpa using h.symm
      ·simpa using h.symm
     have e : up.flatten = nextF level 0 (partedN level l) := by rw [hup]; unfold partedN; rw [partF_flatten]; rfl
     rw [e, next_places]
     exact List.nodup_range'
def costF (lvls : List (List (List ItR))) (fr tu : List UInt8) (n : Nat) (js : List Nat) : Nat := (js.map (fun j => (rangeF lvls fr tu n (pageAt lvls n j)).length)).sum
def namedF (p : List ItR) (fr tu : List UInt8) : List Nat := (List.range p.length).flatMap (fun i => if withB p i fr tu = true then [belowAt p i] else [])
theorem named_sub (p : List ItR) (fr tu : List UInt8) : List.Sublist (namedF p fr tu) (p.map (·.below)) := by
 have h : ∀ k, k ≤ p.length → List.Sublist ((List.range k).flatMap (fun i => if withB p i fr tu = true then [belowAt p i] else [])) ((p.take k).map (·.below)) := fun k => by
  induction k with
  | zero => intro _; simp
  | succ k ih =>
   intro hk
   rw [List.range_succ, List.flatMap_append, List.take_succ_eq_append_getElem (by omega), List.map_append]
   refine List.Sublist.append (ih (by omega)) ?_
   have e : belowAt p k = p[k].below := by unfold belowAt; rw [List.getElem?_eq_getElem (by omega)]; rfl
   simp only [List.flatMap_cons, List.flatMap_nil, List.append_nil, List.map_cons, List.map_nil]
   split
   ·rw [e]; exact List.Sublist.refl _
   ·exact List.nil_sublist _
 have := h p.length (Nat.le_refl _)
 rw [List.take_length] at this
 exact this
theorem cost_named (lvls : List (List (List ItR))) (fr tu : List UInt8) (n : Nat) (p : List ItR) : (rangeF lvls fr tu (n + 1) p).length = (frameB (n + 1) p).length + costF lvls fr tu n (namedF p fr tu) := by
 rw [rangeF_succ, List.length_append]
 congr 1
 unfold behindF costF namedF
 rw [List.map_flatMap]
 generalize List.range p.length = r
 induction r with
 | nil => rfl
 | cons i r ih =>
  rw [List.flatMap_cons, List.flatMap_cons, List.length_append, List.sum_append, ih]
  congr 1
  split <;> simp
theorem cost_flat (lvls : List (List (List ItR))) (fr tu : List UInt8) (n : Nat) (js : List Nat) (f : Nat → List Nat) : costF lvls fr tu n (js.flatMap f) = (js.map (fun j => costF lvls fr tu n (f j))).sum := by
 unfold costF
 induction js with
 | nil => rfl
 | cons j js ih => rw [List.flatMap_cons, List.map_append, List.sum_append, ih]; rfl
theorem sum_bound (f : Nat → Nat) (B : Nat) (js : List Nat) (h : ∀ j ∈ js, f j ≤ B) : (js.map f).sum ≤ js.length * B := by
 induction js with
 | nil => simp
 | cons j js ih =>
  have h1 := h j (by simp)
  have h2 := ih (fun x hx => h x (by simp [hx]))
  rw [List.map_cons, List.sum_cons, List.length_cons, Nat.add_mul]
  omega
theorem nodup_lt_length : ∀ (N : Nat) (js : List Nat), js.Nodup → (∀ j ∈ js, j < N) → js.length ≤ N
 | 0, js, _, hlt => by
  cases js with
  | nil => simp
  | cons j js => exact absurd (hlt j (by simp)) (Nat.not_lt_zero _)
 | N + 1, js, h, hlt => by
  have ih := nodup_lt_length N (js.erase N) (h.erase N) (fun j hj => by
   have := (List.Nodup.mem_erase_iff h).1 hj
   have := hlt j this.2
   omega)
  have : js.length ≤ (js.erase N).length + 1 := by
   by_cases hm : N ∈ js
   ·rw [List.length_erase_of_mem hm]; omega
   ·rw [List.erase_of_not_mem hm]; omega
  omega
theorem cost_small {lvls : List (List (List ItR))} (hL : LvlsOk lvls) (hu : ∀ n up, lvls[n + 1]? = some up → (up.flatten.map (·.below)).Nodup) (fr tu : List UInt8) : ∀ (n : Nat) (ps : List (List ItR)) (js : List Nat), lvls[n]? = some ps → js.Nodup → (∀ j ∈ js, j < ps.length) → costF lvls fr tu n js ≤ (n + 1) * 97600
 | 0, ps, js, hp, hd, hj => by
  have h1 := nodup_lt_length ps.length js hd hj
  have h2 := hL.cnt 0 ps hp
  have h3 := sum_bound (fun j => (rangeF lvls fr tu 0 (pageAt lvls 0 j)).length) 1600 js (fun j _ => by
   have := pageAt_ok hL 0 j
   show (frameB 0 _).length ≤ 1600
   exact frameB_length 0 _ this.2.1 this.1)
  unfold costF
  have h4 : js.length * 1600 ≤ 61 * 1600 := Nat.mul_le_mul_right _ (by omega)
  exact Nat.le_trans h3 (Nat.le_trans h4 (by decide))
 | n + 1, ps, js, hp, hd, hj => by
  have h1 := nodup_lt_length ps.length js hd hj
  have h2 := hL.cnt (n + 1) ps hp
  have e : costF lvls fr tu (n + 1) js = (js.map (fun j => (frameB (n + 1) (pageAt lvls (n + 1) j)).length)).sum + costF lvls fr tu n (js.flatMap (fun j => namedF (pageAt lvls (n + 1) j) fr tu)) := by
   rw [cost_flat]
   unfold costF
   clear hd hj h1
   induction js with
   | nil => rfl
   | cons j js ih =>
    simp only [List.map_cons, List.sum_cons] at ih ⊢
    rw [ih, cost_named]
    unfold costF
    omega
  have h3 := sum_bound (fun j => (frameB (n + 1) (pageAt lvls (n + 1) j)).length) 1600 js (fun j _ => by
   have := pageAt_ok hL (n + 1) j
   exact frameB_length (n + 1) _ this.2.1 this.1)
  have h4 : js.length * 1600 ≤ 61 * 1600 := Nat.mul_le_mul_right _ (by omega)
  obtain ⟨qs, hq⟩ : ∃ qs, lvls[n]? = some qs := by
   have := (List.getElem?_eq_some_iff.1 hp).1
   exact ⟨_, List.getElem?_eq_getElem (by omega)⟩
  have hun := hu n ps hp
  have hpg : ∀ j, ∀ h : j < ps.length, pageAt lvls (n + 1) j = ps[j] := fun j h => by
   unfold pageAt
   rw [hp]
   simp [h]
  rw [List.map_flatten] at hun
  have hun' := List.pairwise_flatten.1 hun
  have hlt : ∀ x ∈ js.flatMap (fun j => namedF (pageAt lvls (n + 1) j) fr tu), x < qs.length := fun x hx => by
   obtain ⟨j, hjm, hx⟩ := List.mem_flatMap.1 hx
   have hjl := hj j hjm
   rw [hpg j hjl] at hx
   have := (named_sub _ fr tu).subset hx
   obtain ⟨y, hy, rfl⟩ := List.mem_map.1 this
   exact (hL.bel n qs ps hq hp _ (List.getElem_mem hjl) y hy).1
  have hnd : (js.flatMap (fun j => namedF (pageAt lvls (n + 1) j) fr tu)).Nodup := by
   unfold List.Nodup
   rw [List.flatMap_def, List.pairwise_flatten]
   refine ⟨fun l hl => ?_, ?_⟩
   ·obtain ⟨j, hjm, rfl⟩ := List.mem_map.1 hl
    have hjl := hj j hjm
    rw [hpg j hjl]
    exact List.Pairwise.sublist (named_sub _ fr tu) (hun'.1 _ (List.mem_map.2 ⟨_, List.getElem_mem hjl, rfl⟩))
   ·rw [List.pairwise_map]
    refine List.Pairwise.imp_of_mem ?_ hd
    intro a b ha hb hne x hx y hy
    have hal := hj a ha
    have hbl := hj b hb
    rw [hpg a hal] at hx
    rw [hpg b hbl] at hy
    have hx' := (named_sub _ fr tu).subset hx
    have hy' := (named_sub _ fr tu).subset hy
    have hpw := List.pairwise_iff_getElem.1 hun'.2
    rcases Nat.lt_or_gt_of_ne hne with h | h
    ·have := hpw a b (by simpa using hal) (by simpa using hbl) h
     simp only [List.getElem_map] at this
     exact this x hx' y hy'
    ·have := hpw b a (by simpa using hbl) (by simpa using hal) h
     simp only [List.getElem_map] at this
     exact fun e => this y hy' x hx' e.symm
  have ih := cost_small hL hu fr tu n qs _ hq hnd hlt
  rw [e]
  omega
theorem prf_short {p : List ItR} (h : PastR p) (fr tu : List UInt8) : (prfB p fr tu).length ≤ 1000000 := by
 have hL := grown_lv p h.1 h.2.1 h.2.2
 have e : rootPage p = pageAt (grownN p) (rootLevel p) 0 := by
  unfold rootPage pageAt rootLevel
  cases ((grownN p)[(grownN p).length - 1]?.getD []) <;> rfl
 have hg := grownF_length 7 0 p (by omega)
 have hlen : 1 ≤ (grownN p).length := hg.1
 obtain ⟨ps, hp⟩ : ∃ ps, (grownN p)[rootLevel p]? = some ps := ⟨_, List.getElem?_eq_getElem (by unfold rootLevel; omega)⟩
 have hl6 : rootLevel p ≤ 6 := by have := hL.len; unfold rootLevel; omega
 unfold prfB
 rw [e]
 by_cases h0 : 0 < ps.length
 ·have h1 := cost_small hL (fun n up => grownF_uniq 7 0 p n up) fr tu (rootLevel p) ps [0] hp (by simp) (by simpa using h0)
  have e2 : costF (grownN p) fr tu (rootLevel p) [0] = (rangeF (grownN p) fr tu (rootLevel p) (pageAt (grownN p) (rootLevel p) 0)).length := by simp [costF]
  rw [e2] at h1
  have : (rootLevel p + 1) * 97600 ≤ 7 * 97600 := Nat.mul_le_mul_right _ (by omega)
  omega
 ·have e3 : pageAt (grownN p) (rootLevel p) 0 = [] := by
   unfold pageAt
   rw [hp]
   have : ps = [] := List.length_eq_zero_iff.1 (by omega)
   simp [this]
  rw [e3]
  cases hr : rootLevel p with
  | zero => simp [rangeF, frameB, codeB]
  | succ n => simp [rangeF, frameB, codeB]
end Go.Proofs.YtekegfbjbainhaaGreat
