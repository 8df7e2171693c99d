import Derived.Test.YtekegfbjbainhaaGreatKBook4
import Derived.Test.YtekegfbjbainhaaGreatKJoin20
import Derived.Test.YtekegfbjbainhaaGreatKJoin22
import Derived.Test.YtekegfbjbainhaaGreatKJoin24
import Derived.Deep.RegionHeld3
import Derived.Deep.RegionHeldLaw
import Derived.Deep.DeepCutAuto
/- All lists that came out are looked at: the bytes, walked. -/
namespace Go.Proofs.YtekegfbjbainhaaGreat
set_option linter.unusedVariables false
set_option linter.unusedSimpArgs false
open Go.RowKit

set_option maxRecDepth 100000 in
set_option maxHeartbeats 2000000 in
theorem looks_bytes (wb : Nat) (ps bs : SlR) (rs : List BkR) (w : World) (hW : RowV w wb 34 [ps.val, bs.val, .slice none 0 0, .slice none 0 0]) (hB : BkAt w bs rs) (hn : rs.length ≤ 1200000000000) :
    Calls Tryz.prog 13 #[.pointer (some ⟨wb, 1, none⟩)] w fun e w' => e = .returned (.bool true) ∧ Below w.heap.size w w' := by
  obtain ⟨hsl, hbn⟩ := SlV.ofOwn (s := bs) hB.own
  have hnI : (bs.n : Int) ≤ 1200000000000 := by rw [hbn]; omega
  have HN : Hid (bs.n = rs.length) := hbn
  have HW : Hid (RowV w wb 34 [ps.val, bs.val, .slice none 0 0, .slice none 0 0]) := hW
  have HB : Hid (BkAt w bs rs) := hB
  have HL : Hid (rs.length ≤ 1200000000000) := hn
  have HRG : Hid (∀ k (hk : k < rs.length), ∃ b o, bs.a = some ⟨b, o, none⟩ ∧ b < w.heap.size ∧ w.rangeAt b (o + k * 5) (bkC rs[k] k)) := fun k hk => by
    obtain ⟨b, o, ha, hb, _⟩ := hsl (k * 5) (by rw [bksF_length]; omega)
    refine ⟨b, o, ha, hb, fun j v hv => ?_⟩
    have hj : j < 5 := by
      have := (List.getElem?_eq_some_iff.1 hv).1
      simpa [bkC] using this
    have hg := bksF_get 0 rs k hk j hj
    rw [Nat.zero_add] at hg
    obtain ⟨b', o', ha', _, hc⟩ := hsl (k * 5 + j) (by rw [bksF_length]; omega)
    rw [ha] at ha'
    cases ha'
    rw [show o + k * 5 + j = o + (k * 5 + j) by omega, hc]
    rw [hv] at hg
    rw [List.getElem?_eq_getElem (by rw [bksF_length]; omega)] at hg
    exact hg
  clear hsl hbn hW hB hn
  go_enter Tryz.func13, Tryz.ntmps13
  go_wp2
  go_loopw [3, 4, 5] (fun ok i _ wr => ∃ k : Nat, k ≤ bs.n ∧ i = .int .i64 k ∧ ok = .bool true ∧ Below w.heap.size w wr) (fun _ i _ _ => bs.n - (intOf i).toNat)
  case atStart => exact ⟨0, by omega, by simp, by simp, Below.refl _ _⟩
  case round =>
    obtain ⟨k, hk, rfl, rfl, hb⟩ := hrel
    have hWr := HW.out.below HW.out.lt hb
    have c1 : wr.cell? ⟨wb, 1, none⟩ = some (.slice bs.a bs.n bs.cap) := hWr.cell 1 (by simp)
    by_cases hlt : k < bs.n
    · have hltI : (k : Int) < bs.n := by omega
      have hkl : k < rs.length := by have := HN.out; omega
      obtain ⟨b, o, ha, hbb, hrg⟩ := HRG.out k hkl
      have hrg' : wr.rangeAt b (o + k * 5) (bkC rs[k] k) := fun j v hv => by
        rw [hb.cell (p := ⟨b, o + k * 5 + j, none⟩) hbb]
        exact hrg j v hv
      have HST : Hid (Calls _ _ _ _ _) := still_any rs[k] k wr (((HB.out.ok k hkl).frame (Frame.of_below_all (S := fun _ => False) hb) (fun _ _ e => e))) (by have := HL.out; omega)
      have HRG' : Hid (wr.rangeAt b (o + k * 5) (bkC rs[k] k)) := hrg'
      have HSZ : Hid ((Tryz.prog.info? 60).map (·.size) = some (bkC rs[k] k).length) := Tryz.sizeBytes
      rw [ha] at c1
      clear hrg hrg' hWr
      go_wp2_with (first
        | (refine wpList_load_mid (by rfl) 60 (.tmp 24) (by rfl) b (o + k * 5) (by rfl) (bkC rs[k] k) _ HRG'.out Tryz.underlying60 (by rfl) HSZ.out ?_)
        | (go_at_call 24; refine HST.out.mono ?_; rintro e w2 ⟨rfl, hb2⟩))
      refine ⟨⟨k + 1, by omega, by go_num, by simp, hb.trans (hb2.mono hb.size)⟩, by simp [intOf]; omega⟩
    · have hltI : ¬ (k : Int) < bs.n := by omega
      have c2 : wr.cell? ⟨wb, 2, none⟩ = some (.slice none 0 0) := hWr.cell 2 (by simp)
      have c3 : wr.cell? ⟨wb, 3, none⟩ = some (.slice none 0 0) := hWr.cell 3 (by simp)
      clear hWr
      go_wp2
      go_loop [3, 6] (fun ok i => ok = .bool true ∧ i = .int .i64 0) (fun _ _ => 0)
      case atStart => exact ⟨rfl, rfl⟩
      case round =>
        obtain ⟨rfl, rfl⟩ := hrel
        go_wp2
        go_loop [3, 8] (fun ok i => ok = .bool true ∧ i = .int .i64 0) (fun _ _ => 0)
        case atStart => exact ⟨rfl, rfl⟩
        case round =>
          obtain ⟨rfl, rfl⟩ := hrel
          go_wp2
          go_ret
          exact ⟨rfl, hb⟩
end Go.Proofs.YtekegfbjbainhaaGreat

/- The document's Prove and ProveRange, all ways together; the law's world with its book. -/
namespace Go.Proofs.YtekegfbjbainhaaGreat
set_option linter.unusedVariables false
set_option linter.unusedSimpArgs false
open Go.RowKit

theorem past_get (pastL : List (SlR × List ItR)) (k : Nat) (hk : k < pastL.length) : pastAt (pastL.map (·.2)) (k : Int) = pastL[k].2 := by
  unfold pastAt
  simp [hk]
theorem ref_prove (rb : Nat) (now past roots : SlR) (nowL : List ItR) (pastL : List (SlR × List ItR)) (rootsL : List (List UInt8)) (e : Int) (sk : SlR) (key : List UInt8) (w : World) (h : RefAt w rb 0 now past roots nowL pastL rootsL) (hp : pastL.length ≤ 40) (hP : ∀ q ∈ pastL, PastR q.2) (hK : BS w sk key) (hkm : key.length ≤ maxLen) :
    Calls Tryz.prog 47 #[.pointer (some ⟨rb, 0, none⟩), .int .i64 e, sk.val] w fun r w' => ∃ v' : SlR, r = .returned (.tuple #[v'.val, .int .i64 (prvE (pastL.map (·.2)).length e key : Int)]) ∧ OwnB w' w.heap.size v'.val (prvB (pastL.map (·.2)) e key) ∧ Below w.heap.size w w' := by
  cases he : epochBad (pastL.map (·.2)).length e with
  | true =>
    have h4 : prvE (pastL.map (·.2)).length e key = 4 := by unfold prvE; rw [if_pos he]
    refine (refProve_epoch rb now past roots nowL pastL rootsL e sk.val w h hp (by simpa using he)).mono ?_
    rintro r w' ⟨rfl, hb⟩
    refine ⟨⟨none, 0, 0⟩, by rw [h4]; rfl, ?_, hb⟩
    unfold prvB; rw [h4]; exact World.ownsRow_nil _ _ _ _
  | false =>
    have he' : epochBad pastL.length e = false := by simpa using he
    obtain ⟨k, rfl, hk⟩ := epoch_in he'
    cases ha : keyOk key with
    | false =>
      have h4 : prvE (pastL.map (·.2)).length (k : Int) key = 1 := by unfold prvE; rw [if_neg (by rw [he]; decide), if_pos ha]
      refine (refProve_arg rb now past roots nowL pastL rootsL k sk key w h hp hk hK hkm ha).mono ?_
      rintro r w' ⟨rfl, hb⟩
      refine ⟨⟨none, 0, 0⟩, by rw [h4]; rfl, ?_, hb⟩
      unfold prvB; rw [h4]; exact World.ownsRow_nil _ _ _ _
    | true =>
      have h4 : prvE (pastL.map (·.2)).length (k : Int) key = 0 := by unfold prvE; rw [if_neg (by rw [he]; decide), if_neg (by rw [ha]; decide)]
      refine (refProve_ok rb now past roots nowL pastL rootsL k sk key w h hp hk (hP _ (List.getElem_mem hk)) hK ha).mono ?_
      rintro r w' ⟨a', n', c', rfl, ho, hb⟩
      refine ⟨⟨a', n', c'⟩, by rw [h4]; rfl, ?_, hb⟩
      unfold prvB; rw [h4, if_pos rfl, past_get pastL k hk]; exact ho
theorem ref_range (rb : Nat) (now past roots : SlR) (nowL : List ItR) (pastL : List (SlR × List ItR)) (rootsL : List (List UInt8)) (e : Int) (sf st : SlR) (fr tu : List UInt8) (w : World) (h : RefAt w rb 0 now past roots nowL pastL rootsL) (hp : pastL.length ≤ 40) (hP : ∀ q ∈ pastL, PastR q.2) (hF : BS w sf fr) (hT : BS w st tu) (hfm : fr.length ≤ maxLen) (htm : tu.length ≤ maxLen) :
    Calls Tryz.prog 49 #[.pointer (some ⟨rb, 0, none⟩), .int .i64 e, sf.val, st.val] w fun r w' => ∃ v' : SlR, r = .returned (.tuple #[v'.val, .int .i64 (rngE (pastL.map (·.2)).length e fr tu : Int)]) ∧ OwnB w' w.heap.size v'.val (rngB (pastL.map (·.2)) e fr tu) ∧ Below w.heap.size w w' := by
  cases he : epochBad (pastL.map (·.2)).length e with
  | true =>
    have h4 : rngE (pastL.map (·.2)).length e fr tu = 4 := by unfold rngE; rw [if_pos he]
    refine (refRangeP_epoch rb now past roots nowL pastL rootsL e sf.val st.val w h hp (by simpa using he)).mono ?_
    rintro r w' ⟨rfl, hb⟩
    refine ⟨⟨none, 0, 0⟩, by rw [h4]; rfl, ?_, hb⟩
    unfold rngB; rw [h4]; exact World.ownsRow_nil _ _ _ _
  | false =>
    have he' : epochBad pastL.length e = false := by simpa using he
    obtain ⟨k, rfl, hk⟩ := epoch_in he'
    cases ha : rngOk fr tu with
    | false =>
      have h4 : rngE (pastL.map (·.2)).length (k : Int) fr tu = 1 := by unfold rngE; rw [if_neg (by rw [he]; decide), if_pos ha]
      refine (refRangeP_arg rb now past roots nowL pastL rootsL k sf st fr tu w h hp hk hF hT hfm htm ha).mono ?_
      rintro r w' ⟨rfl, hb⟩
      refine ⟨⟨none, 0, 0⟩, by rw [h4]; rfl, ?_, hb⟩
      unfold rngB; rw [h4]; exact World.ownsRow_nil _ _ _ _
    | true =>
      have h4 : rngE (pastL.map (·.2)).length (k : Int) fr tu = 0 := by unfold rngE; rw [if_neg (by rw [he]; decide), if_neg (by rw [ha]; decide)]
      refine (refRangeP_ok rb now past roots nowL pastL rootsL k sf st fr tu w h hp hk (hP _ (List.getElem_mem hk)) hF hT ha).mono ?_
      rintro r w' ⟨a', n', c', rfl, ho, hb⟩
      refine ⟨⟨a', n', c'⟩, by rw [h4]; rfl, ?_, hb⟩
      unfold rngB; rw [h4, if_pos rfl, past_get pastL k hk]; exact ho
/-- How long a proof of a store's is. -/
theorem prf_small {p : List ItR} (h : PastR p) (fr tu : List UInt8) : (prfB p fr tu).length ≤ 100000000000000 := by
  have hL := grown_lv p h.1 h.2.1 h.2.2
  unfold prfB
  have e : rootPage p = pageAt (grownN p) (rootLevel p) 0 := by
    unfold rootPage pageAt rootLevel
    cases ((grownN p)[(grownN p).length - 1]?.getD []) <;> rfl
  rw [e]
  exact range_small hL fr tu _ (by have := hL.len; unfold rootLevel; omega) _ (pageAt_ok hL _ _).1 (pageAt_ok hL _ _).2.1
theorem pastAt_R {pp : List (List ItR)} (h : ∀ p ∈ pp, PastR p) (e : Int) : PastR (pastAt pp e) := by
  unfold pastAt
  rw [List.getD_eq_getElem?_getD]
  cases hx : pp[e.toNat]? with
  | none => exact ⟨List.Pairwise.nil, fun x hx => (by cases hx), by simp⟩
  | some p => exact h p (List.mem_of_getElem? hx)
theorem prvB_small {pp : List (List ItR)} (h : ∀ p ∈ pp, PastR p) (e : Int) (key : List UInt8) : (prvB pp e key).length ≤ 100000000000000 := by
  unfold prvB
  split
  · exact prf_small (pastAt_R h e) _ _
  · simp
theorem rngB_small {pp : List (List ItR)} (h : ∀ p ∈ pp, PastR p) (e : Int) (fr tu : List UInt8) : (rngB pp e fr tu).length ≤ 100000000000000 := by
  unfold rngB
  split
  · exact prf_small (pastAt_R h e) _ _
  · simp
theorem StoT.past {w : World} {sb : Nat} {mp : Option Nat} {es : List MEn} {T : List (List (List Nd))} {tds : List Nd} {pp : List (List ItR)} (h : StoT w sb mp es T tds pp) : ∀ p ∈ pp, PastR p := fun p hp => by
  obtain ⟨i, hi, rfl⟩ := List.getElem_of_mem hp
  have h1 : i < T.length := by rw [h.tl, ← h.pl]; exact hi
  have h2 : i < tds.length := by rw [← h.pl]; exact hi
  have := (h.rep i T[i] pp[i] tds[i] (List.getElem?_eq_getElem h1) (List.getElem?_eq_getElem hi) (List.getElem?_eq_getElem h2)).2.2
  exact ⟨this.rise, this.ok, this.len⟩

/-- The law's world with its book: the lists of bytes. -/
structure LawB (w : World) (wb : Nat) (ps : SlR) (ds : List PairD) (bs : SlR) (rs : List BkR) : Prop where
  law : LawAt (bs.val, .slice none 0 0, .slice none 0 0) w wb ps ds
  bk : BkAt w bs rs
  low : ∀ k, bookF bs rs k → wb < k ∧ ps.val.ownBlock ≠ some k ∧ ∀ d ∈ ds, ¬ d.F k
theorem LawB.frame {w W : World} {S : Nat → Prop} {wb : Nat} {ps bs : SlR} {ds : List PairD} {rs : List BkR} (h : LawB w wb ps ds bs rs) (hf : Frame S w W) (h1 : ¬ S wb) (h2 : ∀ k, ps.val.ownBlock = some k → ¬ S k) (h3 : ∀ d ∈ ds, ∀ k, d.F k → ¬ S k) (h4 : ∀ k, bookF bs rs k → ¬ S k) : LawB W wb ps ds bs rs :=
  ⟨h.law.frame hf h1 h2 h3, h.bk.frame hf h4, h.low⟩
theorem LawB.below {w W : World} {wb : Nat} {ps bs : SlR} {ds : List PairD} {rs : List BkR} (h : LawB w wb ps ds bs rs) (hb : Below w.heap.size w W) : LawB W wb ps ds bs rs := h.frame (Frame.of_below_all (S := fun _ => False) hb) (fun e => e) (fun _ _ e => e) (fun _ _ _ _ e => e) (fun _ _ e => e)
/-- One list more in the book. -/
theorem LawB.more {w W W' : World} {wb : Nat} {ps bs bs' v : SlR} {ds : List PairD} {rs : List BkR} {r : BkR} (h : LawB w wb ps ds bs rs) (hb : Below w.heap.size w W) (hv : ∀ k, v.val.ownBlock = some k → w.heap.size ≤ k) (hr : RowV W' wb 34 [ps.val, bs'.val, .slice none 0 0, .slice none 0 0]) (hbk : BkAt W' bs' (rs ++ [r]))
    (hf : Frame (fun k => k = wb ∨ v.val.ownBlock = some k ∨ bs.val.ownBlock = some k) W W') (hn : ∀ k, bookF bs' (rs ++ [r]) k → k < W.heap.size → bookF bs rs k ∨ v.val.ownBlock = some k) : LawB W' wb ps ds bs' (rs ++ [r]) := by
  have hW := h.law.below hb
  have hz := hb.size
  have hno : ∀ d ∈ ds, ∀ k, d.F k → ¬ (k = wb ∨ v.val.ownBlock = some k ∨ bs.val.ownBlock = some k) := fun d hd k hk e => by
    rcases e with e | e | e
    · have := (h.law.low d hd k hk).1; omega
    · have := hv k e; have := (h.law.ok d hd).lay.lt k hk; omega
    · exact (h.low k (Or.inl e)).2.2 d hd hk
  refine ⟨⟨hr, owns_frame hW.own hf (fun k hk e => ?_), fun d hd => (hW.ok d hd).frame hf (hno d hd), h.law.low, h.law.psb, h.law.apart⟩, hbk, fun k hk => ?_⟩
  · rcases e with e | e | e
    · have := h.law.psb k hk; omega
    · have := hv k e; have := (h.law.own.lt k hk).2; omega
    · exact (h.low k (Or.inl e)).2.1 hk
  · by_cases hlt : k < w.heap.size
    · rcases hn k hk (by omega) with e | e
      · exact h.low k e
      · have := hv k e; omega
    · refine ⟨by have := RowV.lt h.law.row; omega, fun e => by have := (h.law.own.lt k e).2; omega, fun d hd e => by have := (h.law.ok d hd).lay.lt k e; omega⟩
end Go.Proofs.YtekegfbjbainhaaGreat

/- A step of Prove, walked. -/
namespace Go.Proofs.YtekegfbjbainhaaGreat
set_option linter.unusedVariables false
set_option linter.unusedSimpArgs false
open Go.RowKit
attribute [local go_sem ↓] Go.wp_at_zero Go.wp_at_succ

theorem PairAt.pastR {w : World} {d : PairD} (h : PairAt w d) : ∀ p ∈ d.pp, PastR p := h.tre.past

set_option maxRecDepth 100000 in
set_option maxHeartbeats 4000000 in
theorem proved_key (cs : List Value) (ob oc : Int) (s : ByteArray) (wb : Nat) (ps bs : SlR) (ds : List PairD) (rs : List BkR) (d : PairD) (w : World) (h : LawB w wb ps ds bs rs) (hd : d ∈ ds) (k0 : cs[0]? = some (.int .i64 6)) (k2 : cs[2]? = some (.int .i64 ob)) (k3 : cs[3]? = some (.int .i64 oc)) (k4 : cs[4]? = some (.string s)) (hs : s.size ≤ 140737488351232) (hn : rs.length ≤ 1200000000000) :
    Calls Tryz.prog 22 #[.pointer (some ⟨wb, 0, none⟩), .agg cs.toArray, .pointer (some ⟨d.pb, 0, none⟩)] w fun e w' => e = .returned (.bool true) ∧ ∃ bs' r, LawB w' wb ps ds bs' (rs ++ [r]) ∧ Frame (fun k => k = wb ∨ bs.val.ownBlock = some k) w w' := by
  have hdk := h.law.ok d hd
  have HA : Hid (Below w.heap.size w (w.alloc (.cells cs.toArray 43))) := (Below.refl _ _).alloc (Nat.le_refl _) _
  have hsm : s.data.toList.length ≤ maxLen := by simp; unfold maxLen; omega
  have HSM : Hid (s.data.toList.length ≤ maxLen) := hsm
  have hpb : d.pb < w.heap.size := RowV.lt hdk.lay.row
  have hwb : wb < w.heap.size := RowV.lt h.law.row
  have HH : Hid (LawB w wb ps ds bs rs) := h
  have HDK : Hid (PairOk w d) := hdk
  clear hsm h hdk
  go_enter Tryz.func22, Tryz.ntmps22
  go_wp2_with fail
  refine (lent_ok s _ _ hs).mono ?_
  rintro e w1 ⟨a, cap, rfl, hl1, hb1, hz1⟩
  simp only [World.size_alloc] at hb1 hz1 hl1
  have HB1 : Hid (Below w.heap.size w w1) := HA.out.trans (hb1.mono (by omega))
  have z1 := hb1.size
  simp only [World.size_alloc] at z1
  have hb1d : Below w1.heap.size w1 w1.drew := ⟨rfl, rfl, rfl, Nat.le_refl _, fun _ _ => rfl⟩
  have HP1 := (HDK.out.lay.below HB1.out).below hb1d
  have r0 : w1.cell? ⟨d.pb, 0, none⟩ = some (.pointer (some ⟨d.sb, 0, none⟩)) := RowV.cell HP1.row 0 (by simp)
  have b2 : w1.cell? ⟨w.heap.size, 2, none⟩ = some (.int .i64 ob) := by
    rw [hb1.cell (p := ⟨w.heap.size, 2, none⟩) (by show w.heap.size < _; omega)]; simp [go_sem, k2]
  have b4 : w1.cell? ⟨w.heap.size, 4, none⟩ = some (.string s) := by
    rw [hb1.cell (p := ⟨w.heap.size, 4, none⟩) (by show w.heap.size < _; omega)]; simp [go_sem, k4]
  have HSD : Hid (Calls _ _ _ _ _) := sto_prove d.sb d.N d.en d.tr d.mp d.es d.xs d.its d.tds d.T d.pp ob ⟨a, s.size, cap⟩ s.data.toList w1.drew HP1.sto HP1.tre HDK.out.t40 (hl1.bs.below hb1d) HSM.out
  have HL1 : Hid (LentAt w1 (w.heap.size + 1) s a cap) := hl1
  have HZ1 : Hid (w.heap.size + 1 ≤ w1.heap.size ∧ w1.heap.size ≤ w.heap.size + 1 + 1) := ⟨by omega, by omega⟩
  have hpb1 : d.pb < w1.heap.size := by omega
  have hne1 : d.pb ≠ w.heap.size := by omega
  unfold SlR.val at HSD
  clear HP1 hl1 hb1 hz1 hb1d
  go_wp2
  go_region_held3 (fun W => W.cell? ⟨d.pb, 0, none⟩ = some (.pointer (some ⟨d.sb, 0, none⟩)) ∧ W.cell? ⟨w.heap.size, 2, none⟩ = some (.int .i64 ob)) (go_keep)
    ((go_at_call 46; refine HSD.out.mono ?_; rintro r w2 ⟨v2, rfl, ho2, hb2⟩; have q0 : w2.cell? ⟨d.pb, 0, none⟩ = some (.pointer (some ⟨d.sb, 0, none⟩)) := (by rw [hb2.cell (p := ⟨d.pb, 0, none⟩) (by show d.pb < w1.heap.size; omega)]; exact r0); have q2 : w2.cell? ⟨w.heap.size, 2, none⟩ = some (.int .i64 ob) := (by rw [hb2.cell (p := ⟨w.heap.size, 2, none⟩) (by show w.heap.size < w1.heap.size; have := HZ1.out; omega)]; exact b2)))
  have hb2' : Below w1.heap.size w1 w2 := ⟨hb2.os, hb2.tape, hb2.output, hb2.size, hb2.block⟩
  have hl2 : LentAt w2 (w.heap.size + 1) s a cap := HL1.out.below hb2' (Nat.le_refl _)
  have HB2 : Hid (Below w.heap.size w w2) := HB1.out.trans (hb2'.mono HB1.out.size)
  have b4' : w2.cell? ⟨w.heap.size, 4, none⟩ = some (.string s) := by
    rw [hb2'.cell (p := ⟨w.heap.size, 4, none⟩) (by show w.heap.size < w1.heap.size; have := HZ1.out; omega)]; exact b4
  have HO2 : Hid (OwnB w2 w1.heap.size v2.val (prvB d.pp ob s.data.toList)) := ho2
  have hz2 := hb2'.size
  clear ho2 hb2
  go_wp2_with fail
  refine (back_ok s a cap (w.heap.size + 1) _ hs hl2).mono ?_
  rintro e w3 ⟨rfl, hf3, hz3⟩
  have hltk := fun k (hk : a = some ⟨k, 0, none⟩) => hl2.lt hk
  have hlk : ∀ k, a = some ⟨k, 0, none⟩ → k = w.heap.size + 1 ∧ w.heap.size + 1 < w1.heap.size := fun k hk => ⟨(hltk k hk).1, (HL1.out.lt hk).2⟩
  have HB3 : Hid (Below w.heap.size w w3) := HB2.out.trans (hf3.below HB2.out.size (fun k hk => by have := hlk k hk; omega))
  have HO3 : Hid (OwnB w3 w1.heap.size v2.val (prvB d.pp ob s.data.toList)) := owns_frame HO2.out hf3 (fun k hk e => by have h1 := (HO2.out.lt k hk).1; have h2 := hlk k e; omega)
  have HP3 := HDK.out.lay.below HB3.out
  have b2'' : w3.cell? ⟨w.heap.size, 2, none⟩ = some (.int .i64 ob) := by
    rw [← q2]
    exact World.cell?_of_block (hf3.block _ (by show w.heap.size < _; omega) (fun e => by have := hlk _ e; simp only at this; omega))
  have b4'' : w3.cell? ⟨w.heap.size, 4, none⟩ = some (.string s) := by
    rw [← b4']
    exact World.cell?_of_block (hf3.block _ (by show w.heap.size < _; omega) (fun e => by have := hlk _ e; simp only at this; omega))
  have r1 : w3.cell? ⟨d.pb, 1, none⟩ = some (.pointer (some ⟨d.rb, 0, none⟩)) := RowV.cell HP3.row 1 (by simp)
  have hcv := fun w => run_bytes_of_string (P := Tryz.prog) w 9 38 5 s Tryz.underlying9 Tryz.underlying38 Tryz.underlying5
  have HREF : Hid (∀ (W : World) (a' : Option Addr) (n' cap' : Nat), Below w3.heap.size w3 W → BS W ⟨a', n', cap'⟩ s.data.toList → Calls Tryz.prog 47 #[.pointer (some ⟨d.rb, 0, none⟩), .int .i64 ob, .slice a' n' cap'] W fun r w' => ∃ v' : SlR, r = .returned (.tuple #[.slice v'.a v'.n v'.cap, .int .i64 (prvE d.pp.length ob s.data.toList : Int)]) ∧ OwnB w' W.heap.size v'.val (prvB d.pp ob s.data.toList) ∧ Below W.heap.size W w') := fun W a' n' cap' hb hbs => by
    have hr := ref_prove d.rb d.now d.past d.roots d.nl d.pastL d.rl ob ⟨a', n', cap'⟩ s.data.toList W (HP3.below hb).ref (by rw [HDK.out.pl]; exact HDK.out.t40) (fun q hq => HP3.pastR _ (by rw [← HDK.out.pst]; exact List.mem_map_of_mem hq)) hbs HSM.out
    rw [HDK.out.pst] at hr
    exact hr
  have hz3' : w.heap.size < w3.heap.size := by omega
  have hpb3 : d.pb < w3.heap.size := by omega
  have HZ3 : Hid (w1.heap.size ≤ w3.heap.size) := by unfold Hid; omega
  clear HP3 hf3 hltk hlk hl2 hb2' q0 q2 b4' b2 b4 r0 hz2 hz3
  go_wp2
  go_cut [11, 12] (fun bv fv wx => ∃ v4 : SlR, bv = .slice v4.a v4.n v4.cap ∧ fv = .int .i64 (prvE d.pp.length ob s.data.toList : Int) ∧ Hid (Below w3.heap.size w3 wx) ∧ Hid (OwnB wx w3.heap.size v4.val (prvB d.pp ob s.data.toList)))
  case first =>
    go_region_held_law (fun W => W.cell? ⟨d.pb, 1, none⟩ = some (.pointer (some ⟨d.rb, 0, none⟩)) ∧ W.cell? ⟨w.heap.size, 2, none⟩ = some (.int .i64 ob) ∧ W.cell? ⟨w.heap.size, 4, none⟩ = some (.string s)) (go_keep)
      ((go_at_call 47; refine (HREF.out _ _ _ _ (by repeat' (first | (with_reducible exact Below.refl _ _) | (with_reducible refine Below.drew ?_) | (with_reducible refine Below.alloc ?_ ?_ _) | omega | (simp only [World.size_alloc, World.size_drew]; omega))) (by repeat' (first | (with_reducible exact BS.ofString _ _ _ _ _) | (with_reducible refine BS.drew ?_))) ).mono ?_; rintro r w4 ⟨v4, rfl, ho4, hb4⟩; have HB4 : Hid (Below w3.heap.size w3 w4) := Below.trans (by repeat' (first | (with_reducible exact Below.refl _ _) | (with_reducible refine Below.drew ?_) | (with_reducible refine Below.alloc ?_ ?_ _) | omega | (simp only [World.size_alloc, World.size_drew]; omega))) (Below.mono hb4 (by simp)); have HO4 : Hid (OwnB w4 w3.heap.size v4.val (prvB d.pp ob s.data.toList)) := owns_base ho4 (fun k hk => (by have h1 := (ho4.lt k hk).1; simp at h1; omega)); clear ho4 hb4; have e1 : w4.cell? ⟨d.pb, 1, none⟩ = some (.pointer (some ⟨d.rb, 0, none⟩)) := (by rw [HB4.out.cell (p := ⟨d.pb, 1, none⟩) (by show d.pb < w3.heap.size; omega)]; exact r1); have e2 : w4.cell? ⟨w.heap.size, 2, none⟩ = some (.int .i64 ob) := (by rw [HB4.out.cell (p := ⟨w.heap.size, 2, none⟩) (by show w.heap.size < w3.heap.size; omega)]; exact b2''); have e4 : w4.cell? ⟨w.heap.size, 4, none⟩ = some (.string s) := (by rw [HB4.out.cell (p := ⟨w.heap.size, 4, none⟩) (by show w.heap.size < w3.heap.size; omega)]; exact b4'')))
    all_goals
      go_wp2
      go_meet
      exact ⟨v4, rfl, rfl, HB4, HO4⟩
  case rest =>
    obtain ⟨v4, rfl, rfl, HB4, HO4⟩ := hcut
    have hb4 := HB4.out
    have ho2c : OwnB wc w1.heap.size (.slice v2.a v2.n v2.cap) (prvB d.pp ob s.data.toList) := owns_below HO3.out hb4
    have ho4c : OwnB wc w3.heap.size (.slice v4.a v4.n v4.cap) (prvB d.pp ob s.data.toList) := HO4.out
    obtain ⟨hs2, hn2, hnil2⟩ := OwnB.sl ho2c
    obtain ⟨hs4, hn4, hnil4⟩ := OwnB.sl ho4c
    have hc2 := run_string_SlB (P := Tryz.prog) wc 38 9 5 v2.a v2.n v2.cap _ Tryz.underlying38 Tryz.underlying5 Tryz.underlying9 hn2 hs2 hnil2
    have hc4 := run_string_SlB (P := Tryz.prog) wc 38 9 5 v4.a v4.n v4.cap _ Tryz.underlying38 Tryz.underlying5 Tryz.underlying9 hn4 hs4 hnil4
    have HBC : Hid (Below w.heap.size w wc) := HB3.out.trans (hb4.mono HB3.out.size)
    have hHc := HH.out.below HBC.out
    have hz1 := HZ1.out
    have HV2 : Hid (∀ k, v2.val.ownBlock = some k → w.heap.size ≤ k) := fun k hk => by have := (ho2c.lt k hk).1; omega
    have hlen := prvB_small (HDK.out.lay.pastR) ob s.data.toList
    have HBB : Hid (Calls _ _ _ _ _) := book_byte wb ps bs ⟨none, 0, 0⟩ ⟨none, 0, 0⟩ v2 rs (prvB d.pp ob s.data.toList) w1.heap.size wc hHc.law.row hHc.bk ho2c hlen hn (Nat.le_trans HZ3.out hb4.size)
      (fun k hk => ⟨by have := HV2.out k hk; omega, fun e => by have := HV2.out k hk; have := HH.out.bk.lt k e; omega⟩) (fun k hk => by have := (HH.out.low k hk).1; omega)
    generalize prvB d.pp ob s.data.toList = pv at *
    generalize prvE d.pp.length ob s.data.toList = pe at *
    clear hs2 hn2 hnil2 hs4 hn4 hnil4 ho2c ho4c hHc hlen hb4 HO3 HO4 HO2 HREF hcv hz1
    unfold SlR.val at HBB
    go_wp2_with (go_at_call 18; refine HBB.out.mono ?_; rintro e w5 ⟨rfl, bs', r, hr5, hk5, hf5, hn5⟩)
    go_ret
    refine ⟨rfl, bs', r, LawB.more (v := v2) HH.out HBC.out HV2.out hr5 hk5 hf5 hn5, ?_⟩
    exact Frame.inside (Frame.of_below_all HBC.out) hf5 (fun k hlt hk => by
      rcases hk with e | e | e
      · exact Or.inl e
      · have := HV2.out k e; omega
      · exact Or.inr e)
end Go.Proofs.YtekegfbjbainhaaGreat
