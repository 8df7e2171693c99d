import Derived.Test.YtekegfbjbainhaaGreatKJoin21
import Derived.Test.YtekegfbjbainhaaGreatKJoin30
import Derived.Test.YtekegfbjbainhaaGreatKJoin28
import Derived.Test.YtekegfbjbainhaaGreatKRefC6
import Derived.Deep.RegionHeld3
import Derived.Deep.RegionHeldLaw
import Derived.Deep.DeepCutAuto
set_option linter.unusedVariables false
set_option linter.unusedSimpArgs false

namespace Go.Proofs.YtekegfbjbainhaaGreat
open Go.RowKit
structure BookD where
 bs : SlR
 dg : SlR
 es : SlR
 rs : List BkR
 gs : List BkR
 hs : List EBk
def BookD.F (B : BookD) (k : Nat) : Prop := bookF B.bs B.rs k ∨ bookF B.dg B.gs k ∨ bookE B.es B.hs k
def BookD.V (B : BookD) : BkV := (B.bs.val, B.dg.val, B.es.val)
structure LawK (w : World) (wb : Nat) (ps : SlR) (ds : List PairD) (B : BookD) : Prop where
 law : LawAt B.V w wb ps ds
 bk : BkAt w B.bs B.rs
 bd : BdAt w B.dg B.gs
 be : BeAt w B.es B.hs
 low : ∀ k, B.F k → wb < k ∧ ps.val.ownBlock ≠ some k ∧ ∀ d ∈ ds, ¬ d.F k
 ap1 : ∀ k, bookF B.bs B.rs k → ¬ bookF B.dg B.gs k
 ap2 : ∀ k, bookE B.es B.hs k → ¬ bookF B.bs B.rs k ∧ ¬ bookF B.dg B.gs k
theorem LawK.row {w : World} {wb : Nat} {ps : SlR} {ds : List PairD} {B : BookD} (h : LawK w wb ps ds B) : RowV w wb 34 [ps.val, B.bs.val, B.dg.val, B.es.val] := h.law.row
theorem LawK.frame {w W : World} {S : Nat → Prop} {wb : Nat} {ps : SlR} {ds : List PairD} {B : BookD} (h : LawK w wb ps ds B) (hf : Frame S w W) (h1 : ¬ S wb) (h2 : ∀ k, ps.val.ownBlock = some k → ¬ S k) (h3 : ∀ d ∈ ds, ∀ k, d.F k → ¬ S k) (h4 : ∀ k, B.F k → ¬ S k) : LawK W wb ps ds B :=
 ⟨h.law.frame hf h1 h2 h3, h.bk.frame hf (fun k hk => h4 k (Or.inl hk)), h.bd.frame hf (fun k hk => h4 k (Or.inr (Or.inl hk))), h.be.frame hf (fun k hk => h4 k (Or.inr (Or.inr hk))), h.low, h.ap1, h.ap2⟩
theorem LawK.below {w W : World} {wb : Nat} {ps : SlR} {ds : List PairD} {B : BookD} (h : LawK w wb ps ds B) (hb : Below w.heap.size w W) : LawK W wb ps ds B := h.frame (Frame.of_below_all (S := fun _ => False) hb) (fun e => e) (fun _ _ e => e) (fun _ _ _ _ e => e) (fun _ _ e => e)
theorem LawK.lt {w : World} {wb : Nat} {ps : SlR} {ds : List PairD} {B : BookD} (h : LawK w wb ps ds B) : ∀ k, B.F k → k < w.heap.size := fun k hk => by
 rcases hk with hk | hk | hk
 ·exact h.bk.lt k hk
 ·exact h.bd.lt k hk
 ·exact h.be.lt k hk
theorem LawK.start {w : World} {wb : Nat} {ps : SlR} {ds : List PairD} (h : LawAt (.slice none 0 0, .slice none 0 0, .slice none 0 0) w wb ps ds) : LawK w wb ps ds ⟨⟨none, 0, 0⟩, ⟨none, 0, 0⟩, ⟨none, 0, 0⟩, [], [], []⟩ := by
 have hn1 : ∀ k, ¬ bookF ⟨none, 0, 0⟩ [] k := fun k hk => by
  rcases hk with hk | ⟨r, hr, _⟩
  ·cases hk
  ·cases hr
 have hn2 : ∀ k, ¬ bookE ⟨none, 0, 0⟩ [] k := fun k hk => by
  rcases hk with hk | ⟨r, hr, _⟩
  ·cases hk
  ·cases hr
 refine ⟨h, BkAt.nil _, BdAt.nil _, BeAt.nil _, fun k hk => ?_, fun k hk => absurd hk (hn1 k), fun k hk => absurd hk (hn2 k)⟩
 rcases hk with hk | hk | hk
 ·exact absurd hk (hn1 k)
 ·exact absurd hk (hn1 k)
 ·exact absurd hk (hn2 k)
theorem LawK.turn {w W W' : World} {S : Nat → Prop} {wb : Nat} {ps : SlR} {ds : List PairD} {B B' : BookD} (h : LawK w wb ps ds B) (hb : Below w.heap.size w W) (hf : Frame S W W') (hS : ∀ k, S k → k = wb ∨ B.F k ∨ w.heap.size ≤ k)
  (hr : RowV W' wb 34 [ps.val, B'.bs.val, B'.dg.val, B'.es.val]) (h1 : BkAt W' B'.bs B'.rs) (h2 : BdAt W' B'.dg B'.gs) (h3 : BeAt W' B'.es B'.hs) (hn : ∀ k, B'.F k → k < w.heap.size → B.F k) (a1 : ∀ k, bookF B'.bs B'.rs k → ¬ bookF B'.dg B'.gs k) (a2 : ∀ k, bookE B'.es B'.hs k → ¬ bookF B'.bs B'.rs k ∧ ¬ bookF B'.dg B'.gs k) :
  LawK W' wb ps ds B' := by
 have hW := h.law.below hb
 have hz := hb.size
 have hno : ∀ d ∈ ds, ∀ k, d.F k → ¬ S k := fun d hd k hk e => by
  rcases hS k e with e | e | e
  ·have := (h.law.low d hd k hk).1; omega
  ·exact (h.low k e).2.2 d hd hk
  ·have := (h.law.ok d hd).lay.lt k hk; omega
 refine ⟨⟨hr, owns_frame hW.own hf (fun k hk e => ?_), fun d hd => (hW.ok d hd).frame hf (hno d hd), h.law.low, h.law.psb, h.law.apart⟩, h1, h2, h3, fun k hk => ?_, a1, a2⟩
 ·rcases hS k e with e | e | e
  ·have := h.law.psb k hk; omega
  ·exact (h.low k e).2.1 hk
  ·have := (h.law.own.lt k hk).2; omega
 ·by_cases hlt : k < w.heap.size
  ·exact h.low k (hn k hk hlt)
  ·refine ⟨by have := RowV.lt h.law.row; omega, fun e => by have := (h.law.own.lt k e).2; omega, fun d hd e => by have := (h.law.ok d hd).lay.lt k e; omega⟩
def BookD.addB (B : BookD) (bs' : SlR) (r : BkR) : BookD := { B with bs := bs', rs := B.rs ++ [r] }
theorem LawK.moreB {w W W' : World} {wb : Nat} {ps bs' v : SlR} {ds : List PairD} {B : BookD} {r : BkR} (h : LawK w wb ps ds B) (hb : Below w.heap.size w W) (hv : ∀ k, v.val.ownBlock = some k → w.heap.size ≤ k) (hr : RowV W' wb 34 [ps.val, bs'.val, B.dg.val, B.es.val]) (hbk : BkAt W' bs' (B.rs ++ [r]))
  (hf : Frame (fun k => k = wb ∨ v.val.ownBlock = some k ∨ B.bs.val.ownBlock = some k) W W') (hn : ∀ k, bookF bs' (B.rs ++ [r]) k → k < W.heap.size → bookF B.bs B.rs k ∨ v.val.ownBlock = some k) : LawK W' wb ps ds (B.addB bs' r) := by
 have hz := hb.size
 have hW := h.below hb
 have hn' : ∀ k, bookF bs' (B.rs ++ [r]) k → k < w.heap.size → bookF B.bs B.rs k := fun k hk hlt => by
  rcases hn k hk (by omega) with e | e
  ·exact e
  ·have := hv k e; omega
 refine h.turn (B' := B.addB bs' r) hb hf (fun k e => ?_) hr hbk (hW.bd.frame hf (fun k hk e => ?_)) (hW.be.frame hf (fun k hk e => ?_)) (fun k hk hlt => ?_) (fun k hk hg => ?_) (fun k hk => ⟨fun hg => ?_, (h.ap2 k hk).2⟩)
 ·rcases e with e | e | e
  ·exact Or.inl e
  ·exact Or.inr (Or.inr (hv k e))
  ·exact Or.inr (Or.inl (Or.inl (Or.inl e)))
 ·have hl := h.low k (Or.inr (Or.inl hk))
  have := h.bd.lt k hk
  rcases e with e | e | e
  ·omega
  ·have := hv k e; omega
  ·exact h.ap1 k (Or.inl e) hk
 ·have hl := h.low k (Or.inr (Or.inr hk))
  have := h.be.lt k hk
  rcases e with e | e | e
  ·omega
  ·have := hv k e; omega
  ·exact (h.ap2 k hk).1 (Or.inl e)
 ·rcases hk with hk | hk
  ·exact Or.inl (hn' k hk hlt)
  ·exact Or.inr hk
 ·exact h.ap1 k (hn' k hk (h.bd.lt k hg)) hg
 ·exact (h.ap2 k hk).1 (hn' k hg (h.be.lt k hk))
theorem LawK.moreE {w W W' : World} {wb n : Nat} {ps v : SlR} {ds : List PairD} {B : BookD} {fl : List SlR} {e : Ending} (h : LawK w wb ps ds B) (hb : Below w.heap.size w W) (hv : ∀ k, v.val.ownBlock = some k → w.heap.size ≤ k) (hfl : ∀ x ∈ fl, ∀ k, x.val.ownBlock = some k → w.heap.size ≤ k) (hp : entPost W wb ps B.dg B.bs B.es v B.rs B.hs fl n e W') :
  ∃ B' : BookD, LawK W' wb ps ds B' ∧ B'.rs.length = B.rs.length + n * 2 ∧ B'.gs = B.gs ∧ B'.hs.length = B.hs.length + 1 ∧ Frame (fun k => k = wb ∨ B.F k) w W' := by
 obtain ⟨_, bs2, rs2, es2, x, q1, q2, q3, q4, q5, q6, q7, q8⟩ := hp
 have hz := hb.size
 have hW := h.below hb
 have hS : ∀ k, (k = wb ∨ bookF B.bs B.rs k ∨ B.es.val.ownBlock = some k ∨ (∃ x ∈ fl, x.val.ownBlock = some k) ∨ v.val.ownBlock = some k) → k = wb ∨ B.F k ∨ w.heap.size ≤ k := fun k e => by
  rcases e with e | e | e | ⟨x, hx, e⟩ | e
  ·exact Or.inl e
  ·exact Or.inr (Or.inl (Or.inl e))
  ·exact Or.inr (Or.inl (Or.inr (Or.inr (Or.inl e))))
  ·exact Or.inr (Or.inr (hfl x hx k e))
  ·exact Or.inr (Or.inr (hv k e))
 have hold : ∀ k, bookF bs2 rs2 k ∨ bookE es2 (B.hs ++ [x]) k → k < w.heap.size → bookF B.bs B.rs k ∨ bookE B.es B.hs k := fun k hk hlt => by
  rcases q6 k hk (by omega) with g | g | ⟨y, hy, g⟩ | g
  ·exact Or.inl g
  ·exact Or.inr g
  ·have := hfl y hy k g; omega
  ·have := hv k g; omega
 have hdg : ∀ k, bookF bs2 rs2 k ∨ bookE es2 (B.hs ++ [x]) k → ¬ bookF B.dg B.gs k := fun k hk hg => by
  rcases hold k hk (h.bd.lt k hg) with g | g
  ·exact h.ap1 k g hg
  ·exact (h.ap2 k g).2 hg
 refine ⟨⟨bs2, B.dg, es2, rs2, B.gs, B.hs ++ [x]⟩, h.turn hb q5 hS q1 q2 (hW.bd.frame q5 (fun k hk e => ?_)) q4 (fun k hk hlt => ?_) (fun k hk => hdg k (Or.inl hk)) (fun k hk => ⟨(q7 k hk).1, hdg k (Or.inr hk)⟩), q3, rfl, by simp, ?_⟩
 ·have hl := h.low k (Or.inr (Or.inl hk))
  have hlt := h.bd.lt k hk
  rcases e with e | e | e | ⟨y, hy, e⟩ | e
  ·omega
  ·exact h.ap1 k e hk
  ·exact (h.ap2 k (Or.inl e)).2 hk
  ·have := hfl y hy k e; omega
  ·have := hv k e; omega
 ·rcases hk with hk | hk | hk
  ·rcases hold k (Or.inl hk) hlt with g | g
   ·exact Or.inl g
   ·exact Or.inr (Or.inr g)
  ·exact Or.inr (Or.inl hk)
  ·rcases hold k (Or.inr hk) hlt with g | g
   ·exact Or.inl g
   ·exact Or.inr (Or.inr g)
 ·refine Frame.inside (Frame.of_below_all hb) q5 (fun k hlt hk => ?_)
  rcases hS k hk with e | e | e
  ·exact Or.inl e
  ·exact Or.inr e
  ·omega
theorem LawK.new {w w' : World} {wb : Nat} {ps ps' : SlR} {ds : List PairD} {B : BookD} {d : PairD} (h : LawK w wb ps ds B) (h' : LawAt B.V w' wb ps' (ds ++ [d])) (hd : ∀ k, d.F k → w.heap.size ≤ k) (hp : ∀ k, ps'.val.ownBlock = some k → ps.val.ownBlock = some k ∨ w.heap.size ≤ k)
  (hf : Frame (fun k => k = wb ∨ ps.val.ownBlock = some k) w w') : LawK w' wb ps' (ds ++ [d]) B := by
 have hno : ∀ k, B.F k → ¬ (k = wb ∨ ps.val.ownBlock = some k) := fun k hk e => by
  have hl := h.low k hk
  rcases e with e | e
  ·omega
  ·exact hl.2.1 e
 refine ⟨h', h.bk.frame hf (fun k hk => hno k (Or.inl hk)), h.bd.frame hf (fun k hk => hno k (Or.inr (Or.inl hk))), h.be.frame hf (fun k hk => hno k (Or.inr (Or.inr hk))), fun k hk => ?_, h.ap1, h.ap2⟩
 have hl := h.low k hk
 have hlt := h.lt k hk
 refine ⟨hl.1, fun e => ?_, fun x hx hF => ?_⟩
 ·rcases hp k e with e | e
  ·exact hl.2.1 e
  ·omega
 ·rcases List.mem_append.1 hx with hx | hx
  ·exact hl.2.2 x hx hF
  ·simp only [List.mem_singleton] at hx
   subst hx
   have := hd k hF
   omega
theorem LawK.step {w w' : World} {wb : Nat} {ps : SlR} {ds : List PairD} {B : BookD} (h : LawK w wb ps ds B) {i : Nat} {d : PairD} (hi : ds[i]? = some d) (hs : Stepped d w w') : ∃ ds', LawK w' wb ps ds' B ∧ ds'.length = ds.length := by
 obtain ⟨ds', h1, h2, h3⟩ := h.law.step hi hs
 obtain ⟨_, _, _, hf, _⟩ := hs
 have hd : d ∈ ds := List.mem_of_getElem? hi
 have hno : ∀ k, B.F k → ¬ d.F k := fun k hk e => (h.low k hk).2.2 d hd e
 refine ⟨ds', ⟨h1, h.bk.frame hf (fun k hk => hno k (Or.inl hk)), h.bd.frame hf (fun k hk => hno k (Or.inr (Or.inl hk))), h.be.frame hf (fun k hk => hno k (Or.inr (Or.inr hk))), fun k hk => ?_, h.ap1, h.ap2⟩, h2⟩
 have hl := h.low k hk
 have hlt := h.lt k hk
 refine ⟨hl.1, hl.2.1, fun x hx hF => ?_⟩
 rcases h3 x hx k hF with ⟨y, hy, hF'⟩ | hge
 ·exact hl.2.2 y hy hF'
 ·omega
end Go.Proofs.YtekegfbjbainhaaGreat


namespace Go.Proofs.YtekegfbjbainhaaGreat
open Go.RowKit
attribute [local go_sem ↓] Go.wp_at_zero Go.wp_at_succ
def BookD.Grew (B B' : BookD) (z : Nat) : Prop := ∀ k, B'.F k → k < z → B.F k
theorem chkR_small (root key proof : List UInt8) : ((chkR root key proof).2.getD []).length ≤ 12 := by
 unfold chkR
 split
 ·rcases rrd_key root key proof with ⟨h, _⟩ | ⟨es, _, _, _, h12, h⟩
  ·rw [h]; simp
  ·rw [h]
   simp only
   cases hf : es.find? (fun x => x.key == key) with
   | none => simp
   | some x => simpa using h12 x (List.mem_of_find?_eq_some hf)
 ·simp
set_option maxRecDepth 100000 in
set_option maxHeartbeats 4000000 in
theorem world_check (root : List UInt8) (s t : ByteArray) (wb : Nat) (ps : SlR) (ds : List PairD) (B : BookD) (w : World) (h : LawK w wb ps ds B) (hr : root.length = 8) (hs : s.size ≤ 140737488351232) (ht : t.size ≤ 1000000000) (hn : B.rs.length ≤ 1200000000000) :
  Calls Tryz.prog 11 #[.pointer (some ⟨wb, 0, none⟩), dV root, .string s, .string t] w fun e w' => e = .returned (.bool true) ∧ ∃ bs' r, LawK w' wb ps ds (B.addB bs' r) ∧ B.Grew (B.addB bs' r) w.heap.size ∧ Frame (fun k => k = wb ∨ B.F k) w w' := by
 obtain ⟨x0, x1, x2, x3, x4, x5, x6, x7, rfl⟩ := list8 root hr
 have ht' : t.size ≤ 140737488351232 := by omega
 have HCP : Hid (∀ (W : World) (sk sp : SlR), BS W sk s.data.toList → BS W sp t.data.toList → sp.n ≤ sp.cap → Calls Tryz.prog 15 #[dV [x0, x1, x2, x3, x4, x5, x6, x7], sk.val, sp.val] W (chkPP W (chkR [x0, x1, x2, x3, x4, x5, x6, x7] s.data.toList t.data.toList))) := fun W sk sp h1 h2 h3 => checkP_any sk sp _ _ _ W rfl h1 h2 h3 (by simp; unfold maxLen; omega) (by simpa using ht)
 have HCR : Hid (∀ (W : World) (sk sp : SlR), BS W sk s.data.toList → BS W sp t.data.toList → sp.n ≤ sp.cap → Calls Tryz.prog 17 #[dV [x0, x1, x2, x3, x4, x5, x6, x7], sk.val, sp.val] W (chkPost W (chkR [x0, x1, x2, x3, x4, x5, x6, x7] s.data.toList t.data.toList))) := fun W sk sp h1 h2 h3 => checkR_any sk sp _ _ _ W rfl h1 h2 h3 (by simp; unfold maxLen; omega)
 have HLQ : Hid (((chkR [x0, x1, x2, x3, x4, x5, x6, x7] s.data.toList t.data.toList).2.getD []).length ≤ 12) := chkR_small _ _ _
 generalize chkR [x0, x1, x2, x3, x4, x5, x6, x7] s.data.toList t.data.toList = q at *
 have HR0 : Hid (RowV (w.alloc (.cells #[.int .u8 (x0.toNat : Int), .int .u8 (x1.toNat : Int), .int .u8 (x2.toNat : Int), .int .u8 (x3.toNat : Int), .int .u8 (x4.toNat : Int), .int .u8 (x5.toNat : Int), .int .u8 (x6.toNat : Int), .int .u8 (x7.toNat : Int)] 36)) w.heap.size 36 [.int .u8 (x0.toNat : Int), .int .u8 (x1.toNat : Int), .int .u8 (x2.toNat : Int), .int .u8 (x3.toNat : Int), .int .u8 (x4.toNat : Int), .int .u8 (x5.toNat : Int), .int .u8 (x6.toNat : Int), .int .u8 (x7.toNat : Int)]) := RowV.new w _ _
 have HA : Hid (Below w.heap.size w (w.alloc (.cells #[.int .u8 (x0.toNat : Int), .int .u8 (x1.toNat : Int), .int .u8 (x2.toNat : Int), .int .u8 (x3.toNat : Int), .int .u8 (x4.toNat : Int), .int .u8 (x5.toNat : Int), .int .u8 (x6.toNat : Int), .int .u8 (x7.toNat : Int)] 36))) := (Below.refl _ _).alloc (Nat.le_refl _) _
 have HH : Hid (LawK w wb ps ds B) := h
 have HN : Hid (B.rs.length ≤ 1200000000000) := hn
 have hwb : wb < w.heap.size := RowV.lt h.law.row
 have hsI : (s.size : Int) ≤ 140737488351232 := by omega
 have htI : (t.size : Int) ≤ 1000000000 := by omega
 clear h hn hr
 unfold dV at HCP HCR ⊢
 unfold u8c at HCP HCR ⊢
 simp only [List.map_cons, List.map_nil] at HCP HCR ⊢
 generalize (x0.toNat : Int) = y0 at *
 generalize (x1.toNat : Int) = y1 at *
 generalize (x2.toNat : Int) = y2 at *
 generalize (x3.toNat : Int) = y3 at *
 generalize (x4.toNat : Int) = y4 at *
 generalize (x5.toNat : Int) = y5 at *
 generalize (x6.toNat : Int) = y6 at *
 generalize (x7.toNat : Int) = y7 at *
 go_enter Tryz.func11, Tryz.ntmps11
 go_wp2_with fail
 refine (lent_ok s _ _ hs).mono ?_
 rintro e w0 ⟨a, cap, rfl, hl0, hb0, hz0⟩
 have HR1 : Hid (RowV w0 w.heap.size 36 _) := RowV.below HR0.out (RowV.lt HR0.out) hb0
 simp only [World.size_alloc] at hb0 hz0 hl0
 have z0 := hb0.size
 simp only [World.size_alloc] at z0
 have HB0 : Hid (Below w.heap.size w w0) := HA.out.trans (hb0.mono (by omega))
 clear hb0
 go_wp2_with fail
 refine (lent_ok t _ _ ht').mono ?_
 rintro e w1 ⟨ta, tcap, rfl, hm1, hb1, hz1⟩
 have z1 := hb1.size
 have hl1 : LentAt w1 (w.heap.size + 1) s a cap := hl0.below hb1 (Nat.le_refl _)
 have HR2 : Hid (RowV w1 w.heap.size 36 _) := RowV.below HR1.out (RowV.lt HR1.out) hb1
 have HB1 : Hid (Below w.heap.size w w1) := HB0.out.trans (hb1.mono (by omega))
 have hcap : t.size ≤ tcap := by
  rcases hm1 with ⟨_, rfl, e⟩ | ⟨_, rfl, _⟩
  ·rw [e]; exact Nat.le_refl _
  ·omega
 have HC := HCP.out w1 ⟨a, s.size, cap⟩ ⟨ta, t.size, tcap⟩ hl1.bs hm1.bs hcap
 unfold SlR.val at HC
 have e0 : w1.cell? ⟨w.heap.size, 0, none⟩ = some (.int .u8 y0) := RowV.cell HR2.out 0 (by simp)
 have e1 : w1.cell? ⟨w.heap.size, 1, none⟩ = some (.int .u8 y1) := RowV.cell HR2.out 1 (by simp)
 have e2 : w1.cell? ⟨w.heap.size, 2, none⟩ = some (.int .u8 y2) := RowV.cell HR2.out 2 (by simp)
 have e3 : w1.cell? ⟨w.heap.size, 3, none⟩ = some (.int .u8 y3) := RowV.cell HR2.out 3 (by simp)
 have e4 : w1.cell? ⟨w.heap.size, 4, none⟩ = some (.int .u8 y4) := RowV.cell HR2.out 4 (by simp)
 have e5 : w1.cell? ⟨w.heap.size, 5, none⟩ = some (.int .u8 y5) := RowV.cell HR2.out 5 (by simp)
 have e6 : w1.cell? ⟨w.heap.size, 6, none⟩ = some (.int .u8 y6) := RowV.cell HR2.out 6 (by simp)
 have e7 : w1.cell? ⟨w.heap.size, 7, none⟩ = some (.int .u8 y7) := RowV.cell HR2.out 7 (by simp)
 have HC : Hid (Calls _ _ _ _ _) := HC
 have HL1 : Hid (LentAt w1 (w.heap.size + 1) s a cap) := hl1
 have HM1 : Hid (LentAt w1 w0.heap.size t ta tcap) := hm1
 have HZ1 : Hid (w.heap.size + 1 ≤ w0.heap.size ∧ w0.heap.size ≤ w1.heap.size) := ⟨by omega, by omega⟩
 have HLT0 : Hid (∀ k, a = some ⟨k, 0, none⟩ → k = w.heap.size + 1 ∧ k < w0.heap.size) := fun k hk => ⟨(hl0.lt hk).1, by have := hl0.lt hk; omega⟩
 have HLT1 : Hid (∀ k, ta = some ⟨k, 0, none⟩ → k = w0.heap.size ∧ k < w1.heap.size) := fun k hk => ⟨(hm1.lt hk).1, by have := hm1.lt hk; omega⟩
 clear hl1 hm1 hl0 hz0 hb1 hz1 hcap z0 z1 HCP HR0 HR1 HA
 go_wp2_with fail
 refine HC.out.mono ?_
 rintro e w2 ⟨v, rfl, hb2, ho2⟩
 unfold SlR.val
 have hb2w : Below w1.heap.size w1 (w2.alloc (.cells #[.bool q.2.isSome, .slice v.a v.n v.cap] 49)) := hb2.alloc hb2.size _
 have hl2 := HL1.out.below hb2w (Nat.le_refl _)
 have hm2 := HM1.out.below hb2w (Nat.le_refl _)
 have HR3 : Hid (RowV (w2.alloc (.cells #[.bool q.2.isSome, .slice v.a v.n v.cap] 49)) w.heap.size 36 _) := RowV.below HR2.out (RowV.lt HR2.out) hb2w
 have HAN : Hid (RowV (w2.alloc (.cells #[.bool q.2.isSome, .slice v.a v.n v.cap] 49)) w2.heap.size 49 [.bool q.2.isSome, .slice v.a v.n v.cap]) := RowV.new w2 _ _
 have HO2 : Hid (OwnB (w2.alloc (.cells #[.bool q.2.isSome, .slice v.a v.n v.cap] 49)) w1.heap.size (.slice v.a v.n v.cap) (q.2.getD [])) := owns_below ho2 ((Below.refl w2.heap.size _).alloc (Nat.le_refl _) _)
 have HB2 : Hid (Below w.heap.size w (w2.alloc (.cells #[.bool q.2.isSome, .slice v.a v.n v.cap] 49))) := HB1.out.trans (hb2w.mono HB1.out.size)
 have HZ2 : Hid (w1.heap.size ≤ w2.heap.size) := hb2.size
 clear hb2w hb2 ho2 e0 e1 e2 e3 e4 e5 e6 e7 HL1 HM1 HC HR2
 go_wp2_with fail
 refine (back_ok s a cap (w.heap.size + 1) _ hs hl2).mono ?_
 rintro e w3 ⟨rfl, hf3, hz3⟩
 simp only [World.size_alloc] at hz3
 have hza := HZ1.out
 have hzb := HZ2.out
 have HB3 : Hid (Below w.heap.size w w3) := HB2.out.trans (hf3.below HB2.out.size (fun k hk => by have := HLT0.out k hk; omega))
 have HO3 : Hid (OwnB w3 w1.heap.size (.slice v.a v.n v.cap) (q.2.getD [])) := owns_frame HO2.out hf3 (fun k hk e => by have h1 := (HO2.out.lt k hk).1; have h2 := HLT0.out k e; omega)
 have hm3 := hm2.frame hf3 (fun e => by have := HLT0.out _ e; omega)
 have HR4 : Hid (RowV w3 w.heap.size 36 _) := RowV.of_block HR3.out (hf3.block _ (RowV.lt HR3.out) (fun e => by have := HLT0.out _ e; omega))
 have HAN3 : Hid (RowV w3 w2.heap.size 49 _) := RowV.of_block HAN.out (hf3.block _ (RowV.lt HAN.out) (fun e => by have := HLT0.out _ e; omega))
 clear hf3 hl2 hm2 HO2 HR3 HAN HB2
 go_wp2_with fail
 refine (back_ok t ta tcap w0.heap.size _ ht' hm3).mono ?_
 rintro e w4 ⟨rfl, hf4, hz4⟩
 have HB4 : Hid (Below w.heap.size w w4) := HB3.out.trans (hf4.below HB3.out.size (fun k hk => by have := HLT1.out k hk; omega))
 have HO4 : Hid (OwnB w4 w1.heap.size (.slice v.a v.n v.cap) (q.2.getD [])) := owns_frame HO3.out hf4 (fun k hk e => by have h1 := (HO3.out.lt k hk).1; have h2 := HLT1.out k e; omega)
 have HR5 : Hid (RowV w4 w.heap.size 36 _) := RowV.of_block HR4.out (hf4.block _ (RowV.lt HR4.out) (fun e => by have := HLT1.out _ e; omega))
 have HAN4 : Hid (RowV w4 w2.heap.size 49 _) := RowV.of_block HAN3.out (hf4.block _ (RowV.lt HAN3.out) (fun e => by have := HLT1.out _ e; omega))
 have HZ4 : Hid (w4.heap.size = w2.heap.size + 1) := by unfold Hid; omega
 clear hf4 hm3 HO3 HR4 HAN3 HB3 hza hzb hz3 hz4
 have e0 : w4.cell? ⟨w.heap.size, 0, none⟩ = some (.int .u8 y0) := RowV.cell HR5.out 0 (by simp)
 have e1 : w4.cell? ⟨w.heap.size, 1, none⟩ = some (.int .u8 y1) := RowV.cell HR5.out 1 (by simp)
 have e2 : w4.cell? ⟨w.heap.size, 2, none⟩ = some (.int .u8 y2) := RowV.cell HR5.out 2 (by simp)
 have e3 : w4.cell? ⟨w.heap.size, 3, none⟩ = some (.int .u8 y3) := RowV.cell HR5.out 3 (by simp)
 have e4 : w4.cell? ⟨w.heap.size, 4, none⟩ = some (.int .u8 y4) := RowV.cell HR5.out 4 (by simp)
 have e5 : w4.cell? ⟨w.heap.size, 5, none⟩ = some (.int .u8 y5) := RowV.cell HR5.out 5 (by simp)
 have e6 : w4.cell? ⟨w.heap.size, 6, none⟩ = some (.int .u8 y6) := RowV.cell HR5.out 6 (by simp)
 have e7 : w4.cell? ⟨w.heap.size, 7, none⟩ = some (.int .u8 y7) := RowV.cell HR5.out 7 (by simp)
 have hcv := fun w => run_bytes_of_string (P := Tryz.prog) w 9 38 5 s Tryz.underlying9 Tryz.underlying38 Tryz.underlying5
 have hcu := fun w => run_bytes_of_string (P := Tryz.prog) w 9 38 5 t Tryz.underlying9 Tryz.underlying38 Tryz.underlying5
 have hwl : w.heap.size < w4.heap.size := RowV.lt HR5.out
 have HREF : Hid (∀ (W : World) (a' : Option Addr) (n' cap' : Nat) (a'' : Option Addr) (n'' cap'' : Nat), Below w4.heap.size w4 W → BS W ⟨a', n', cap'⟩ s.data.toList → BS W ⟨a'', n'', cap''⟩ t.data.toList → n'' ≤ cap'' → Calls Tryz.prog 17 #[.agg #[.int .u8 y0, .int .u8 y1, .int .u8 y2, .int .u8 y3, .int .u8 y4, .int .u8 y5, .int .u8 y6, .int .u8 y7], .slice a' n' cap', .slice a'' n'' cap''] W fun e w' => ∃ v' : SlR, e = .returned (.tuple #[.agg #[.bool q.2.isSome, .slice v'.a v'.n v'.cap], .int .i64 (q.1 : Int)]) ∧ Below w4.heap.size w4 w' ∧ BS w' v' (q.2.getD [])) := fun W a' n' cap' a'' n'' cap'' hb h1 h2 h3 => (HCR.out W ⟨a', n', cap'⟩ ⟨a'', n'', cap''⟩ h1 h2 h3).mono (by
  rintro e w' ⟨v', rfl, hb', hv'⟩
  exact ⟨v', rfl, hb.trans (hb'.mono hb.size), hv'⟩)
 go_wp2_with fail
 refine (HREF.out _ _ _ _ _ _ _ (by repeat' (first | (with_reducible exact Below.refl _ _) | (with_reducible refine Below.drew ?_) | (with_reducible refine Below.alloc ?_ ?_ _) | omega | (simp only [World.size_alloc, World.size_drew]; omega))) (by repeat' (first | (with_reducible refine bs_ofString _ _ _ _ _ _ ?_; simp) | (with_reducible refine BS.drew ?_) | (with_reducible refine bs_alloc ?_ _))) (by repeat' (first | (with_reducible refine bs_ofString _ _ _ _ _ _ ?_; simp) | (with_reducible refine BS.drew ?_) | (with_reducible refine bs_alloc ?_ _))) (grownCap_ge _ _ _ _)).mono ?_
 rintro e w5 ⟨v5, rfl, hb5, hv5⟩
 have hb5w : Below w4.heap.size w4 (w5.alloc (.cells #[.bool q.2.isSome, .slice v5.a v5.n v5.cap] 49)) := hb5.alloc hb5.size _
 have HAN5 := RowV.below HAN4.out (RowV.lt HAN4.out) hb5w
 have c0 : (w5.alloc (.cells #[.bool q.2.isSome, .slice v5.a v5.n v5.cap] 49)).cell? ⟨w2.heap.size, 0, none⟩ = some (.bool q.2.isSome) := RowV.cell HAN5 0 (by simp)
 have c1 : (w5.alloc (.cells #[.bool q.2.isSome, .slice v5.a v5.n v5.cap] 49)).cell? ⟨w2.heap.size, 1, none⟩ = some (.slice v.a v.n v.cap) := RowV.cell HAN5 1 (by simp)
 have ho5 : OwnB (w5.alloc (.cells #[.bool q.2.isSome, .slice v5.a v5.n v5.cap] 49)) w1.heap.size (.slice v.a v.n v.cap) (q.2.getD []) := owns_below HO4.out hb5w
 have hv5' : BS (w5.alloc (.cells #[.bool q.2.isSome, .slice v5.a v5.n v5.cap] 49)) v5 (q.2.getD []) := bs_alloc hv5 _
 obtain ⟨hs2, hn2, hnil2⟩ := OwnB.sl ho5
 have hc2 := run_string_SlB (P := Tryz.prog) (w5.alloc (.cells #[.bool q.2.isSome, .slice v5.a v5.n v5.cap] 49)) 38 9 5 v.a v.n v.cap _ Tryz.underlying38 Tryz.underlying5 Tryz.underlying9 hn2 hs2 hnil2
 have hc5 := run_string_SlB (P := Tryz.prog) (w5.alloc (.cells #[.bool q.2.isSome, .slice v5.a v5.n v5.cap] 49)) 38 9 5 v5.a v5.n v5.cap _ Tryz.underlying38 Tryz.underlying5 Tryz.underlying9 hv5'.n hv5'.sl hv5'.nil
 have HBC : Hid (Below w.heap.size w (w5.alloc (.cells #[.bool q.2.isSome, .slice v5.a v5.n v5.cap] 49))) := HB4.out.trans (hb5w.mono HB4.out.size)
 have HV : Hid (∀ k, (Value.slice v.a v.n v.cap).ownBlock = some k → w.heap.size ≤ k) := fun k hk => by have h1 := (ho5.lt k hk).1; have := HZ1.out; omega
 have hlen : (q.2.getD []).length ≤ 100000000000000 := Nat.le_trans HLQ.out (by omega)
 have hz15 : w1.heap.size ≤ (w5.alloc (.cells #[.bool q.2.isSome, .slice v5.a v5.n v5.cap] 49)).heap.size := by
  have h1 := hb5w.size
  have h2 := HZ4.out
  have h3 := HZ2.out
  omega
 have HBB : Hid (∀ W, Below (w5.alloc (.cells #[.bool q.2.isSome, .slice v5.a v5.n v5.cap] 49)).heap.size (w5.alloc (.cells #[.bool q.2.isSome, .slice v5.a v5.n v5.cap] 49)) W → Calls Tryz.prog 18 #[.pointer (some ⟨wb, 1, none⟩), .slice v.a v.n v.cap] W fun e w' => e = .returned (.tuple #[]) ∧ (∃ bs' r, LawK w' wb ps ds (B.addB bs' r) ∧ B.Grew (B.addB bs' r) w.heap.size ∧ Frame (fun k => k = wb ∨ B.F k) w w') ∧ w'.cell? ⟨w2.heap.size, 1, none⟩ = some (.slice v.a v.n v.cap)) := fun W hb => by
  have hbW := HBC.out.trans (hb.mono HBC.out.size)
  have hHc := HH.out.below hbW
  refine (book_byte wb ps B.bs B.dg B.es v B.rs (q.2.getD []) w1.heap.size W hHc.row hHc.bk (owns_below ho5 hb) hlen HN.out (Nat.le_trans hz15 hb.size) (fun k hk => ⟨by have := HV.out k hk; omega, fun e => by have := HV.out k hk; have := HH.out.bk.lt k e; omega⟩) (fun k hk => by have := (HH.out.low k (Or.inl hk)).1; omega)).mono ?_
  rintro e w' ⟨rfl, bs', r, g1, g2, g3, g4⟩
  have hanW := RowV.below HAN5 (RowV.lt HAN5) hb
  have hz2 := HB1.out.size
  have hz3 := HZ2.out
  have hgr : B.Grew (B.addB bs' r) w.heap.size := fun k hk hlt => by
   rcases hk with hk | hk
   ·rcases g4 k hk (Nat.lt_of_lt_of_le hlt hbW.size) with e | e
    ·exact Or.inl e
    ·have := HV.out k e; omega
   ·exact Or.inr hk
  refine ⟨rfl, ⟨bs', r, LawK.moreB (v := v) HH.out hbW HV.out g1 g2 g3 g4, hgr, ?_⟩, RowV.cell (RowV.of_block hanW (g3.block _ (RowV.lt hanW) (fun e => by
   rcases e with e | e | e
   ·omega
   ·exact owns_ne (owns_below ho5 hb) hanW (by decide) e
   ·have := (HH.out.bk.own.lt _ e).2; omega))) 1 (by simp)⟩
  exact Frame.inside (Frame.of_below_all hbW) g3 (fun k hlt hk => by
   rcases hk with e | e | e
   ·exact Or.inl e
   ·have := HV.out k e; omega
   ·exact Or.inr (Or.inl (Or.inl e)))
 clear hs2 hn2 hnil2 ho5 hv5' hv5 hlen hb5w HAN5 HREF hcv hcu HCR HO4 hb5 hz15 e0 e1 e2 e3 e4 e5 e6 e7 HR5 HAN4
 generalize q.2.getD [] = L at *
 generalize q.2.isSome = fnd at *
 go_wp2_with fail
 go_region_held3 (fun W => W.cell? ⟨w2.heap.size, 1, none⟩ = some (.slice v.a v.n v.cap)) (go_keep)
  ((go_at_call 18; refine (HBB.out _ (by repeat' (first | (with_reducible exact Below.refl _ _) | (with_reducible refine Below.drew ?_)))).mono ?_; rintro e w6 ⟨rfl, ⟨bs', r, g1, gg, g2⟩, g3⟩))
 all_goals
  have G1 : Hid _ := g1
  have GG : Hid _ := gg
  clear g1 gg
  go_wp2
  go_ret
  exact ⟨rfl, bs', r, G1.out, GG.out, g2⟩
end Go.Proofs.YtekegfbjbainhaaGreat
