import Derived.Test.YtekegfbjbainhaaKPr15
set_option linter.unusedVariables false
set_option linter.unusedSimpArgs false

namespace Go.Proofs.Ytekegfbjbainhaa
open Go.RowKit
theorem bt_inj {a b : Nat} (h : bt a = bt b) (ha : a < 256) (hb : b < 256) : a = b := by
 have := congrArg UInt8.toNat h
 unfold bt at this
 rw [UInt8.toNat_ofNat_of_lt' ha, UInt8.toNat_ofNat_of_lt' hb] at this
 exact this
theorem itB_inj {level : Nat} {x y : ItR} {r r' : List UInt8} (hx : ItOk x) (hy : ItOk y) (h8 : level ≠ 0 → x.more.length = 8 ∧ y.more.length = 8) (h : itB level x ++ r = itB level y ++ r') : x.key = y.key ∧ x.more = y.more ∧ r = r' := by
 unfold itB at h
 simp only [List.cons_append, List.append_assoc, List.cons.injEq] at h
 obtain ⟨h1, h2⟩ := h
 have hkl := bt_inj h1 (by have := hx.1; omega) (by have := hy.1; omega)
 obtain ⟨h3, h4⟩ := List.append_inj h2 hkl
 refine ⟨h3, ?_⟩
 by_cases h0 : level = 0
 ·simp only [h0, if_true, List.cons_append, List.nil_append, List.cons.injEq] at h4
  have hml := bt_inj h4.1 (by have := hx.2; omega) (by have := hy.2; omega)
  exact List.append_inj h4.2 hml
 ·simp only [h0, if_false, List.nil_append] at h4
  exact List.append_inj h4 (by rw [(h8 h0).1, (h8 h0).2])
theorem flat_inj {level : Nat} : ∀ {l m : List ItR}, l.length = m.length → (∀ x ∈ l, ItOk x) → (∀ x ∈ m, ItOk x) → (level ≠ 0 → ∀ x ∈ l, x.more.length = 8) → (level ≠ 0 → ∀ x ∈ m, x.more.length = 8) → (∀ x ∈ l, x.below = 0) → (∀ x ∈ m, x.below = 0) → l.flatMap (itB level) = m.flatMap (itB level) → l = m
 | [], [], _, _, _, _, _, _, _, _ => rfl
 | [], _ :: _, h, _, _, _, _, _, _, _ => by simp at h
 | _ :: _, [], h, _, _, _, _, _, _, _ => by simp at h
 | x :: l, y :: m, h, hx, hy, h8, h8', hb, hb', he => by
  rw [List.flatMap_cons, List.flatMap_cons] at he
  obtain ⟨h1, h2, h3⟩ := itB_inj (hx x (by simp)) (hy y (by simp)) (fun h0 => ⟨h8 h0 x (by simp), h8' h0 y (by simp)⟩) he
  have ih := flat_inj (by simpa using h) (fun z hz => hx z (by simp [hz])) (fun z hz => hy z (by simp [hz])) (fun h0 z hz => h8 h0 z (by simp [hz])) (fun h0 z hz => h8' h0 z (by simp [hz])) (fun z hz => hb z (by simp [hz])) (fun z hz => hb' z (by simp [hz])) h3
  have hxy : x = y := by
   obtain ⟨k, mo, be⟩ := x
   obtain ⟨k', mo', be'⟩ := y
   have e1 : be = 0 := hb ⟨k, mo, be⟩ (List.mem_cons_self ..)
   have e2 : be' = 0 := hb' ⟨k', mo', be'⟩ (List.mem_cons_self ..)
   simp only at h1 h2
   rw [h1, h2, e1, e2]
  rw [hxy, ih]
theorem code_inj {level level' : Nat} {l m : List ItR} (hl : PgL level l) (hm : PgL level' m) (h : codeB level l = codeB level' m) : level = level' ∧ l = m := by
 unfold codeB at h
 simp only [List.cons.injEq] at h
 obtain ⟨h1, h2, h3⟩ := h
 have e1 := bt_inj h1 (by have := hl.lv; omega) (by have := hm.lv; omega)
 have e2 := bt_inj h2 (by have := hl.len; omega) (by have := hm.len; omega)
 subst e1
 exact ⟨rfl, flat_inj e2 hl.ok hm.ok hl.more8 hm.more8 hl.norm hm.norm h3⟩
theorem KnownAt.below {w W : World} {sb N : Nat} {mp : Option Nat} {es : List MEn} (K : KnownAt w sb mp es N) (hb : Below w.heap.size w W) : KnownAt W sb mp es N := by
 refine ⟨?_, K.d8, fun e he => owns_below (K.own e he) hb, fun e he x hx => (K.nodes e he x hx).below hb, K.apart, K.foot, K.msb, K.cnt, K.kd⟩
 have h := K.map
 cases mp with
 | none => exact h
 | some m =>
  obtain ⟨arr, clock, hh, h1, h2, h3⟩ := h
  exact ⟨arr, clock, by rw [hb.block m (Array.getElem?_eq_some_iff.1 hh).1]; exact hh, h1, h2, h3⟩
theorem KnownAt.more {w : World} {sb N N' : Nat} {mp : Option Nat} {es : List MEn} (K : KnownAt w sb mp es N) (h : N ≤ N') : KnownAt w sb mp es N' :=
 ⟨K.map, K.d8, K.own, K.nodes, K.apart, K.foot, K.msb, fun e he => Nat.le_trans (K.cnt e he) h, K.kd⟩
theorem KMut.lt {w : World} {sb N : Nat} {mp : Option Nat} {es : List MEn} (K : KnownAt w sb mp es N) (hsb : sb < w.heap.size) : ∀ k, KMut sb mp es k → k < w.heap.size := fun k hk => by
 rcases hk with rfl | h | ⟨e, he, h⟩
 ·exact hsb
 ·subst h
  obtain ⟨arr, clock, hh, _⟩ := K.map
  exact (Array.getElem?_eq_some_iff.1 hh).1
 ·exact ((K.own e he).lt k h).2
end Go.Proofs.Ytekegfbjbainhaa


namespace Go.Proofs.Ytekegfbjbainhaa
open Go.RowKit
structure PageIn (w : World) (sb : Nat) (mp : Option Nat) (es : List MEn) (level : Nat) (a : Option Addr) (n : Nat) (xs : List EnP) (its : List ItR) (bs : SlR) (bl : List Nat) : Prop where
 sl : SlE w a xs
 n : n = xs.length
 len : its.length = xs.length
 en : ∀ i (h1 : i < xs.length) (h2 : i < its.length), EnL w level xs[i] its[i]
 pg : PgL level its
 be : SlV w bs.a (bl.map ptrV)
 ben : bs.n = bl.length
 benil : bs.a = none → bs.cap = 0
 bel : bl.length ≤ 200
 brow : ∀ b ∈ bl, ∃ cs, RowV w b 117 cs
 kf : ∀ x ∈ xs, ∀ y, x.k.a = some y → ¬ KMut sb mp es y.block
 bf : ∀ b ∈ bl, ¬ KMut sb mp es b
theorem PageIn.below {w W : World} {sb : Nat} {mp : Option Nat} {es : List MEn} {level : Nat} {a : Option Addr} {n : Nat} {xs : List EnP} {its : List ItR} {bs : SlR} {bl : List Nat} (h : PageIn w sb mp es level a n xs its bs bl) (hb : Below w.heap.size w W) : PageIn W sb mp es level a n xs its bs bl :=
 ⟨SlV.below_all h.sl hb, h.n, h.len, fun i h1 h2 => (h.en i h1 h2).below hb, h.pg, h.be.below_all hb, h.ben, h.benil, h.bel, fun b hbm => by
  obtain ⟨cs, hr⟩ := h.brow b hbm
  exact ⟨cs, hr.below hr.lt hb⟩, h.kf, h.bf⟩
def NodeOut (w : World) (sb N : Nat) (en tr : SlR) (mp : Option Nat) (es : List MEn) (level : Nat) (xs : List EnP) (its : List ItR) (bl : List Nat) (nd : Nd) (w' : World) : Prop :=
 ∃ mp' es', StoRow w' sb en mp' tr ∧ KnownAt w' sb mp' es' (N + 1) ∧ NdOk w' nd ∧ nd.level = level ∧ nd.its = its ∧ nd.bl = bl ∧ (∀ k, ndF nd k → ¬ KMut sb mp' es' k) ∧ (∀ k, KMut sb mp' es' k → k < w.heap.size → KMut sb mp es k) ∧ Frame (KMut sb mp es) w w' ∧ (∀ e ∈ es', ∀ x ∈ e.ns, x = nd ∨ ∃ e0 ∈ es, x ∈ e0.ns) ∧ (∀ k, ndF nd k → k < w.heap.size → (∃ e0 ∈ es, nd ∈ e0.ns) ∨ (∃ x ∈ xs, ∃ y, x.k.a = some y ∧ y.block = k) ∨ k ∈ bl)
set_option maxRecDepth 100000 in
set_option maxHeartbeats 4000000 in
theorem node_any (sb N : Nat) (en tr : SlR) (mp : Option Nat) (es : List MEn) (level : Nat) (a : Option Addr) (n cap : Nat) (xs : List EnP) (its : List ItR) (bs : SlR) (bl : List Nat) (w : World) (hR : StoRow w sb en mp tr) (K : KnownAt w sb mp es N) (hN : N ≤ 1000000) (hp : PageIn w sb mp es level a n xs its bs bl) :
  Calls Try.prog 89 #[.pointer (some ⟨sb, 1, none⟩), .agg #[.int .i64 (level : Int), .slice a n cap], bs.val] w fun e w' => ∃ nd, e = .returned (.pointer (some ⟨nd.b, 0, none⟩)) ∧ NodeOut w sb N en tr mp es level xs its bl nd w' := by
 have hsb := hR.lt
 have hlen : xs.length ≤ 200 := by have := hp.pg.len; have := hp.len; omega
 have hB1 : Below w.heap.size w (w.alloc (.cells #[.int .i64 (level : Int), .slice a n cap] 128)) := (Below.refl _ _).alloc (Nat.le_refl _) _
 have hp1 := hp.below hB1
 have HBY : Hid (Calls _ _ _ _ _) := bytes_any level a n cap xs its _ hp.n hp.len hlen (by have := hp.pg.lv; omega) hp.pg.ok hp1.sl hp1.en
 have hPr : RowV (w.alloc (.cells #[.int .i64 (level : Int), .slice a n cap] 128)) w.heap.size 128 [.int .i64 (level : Int), .slice a n cap] := RowV.new w _ _
 obtain ⟨dd, hdd⟩ : ∃ dd, dd = digB (codeB level its) := ⟨_, rfl⟩
 have hd8 : dd.length = 8 := by rw [hdd]; rfl
 obtain ⟨x0, x1, x2, x3, x4, x5, x6, x7, rfl⟩ := list8 dd hd8
 have HDV : Hid (digV (codeB level its) = .agg #[.int .u8 (x0.toNat : Int), .int .u8 (x1.toNat : Int), .int .u8 (x2.toNat : Int), .int .u8 (x3.toNat : Int), .int .u8 (x4.toNat : Int), .int .u8 (x5.toNat : Int), .int .u8 (x6.toNat : Int), .int .u8 (x7.toNat : Int)]) := by
  unfold Hid; rw [digV_eq, ← hdd]; rfl
 have HDD : Hid ([x0, x1, x2, x3, x4, x5, x6, x7] = digB (codeB level its)) := hdd
 have HCL : Hid ((codeB level its).length ≤ maxLen) := by
  have := prefB_length level its.length its hp.pg.ok
  unfold prefB at this
  have h2 := hp.pg.len
  unfold Hid maxLen codeB
  omega
 clear hdd hd8
 unfold SlR.val
 go_enter Try.func89, Try.ntmps89
 go_wp2_with fail
 refine HBY.out.mono ?_
 rintro e w2 ⟨v, rfl, ho2, hB2⟩
 obtain ⟨hs2, hn2, hnil2⟩ := OwnB.sl (a := v.a) (n := v.n) (cap := v.cap) ho2
 have hbs2 : BS w2 v (codeB level its) := ⟨hs2, hn2, hnil2, fun x hx => (ho2.lt x.block (by show (Value.slice v.a v.n v.cap).ownBlock = _; rw [hx]; rfl)).2⟩
 have hvf : ∀ x, v.a = some x → w.heap.size ≤ x.block := fun x hx => by
  have := (ho2.lt x.block (by show (Value.slice v.a v.n v.cap).ownBlock = _; rw [hx]; rfl)).1
  simp at this; omega
 have hBw2 : Below w.heap.size w w2 := hB1.trans (hB2.mono hB1.size)
 have HN2 : Hid (v.n = (codeB level its).length) := hn2
 clear hn2
 unfold SlR.val
 go_wp2_with fail
 refine (ofB_any v.a v.n v.cap (codeB level its) w2 HN2.out HCL.out hs2).mono ?_
 rintro e w3 ⟨rfl, hB3⟩
 rw [HDV.out]
 have hBw3 : Below w.heap.size w w3 := hBw2.trans (hB3.mono hBw2.size)
 have hPr3 : RowV w3 w.heap.size 128 [.int .i64 (level : Int), .slice a n cap] := (hPr.below hPr.lt hB2).below (hPr.below hPr.lt hB2).lt hB3
 -- the digest in its box
 have hB4 : Below w.heap.size w (w3.alloc (.cells #[.int .u8 (x0.toNat : Int), .int .u8 (x1.toNat : Int), .int .u8 (x2.toNat : Int), .int .u8 (x3.toNat : Int), .int .u8 (x4.toNat : Int), .int .u8 (x5.toNat : Int), .int .u8 (x6.toNat : Int), .int .u8 (x7.toNat : Int)] 45)) := hBw3.alloc hBw3.size _
 have hdr : RowV (w3.alloc (.cells #[.int .u8 (x0.toNat : Int), .int .u8 (x1.toNat : Int), .int .u8 (x2.toNat : Int), .int .u8 (x3.toNat : Int), .int .u8 (x4.toNat : Int), .int .u8 (x5.toNat : Int), .int .u8 (x6.toNat : Int), .int .u8 (x7.toNat : Int)] 45)) w3.heap.size 45 [.int .u8 (x0.toNat : Int), .int .u8 (x1.toNat : Int), .int .u8 (x2.toNat : Int), .int .u8 (x3.toNat : Int), .int .u8 (x4.toNat : Int), .int .u8 (x5.toNat : Int), .int .u8 (x6.toNat : Int), .int .u8 (x7.toNat : Int)] := RowV.new w3 _ _
 have hPr4 : RowV (w3.alloc (.cells #[.int .u8 (x0.toNat : Int), .int .u8 (x1.toNat : Int), .int .u8 (x2.toNat : Int), .int .u8 (x3.toNat : Int), .int .u8 (x4.toNat : Int), .int .u8 (x5.toNat : Int), .int .u8 (x6.toNat : Int), .int .u8 (x7.toNat : Int)] 45)) w.heap.size 128 [.int .i64 (level : Int), .slice a n cap] := hPr3.alloc _
 have hbs4 : BS (w3.alloc (.cells #[.int .u8 (x0.toNat : Int), .int .u8 (x1.toNat : Int), .int .u8 (x2.toNat : Int), .int .u8 (x3.toNat : Int), .int .u8 (x4.toNat : Int), .int .u8 (x5.toNat : Int), .int .u8 (x6.toNat : Int), .int .u8 (x7.toNat : Int)] 45)) v (codeB level its) := (hbs2.below hB3).below ((Below.refl _ _).alloc (Nat.le_refl _) _)
 go_wp2
 generalize w3.alloc (.cells #[.int .u8 (x0.toNat : Int), .int .u8 (x1.toNat : Int), .int .u8 (x2.toNat : Int), .int .u8 (x3.toNat : Int), .int .u8 (x4.toNat : Int), .int .u8 (x5.toNat : Int), .int .u8 (x6.toNat : Int), .int .u8 (x7.toNat : Int)] 45) = w4 at *
 clear HBY hbs2 hs2 hnil2 hPr3 hPr hB2 hB3 hBw2 hBw3 hB1 hp1 ho2 HDV
 have K4 := K.below hB4
 have hR4 : StoRow w4 sb en mp tr := hR.below hsb hB4
 have hp4 := hp.below hB4
 have c1 : w4.cell? ⟨sb, 1, none⟩ = some (.map mp) := hR4.cell 1 (by simp)
 have q0 : w4.cell? ⟨w3.heap.size, 0, none⟩ = some (.int .u8 (x0.toNat : Int)) := hdr.cell 0 (by simp)
 have q1 : w4.cell? ⟨w3.heap.size, 1, none⟩ = some (.int .u8 (x1.toNat : Int)) := hdr.cell 1 (by simp)
 have q2 : w4.cell? ⟨w3.heap.size, 2, none⟩ = some (.int .u8 (x2.toNat : Int)) := hdr.cell 2 (by simp)
 have q3 : w4.cell? ⟨w3.heap.size, 3, none⟩ = some (.int .u8 (x3.toNat : Int)) := hdr.cell 3 (by simp)
 have q4 : w4.cell? ⟨w3.heap.size, 4, none⟩ = some (.int .u8 (x4.toNat : Int)) := hdr.cell 4 (by simp)
 have q5 : w4.cell? ⟨w3.heap.size, 5, none⟩ = some (.int .u8 (x5.toNat : Int)) := hdr.cell 5 (by simp)
 have q6 : w4.cell? ⟨w3.heap.size, 6, none⟩ = some (.int .u8 (x6.toNat : Int)) := hdr.cell 6 (by simp)
 have q7 : w4.cell? ⟨w3.heap.size, 7, none⟩ = some (.int .u8 (x7.toNat : Int)) := hdr.cell 7 (by simp)
 obtain ⟨ls, ns, hlk, hls, hlsn, hnsN, hns⟩ := lookup_dig K4 [x0, x1, x2, x3, x4, x5, x6, x7] rfl
 have hlk2 : ∀ q, (Instr.lookup 84 (.map mp) (.agg #[.int .u8 (x0.toNat : Int), .int .u8 (x1.toNat : Int), .int .u8 (x2.toNat : Int), .int .u8 (x3.toNat : Int), .int .u8 (x4.toNat : Int), .int .u8 (x5.toNat : Int), .int .u8 (x6.toNat : Int), .int .u8 (x7.toNat : Int)]) false).run Try.prog (w4.drewN q) = .ok (.slice ls.a ls.n ls.cap) (w4.drewN q) := hlk
 have HLSN : Hid (ls.n = ns.length) := hlsn
 clear hlk hlsn
 have HNS : Hid (∀ (W : World), Below w4.heap.size w4 W → ∀ k (h : k < ns.length), ∃ b o, ls.a = some ⟨b, o, none⟩ ∧ W.cell? ⟨b, o + k, none⟩ = some (.pointer (some ⟨ns[k].b, 0, none⟩)) ∧ NdOk W ns[k] ∧ (∀ k', ndF ns[k] k' → ¬ KMut sb mp es k') ∧ ∃ e ∈ es, ns[k] ∈ e.ns) := fun W hW k h => by
  obtain ⟨b, o, ha, hb, hc⟩ := hls k (by simpa using h)
  refine ⟨b, o, ha, ?_, (hns _ (List.getElem_mem h)).1.below hW, (hns _ (List.getElem_mem h)).2⟩
  rw [hW.cell (p := ⟨b, o + k, none⟩) hb, hc]
  simp [ptrV]
 have hln : ls.n ≤ 1000000 := by have := HLSN.out; omega
 have hlnI : (ls.n : Int) ≤ 1000000 := by omega
 have hBE := fun (W : World) (hW : Below w4.heap.size w4 W) (x : Nd) (hx : NdOk W x) => bytesEqual_any x.by_ v (codeB x.level x.its) (codeB level its) W hx.by_ (hbs4.below hW)
 have HBE : Hid (∀ W, Below w4.heap.size w4 W → ∀ x, NdOk W x → _) := hBE
 have hNE := fun (W : World) (hW : Below w4.heap.size w4 W) (x : Nd) (hx : NdOk W x) (h2 : x.bl.length ≤ 1000) => nodesEqual_any x.be bs x.bl bl W hx.be hx.ben (hp4.be.below_all hW) hp4.ben h2 (by have := hp4.bel; omega) (fun b hb => by
  rcases List.mem_append.1 hb with h | h
  ·obtain ⟨cs, hr⟩ := hx.blrow b h
   exact ⟨_, cs, hr⟩
  ·obtain ⟨cs, hr⟩ := hp4.brow b h
   exact ⟨_, cs, hr.below hr.lt hW⟩)
 have HNE : Hid (∀ W, Below w4.heap.size w4 W → ∀ x, NdOk W x → x.bl.length ≤ 1000 → _) := hNE
 have HFOUND : Hid (∀ (W : World) (x : Nd), Below w4.heap.size w4 W → NdOk W x → (∀ k, ndF x k → ¬ KMut sb mp es k) → (∃ e ∈ es, x ∈ e.ns) → codeB x.level x.its = codeB level its → x.bl = bl → NodeOut w sb N en tr mp es level xs its bl x W) := fun W x hW hx hxf hxe hc hb => by
  obtain ⟨e1, e2⟩ := code_inj hx.pg hp.pg hc
  exact ⟨mp, es, hR4.below hR4.lt hW, (K4.below hW).more (by omega), hx, e1, e2, hb, hxf, fun k hk _ => hk, Frame.of_below_all (hB4.trans (hW.mono hB4.size)), fun e he y hy => Or.inr ⟨e, he, hy⟩, fun k _ _ => Or.inl hxe⟩
 have HBL : Hid (∀ (W : World) (x : Nd), NdOk W x → x.bl.length ≤ 1000) := fun W x hx => hx.blc
 have HBD : Hid (∀ q, Below w4.heap.size w4 (w4.drewN q)) := fun q => below_drewN (Below.refl _ _)
 clear hBE hNE hls hns hnsN
 go_quiet (fail)
 go_wp2
 go_loopw [10, 23] (fun _ ix wr => ∃ k : Nat, k ≤ ls.n ∧ ix = .int .i64 k ∧ Below w4.heap.size w4 wr) (fun _ ix _ => ls.n - (intOf ix).toNat)
 case atStart => exact ⟨0, by omega, by simp, HBD.out _⟩
 case round =>
  obtain ⟨k, hk, rfl, hBr⟩ := hrel
  by_cases hlt : k < ls.n
  ·have hltI : (k : Int) < ls.n := by omega
   have hkl : k < ns.length := by have := HLSN.out; omega
   obtain ⟨b, o, hla, hc, hx, hxf, hxe⟩ := HNS.out wr hBr k hkl
   obtain ⟨la, ln, lc⟩ := ls
   simp only at hla hltI hlt hk hln hlnI HLSN HNS hlk2
   subst hla
   generalize ns[k] = x at *
   have hcb : wr.cell? ⟨x.b, 1, none⟩ = some (.slice x.by_.a x.by_.n x.by_.cap) := hx.row.cell 1 (by simp [ndC])
   have hce : wr.cell? ⟨x.b, 10, none⟩ = some (.slice x.be.a x.be.n x.be.cap) := by
    obtain ⟨y0, y1, y2, y3, y4, y5, y6, y7, hy⟩ := list8 (digB (codeB x.level x.its)) rfl
    have h := hx.row
    rw [ndC_list x hy] at h
    exact h.cell 10 (by simp)
   have HX : Hid (NdOk wr x) := hx
   have HXF : Hid (∀ k', ndF x k' → ¬ KMut sb mp es k') := hxf
   have HXE : Hid (∃ e ∈ es, x ∈ e.ns) := hxe
   clear hx hxf hxe
   have HC1 : Hid (Calls _ _ _ _ _) := HBE.out wr hBr x HX.out
   have HC2 : Hid (Calls _ _ _ _ _) := HNE.out wr hBr x HX.out (HBL.out wr x HX.out)
   unfold SlR.val at HC1 HC2
   cases hq : (codeB x.level x.its == codeB level its) with
   | false =>
    rw [hq] at HC1
    clear hq
    go_wp2_with (go_at_call 99; refine HC1.out.mono ?_; rintro e w6 ⟨rfl, hw6⟩; obtain rfl : wr = w6 := hw6.symm; clear hw6)
    exact ⟨⟨k + 1, by omega, by go_num, hBr⟩, by simp [intOf]; omega⟩
   | true =>
    have HQ : Hid (codeB x.level x.its = codeB level its) := eq_of_beq hq
    rw [hq] at HC1
    clear hq
    cases hr : (x.bl == bl) with
    | false =>
     rw [hr] at HC2
     clear hr
     go_wp2_with (first | (go_at_call 99; refine HC1.out.mono ?_; rintro e w6 ⟨rfl, hw6⟩; obtain rfl : wr = w6 := hw6.symm; clear hw6) | (go_at_call 100; refine HC2.out.mono ?_; rintro e w7 ⟨rfl, nq7, rfl⟩))
     exact ⟨⟨k + 1, by omega, by go_num, hBr.trans (below_drewN (Below.refl _ _))⟩, by simp [intOf]; omega⟩
    | true =>
     have HRR : Hid (x.bl = bl) := eq_of_beq hr
     rw [hr] at HC2
     clear hr
     go_wp2_with (first | (go_at_call 99; refine HC1.out.mono ?_; rintro e w6 ⟨rfl, hw6⟩; obtain rfl : wr = w6 := hw6.symm; clear hw6) | (go_at_call 100; refine HC2.out.mono ?_; rintro e w7 ⟨rfl, nq7, rfl⟩))
     go_ret
     exact ⟨x, rfl, HFOUND.out _ x (hBr.trans (below_drewN (Below.refl _ _))) (HX.out.below (below_drewN (Below.refl _ _))) HXF.out HXE.out HQ.out HRR.out⟩
  ·have hltI : ¬ (k : Int) < ls.n := by omega
   have Kr := K4.below hBr
   have hpr := hp4.below hBr
   have hbsr := hbs4.below hBr
   have hRr : StoRow wr sb en mp tr := hR4.below hR4.lt hBr
   have hdrr := hdr.below hdr.lt hBr
   have hPrr := hPr4.below hPr4.lt hBr
   have hBwr : Below w.heap.size w wr := hB4.trans (hBr.mono hB4.size)
   obtain ⟨lk, hlkv, hlkb, hlkf, hlkx⟩ : ∃ lk : SlR, ((xs.getLast?.map (fun x => x.k.val)).getD (.slice none 0 0)) = .slice lk.a lk.n lk.cap ∧ BS wr lk (lastK its) ∧ (∀ y, lk.a = some y → ¬ KMut sb mp es y.block) ∧ (∀ y, lk.a = some y → ∃ x ∈ xs, ∃ y, x.k.a = some y ∧ lk.a = some y) := by
    cases hx : xs.getLast? with
    | none =>
     have h1 : xs = [] := by simpa using hx
     have h2 : its = [] := List.eq_nil_of_length_eq_zero (by rw [hp.len, h1]; rfl)
     refine ⟨⟨none, 0, 0⟩, rfl, ?_, (fun y hy => by cases hy), (fun y hy => by cases hy)⟩
     rw [h2]
     exact ⟨SlB.nil _ _, rfl, fun _ => rfl, fun y hy => by cases hy⟩
    | some x =>
     have hne : xs ≠ [] := by intro e; subst e; simp at hx
     have hpos := List.length_pos_iff.2 hne
     have hlast : xs[xs.length - 1]'(by omega) = x := by
      rw [List.getLast?_eq_getElem?, List.getElem?_eq_getElem (by omega)] at hx
      exact Option.some.inj hx
     have hlen2 := hp.len
     have hne2 : its ≠ [] := by intro e; subst e; simp at hlen2; omega
     refine ⟨x.k, rfl, ?_, fun y hy => hp.kf x (List.mem_of_getLast? hx) y hy, fun y hy => ⟨x, List.mem_of_getLast? hx, y, hy, hy⟩⟩
     have h1 := (hpr.en (xs.length - 1) (by omega) (by omega)).key
     rw [hlast] at h1
     rw [lastK_get its hne2]
     have e2 : its[its.length - 1]'(by have := List.length_pos_iff.2 hne2; omega) = its[xs.length - 1]'(by omega) := by congr 1; omega
     rw [e2]; exact h1
   have HLK : Hid (Calls _ _ _ _ _) := lastKey_any a n cap xs wr.drew hp.n (by omega) hpr.sl (fun x hx => by
    obtain ⟨i, hi, rfl⟩ := List.getElem_of_mem hx
    exact (hp.en i hi (by have := hp.len; omega)).d8)
   rw [hlkv] at HLK
   have HCLN : Hid (Calls _ _ _ _ _) := nodesClone_any bs bl wr.drew hpr.be hp.ben hp.benil (by have := hp.bel; omega)
   have HCLNB : Hid (∀ (cl : SlR) (W : World), SlV W cl.a (bl.map ptrV) → cl.n = bl.length → (∀ x, cl.a = some x → wr.drew.heap.size ≤ x.block ∧ x.block < W.heap.size) → Below wr.drew.heap.size wr.drew W →
     ∃ nd : Nd, nd.b = W.heap.size ∧ nd.level = level ∧ nd.its = its ∧ nd.bl = bl ∧ NdOk (W.alloc (.cells #[.slice lk.a lk.n lk.cap, .slice v.a v.n v.cap, .int .u8 (x0.toNat : Int), .int .u8 (x1.toNat : Int), .int .u8 (x2.toNat : Int), .int .u8 (x3.toNat : Int), .int .u8 (x4.toNat : Int), .int .u8 (x5.toNat : Int), .int .u8 (x6.toNat : Int), .int .u8 (x7.toNat : Int), .slice cl.a cl.n cl.cap] 117)) nd ∧ (∀ k, ndF nd k → ¬ KMut sb mp es k) ∧ StoRow (W.alloc (.cells #[.slice lk.a lk.n lk.cap, .slice v.a v.n v.cap, .int .u8 (x0.toNat : Int), .int .u8 (x1.toNat : Int), .int .u8 (x2.toNat : Int), .int .u8 (x3.toNat : Int), .int .u8 (x4.toNat : Int), .int .u8 (x5.toNat : Int), .int .u8 (x6.toNat : Int), .int .u8 (x7.toNat : Int), .slice cl.a cl.n cl.cap] 117)) sb en mp tr ∧ KnownAt (W.alloc (.cells #[.slice lk.a lk.n lk.cap, .slice v.a v.n v.cap, .int .u8 (x0.toNat : Int), .int .u8 (x1.toNat : Int), .int .u8 (x2.toNat : Int), .int .u8 (x3.toNat : Int), .int .u8 (x4.toNat : Int), .int .u8 (x5.toNat : Int), .int .u8 (x6.toNat : Int), .int .u8 (x7.toNat : Int), .slice cl.a cl.n cl.cap] 117)) sb mp es N ∧ (∀ k, ndF nd k → k < w.heap.size → (∃ x ∈ xs, ∃ y, x.k.a = some y ∧ y.block = k) ∨ k ∈ bl) ∧ Below w.heap.size w (W.alloc (.cells #[.slice lk.a lk.n lk.cap, .slice v.a v.n v.cap, .int .u8 (x0.toNat : Int), .int .u8 (x1.toNat : Int), .int .u8 (x2.toNat : Int), .int .u8 (x3.toNat : Int), .int .u8 (x4.toNat : Int), .int .u8 (x5.toNat : Int), .int .u8 (x6.toNat : Int), .int .u8 (x7.toNat : Int), .slice cl.a cl.n cl.cap] 117))) := fun cl W h1 h2 h3 h4 => by
    have h4' : Below wr.heap.size wr W := ⟨h4.os, h4.tape, h4.output, h4.size, h4.block⟩
    have hA : Below wr.heap.size wr (W.alloc (.cells #[.slice lk.a lk.n lk.cap, .slice v.a v.n v.cap, .int .u8 (x0.toNat : Int), .int .u8 (x1.toNat : Int), .int .u8 (x2.toNat : Int), .int .u8 (x3.toNat : Int), .int .u8 (x4.toNat : Int), .int .u8 (x5.toNat : Int), .int .u8 (x6.toNat : Int), .int .u8 (x7.toNat : Int), .slice cl.a cl.n cl.cap] 117)) := h4'.alloc h4'.size _
    have hA2 : Below W.heap.size W (W.alloc (.cells #[.slice lk.a lk.n lk.cap, .slice v.a v.n v.cap, .int .u8 (x0.toNat : Int), .int .u8 (x1.toNat : Int), .int .u8 (x2.toNat : Int), .int .u8 (x3.toNat : Int), .int .u8 (x4.toNat : Int), .int .u8 (x5.toNat : Int), .int .u8 (x6.toNat : Int), .int .u8 (x7.toNat : Int), .slice cl.a cl.n cl.cap] 117)) := (Below.refl _ _).alloc (Nat.le_refl _) _
    have hmut := KMut.lt K hsb
    have hzwr := hBwr.size
    have hzW := h4'.size
    refine ⟨⟨W.heap.size, lk, v, cl, level, its, bl⟩, rfl, rfl, rfl, rfl, ⟨?_, hlkb.below hA, hbsr.below hA, h1.below_all hA2, h2, fun y hy => Nat.lt_of_lt_of_le (h3 y hy).2 hA2.size, hp.pg, fun b hb => by
     obtain ⟨cs, hr⟩ := hpr.brow b hb
     exact ⟨cs, hr.below hr.lt hA⟩, by have := hp.bel; simp only; omega⟩, ?_, hRr.below hRr.lt hA, Kr.below hA, ?_, hBwr.trans (hA.mono hBwr.size)⟩
    ·have hc : ndC ⟨W.heap.size, lk, v, cl, level, its, bl⟩ = [.slice lk.a lk.n lk.cap, .slice v.a v.n v.cap, .int .u8 (x0.toNat : Int), .int .u8 (x1.toNat : Int), .int .u8 (x2.toNat : Int), .int .u8 (x3.toNat : Int), .int .u8 (x4.toNat : Int), .int .u8 (x5.toNat : Int), .int .u8 (x6.toNat : Int), .int .u8 (x7.toNat : Int), .slice cl.a cl.n cl.cap] := ndC_list _ HDD.out.symm
     rw [hc]
     exact RowV.new W _ _
    ·intro k hk hm
     have hlt := hmut k hm
     rcases hk with h | ⟨y, hy, h⟩ | ⟨y, hy, h⟩ | ⟨y, hy, h⟩ | h
     ·simp only at h; omega
     ·simp only at hy; exact hlkf y hy (by rw [h]; exact hm)
     ·simp only at hy; have := hvf y hy; omega
     ·simp only at hy
      have h5 := (h3 y hy).1
      have h6 : wr.drew.heap.size = wr.heap.size := rfl
      omega
     ·exact hp.bf k h hm
    ·intro k hk hlt
     rcases hk with h | ⟨y, hy, h⟩ | ⟨y, hy, h⟩ | ⟨y, hy, h⟩ | h
     ·simp only at h; omega
     ·simp only at hy
      obtain ⟨x, hx, y2, hy2, hy3⟩ := hlkx y hy
      rw [hy] at hy3
      exact Or.inl ⟨x, hx, y2, hy2, by rw [← h, Option.some.inj hy3]⟩
     ·simp only at hy; have := hvf y hy; omega
     ·simp only at hy
      have h5 := (h3 y hy).1
      have h6 : wr.drew.heap.size = wr.heap.size := rfl
      omega
     ·exact Or.inr h
   have HKEEP : Hid (∀ (nd : Nd) (W : World), NdOk W nd → (∀ k, ndF nd k → ¬ KMut sb mp es k) → StoRow W sb en mp tr → KnownAt W sb mp es N → nd.level = level → nd.its = its → nd.bl = bl → (∀ k, ndF nd k → k < w.heap.size → (∃ x ∈ xs, ∃ y, x.k.a = some y ∧ y.block = k) ∨ k ∈ bl) → Below w.heap.size w W → Calls Try.prog 103 #[.pointer (some ⟨sb, 1, none⟩), .pointer (some ⟨nd.b, 0, none⟩)] W fun e w' => e = .returned (.tuple #[]) ∧ NodeOut w sb N en tr mp es level xs its bl nd w') := fun nd W h1 h2 h3 h4 h5 h6 h7 hnw h8 => by
    refine (keep_any sb N en tr mp es nd W h3 h4 h1 h2 hN).mono ?_
    rintro e w' ⟨rfl, mp', es', g1, g2, g3, g4, g5, g6, g7⟩
    exact ⟨rfl, mp', es', g1, g2, g3, h5, h6, h7, g4, fun k hk hlt => g5 k hk (Nat.lt_of_lt_of_le hlt h8.size), (Frame.of_below_all h8).trans g6, g7, fun k hk hlt => Or.inr (hnw k hk hlt)⟩
   have HKP : Hid (∀ (cl : SlR) (W : World), SlV W cl.a (bl.map ptrV) → cl.n = bl.length → (∀ x, cl.a = some x → wr.drew.heap.size ≤ x.block ∧ x.block < W.heap.size) → Below wr.drew.heap.size wr.drew W →
     ∃ nd : Nd, Hid (nd.b = W.heap.size) ∧ Hid (Calls Try.prog 103 #[.pointer (some ⟨sb, 1, none⟩), .pointer (some ⟨W.heap.size, 0, none⟩)] (W.alloc (.cells #[.slice lk.a lk.n lk.cap, .slice v.a v.n v.cap, .int .u8 (x0.toNat : Int), .int .u8 (x1.toNat : Int), .int .u8 (x2.toNat : Int), .int .u8 (x3.toNat : Int), .int .u8 (x4.toNat : Int), .int .u8 (x5.toNat : Int), .int .u8 (x6.toNat : Int), .int .u8 (x7.toNat : Int), .slice cl.a cl.n cl.cap] 117)) fun e w' => e = .returned (.tuple #[]) ∧ NodeOut w sb N en tr mp es level xs its bl nd w')) := fun cl W h1 h2 h3 h4 => by
    obtain ⟨nd, hnb, hn1, hn2, hn3, hn4, hn5, hn6, hn7, hnw, hn8⟩ := HCLNB.out cl W h1 h2 h3 h4
    refine ⟨nd, hnb, ?_⟩
    have := HKEEP.out nd _ hn4 hn5 hn6 hn7 hn1 hn2 hn3 hnw hn8
    rw [hnb] at this
    exact this
   clear HCLNB HKEEP
   have HDL : Hid (w3.heap.size < wr.heap.size) := hdrr.lt
   have y0 : wr.cell? ⟨w3.heap.size, 0, none⟩ = some (.int .u8 (x0.toNat : Int)) := hdrr.cell 0 (by simp)
   have y1 : wr.cell? ⟨w3.heap.size, 1, none⟩ = some (.int .u8 (x1.toNat : Int)) := hdrr.cell 1 (by simp)
   have y2 : wr.cell? ⟨w3.heap.size, 2, none⟩ = some (.int .u8 (x2.toNat : Int)) := hdrr.cell 2 (by simp)
   have y3 : wr.cell? ⟨w3.heap.size, 3, none⟩ = some (.int .u8 (x3.toNat : Int)) := hdrr.cell 3 (by simp)
   have y4 : wr.cell? ⟨w3.heap.size, 4, none⟩ = some (.int .u8 (x4.toNat : Int)) := hdrr.cell 4 (by simp)
   have y5 : wr.cell? ⟨w3.heap.size, 5, none⟩ = some (.int .u8 (x5.toNat : Int)) := hdrr.cell 5 (by simp)
   have y6 : wr.cell? ⟨w3.heap.size, 6, none⟩ = some (.int .u8 (x6.toNat : Int)) := hdrr.cell 6 (by simp)
   have y7 : wr.cell? ⟨w3.heap.size, 7, none⟩ = some (.int .u8 (x7.toNat : Int)) := hdrr.cell 7 (by simp)
   have p1 : wr.cell? ⟨w.heap.size, 1, none⟩ = some (.slice a n cap) := hPrr.cell 1 (by simp)
   clear hlkv hlkb hlkf hlkx Kr hpr hbsr hRr hdrr hPrr
   go_wp2
   unfold SlR.val at HCLN
   go_region_with (first
    | (go_at_call 101; refine HLK.out.mono ?_; rintro e w7 ⟨rfl, hw7⟩; obtain rfl : wr.drew = w7 := hw7.symm; clear hw7)
    | (go_at_call 102; refine HCLN.out.mono ?_; rintro e w8 ⟨cl, rfl, hcl1, hcl2, hcl3, hb8⟩; obtain ⟨nd, HNB, HKC⟩ := HKP.out cl w8 hcl1 hcl2 hcl3 hb8; clear hcl1 hcl2 hcl3; have z0 : w8.cell? ⟨w3.heap.size, 0, none⟩ = some (.int .u8 (x0.toNat : Int)) := (by rw [hb8.cell (p := ⟨w3.heap.size, 0, none⟩) HDL.out]; exact y0); have z1 : w8.cell? ⟨w3.heap.size, 1, none⟩ = some (.int .u8 (x1.toNat : Int)) := (by rw [hb8.cell (p := ⟨w3.heap.size, 1, none⟩) HDL.out]; exact y1); have z2 : w8.cell? ⟨w3.heap.size, 2, none⟩ = some (.int .u8 (x2.toNat : Int)) := (by rw [hb8.cell (p := ⟨w3.heap.size, 2, none⟩) HDL.out]; exact y2); have z3 : w8.cell? ⟨w3.heap.size, 3, none⟩ = some (.int .u8 (x3.toNat : Int)) := (by rw [hb8.cell (p := ⟨w3.heap.size, 3, none⟩) HDL.out]; exact y3); have z4 : w8.cell? ⟨w3.heap.size, 4, none⟩ = some (.int .u8 (x4.toNat : Int)) := (by rw [hb8.cell (p := ⟨w3.heap.size, 4, none⟩) HDL.out]; exact y4); have z5 : w8.cell? ⟨w3.heap.size, 5, none⟩ = some (.int .u8 (x5.toNat : Int)) := (by rw [hb8.cell (p := ⟨w3.heap.size, 5, none⟩) HDL.out]; exact y5); have z6 : w8.cell? ⟨w3.heap.size, 6, none⟩ = some (.int .u8 (x6.toNat : Int)) := (by rw [hb8.cell (p := ⟨w3.heap.size, 6, none⟩) HDL.out]; exact y6); have z7 : w8.cell? ⟨w3.heap.size, 7, none⟩ = some (.int .u8 (x7.toNat : Int)) := (by rw [hb8.cell (p := ⟨w3.heap.size, 7, none⟩) HDL.out]; exact y7)))
   all_goals
    go_wp2_with (go_at_call 103; refine HKC.out.mono ?_; rintro e w9 ⟨rfl, hout⟩)
    go_ret
    exact ⟨nd, by rw [HNB.out]; rfl, hout⟩
end Go.Proofs.Ytekegfbjbainhaa
