import Derived.Test.YtekegfbjbainhaaKPr4
import Derived.Test.YtekegfbjbainhaaKJoin3
import Derived.Lib.BitFns
set_option linter.unusedVariables false
set_option linter.unusedSimpArgs false

namespace Go.Proofs.Ytekegfbjbainhaa
open Go.RowKit
def cutS (ad : Option Addr) (cap i size : Nat) : Option Addr := if cap = i then ad else ad.map (fun x => x.add (i * size))
theorem cutS_none {ad : Option Addr} {cap i size : Nat} (h : cutS ad cap i size = none) : ad = none := by
 unfold cutS at h
 split at h
 ·exact h
 ·simpa using h
theorem cutS_block {ad : Option Addr} {cap i size : Nat} {x : Addr} (h : cutS ad cap i size = some x) : ∃ y, ad = some y ∧ y.block = x.block := by
 unfold cutS at h
 split at h
 ·exact ⟨x, h, rfl⟩
 ·cases ad with
  | none => cases h
  | some y =>
   simp at h
   refine ⟨y, rfl, ?_⟩
   rw [← h]; unfold Addr.add; split <;> rfl
theorem SlV.cut {w : World} {ad : Option Addr} {cs : List Value} {n cap i size : Nat} (h : SlV w ad cs) (hl : cs.length = n * size) (hi : i ≤ n) (hc : n ≤ cap) : SlV w (cutS ad cap i size) (cs.drop (i * size)) := fun j hj => by
 have hlen : (cs.drop (i * size)).length = cs.length - i * size := List.length_drop
 by_cases e : cap = i
 ·exfalso
  have : n = i := by omega
  rw [hlen, hl, this] at hj; simp at hj
 ·obtain ⟨b, o, ha, hb, hcell⟩ := h (i * size + j) (by rw [hlen] at hj; omega)
  refine ⟨b, o + i * size, ?_, hb, ?_⟩
  ·unfold cutS; rw [if_neg e, ha]; simp [Addr.add_mid]
  ·rw [Nat.add_assoc, hcell]; simp
theorem SlV.take {w : World} {ad : Option Addr} {cs : List Value} (h : SlV w ad cs) (k : Nat) : SlV w ad (cs.take k) := fun j hj => by
 have h2 : j < cs.length := by rw [List.length_take] at hj; omega
 obtain ⟨b, o, ha, hb, hc⟩ := h j h2
 exact ⟨b, o, ha, hb, by rw [hc]; simp⟩
theorem run_sliceLo {P : Program} {w : World} (t e : TypeId) (ad : Option Addr) (n cap i size : Nat) (ht : P.underlying t = some (.slice e)) (hs : (P.info? e).map (·.size) = some size) (hin : i ≤ n) (hnc : n ≤ cap) :
  (Instr.slice t (.slice ad n cap) (some (.int .i64 (i : Int))) none none).run P w = .ok (.slice (cutS ad cap i size) (n - i) (cap - i)) w := by
 have h1 : (i : Int) ≤ n := by omega
 have hso : (Go.sizeOf e).run P w = .ok size w := by
  cases hi : P.info? e with
  | none => simp [hi] at hs
  | some inf => simp [hi] at hs; simp [sizeOf, typeInfo, hi, hs]
 simp [Instr.slice, run_underlying ht, Instr.sliceBounds, Instr.sliceBound, asIntOf, h1, hin, Result.andThen, hso, cutS]
theorem run_sliceLH {P : Program} {w : World} (t e : TypeId) (ad : Option Addr) (n cap i j size : Nat) (ht : P.underlying t = some (.slice e)) (hs : (P.info? e).map (·.size) = some size) (hij : i ≤ j) (hjc : j ≤ cap) :
  (Instr.slice t (.slice ad n cap) (some (.int .i64 (i : Int))) (some (.int .i64 (j : Int))) none).run P w = .ok (.slice (cutS ad cap i size) (j - i) (cap - i)) w := by
 have h1 : (i : Int) ≤ j := by omega
 have h2 : (j : Int) ≤ cap := by omega
 have hso : (Go.sizeOf e).run P w = .ok size w := by
  cases hi : P.info? e with
  | none => simp [hi] at hs
  | some inf => simp [hi] at hs; simp [sizeOf, typeInfo, hi, hs]
 simp [Instr.slice, run_underlying ht, Instr.sliceBounds, Instr.sliceBound, asIntOf, h1, h2, hij, hjc, Result.andThen, hso, cutS]
theorem wp_sliceLo {P : Program} {ops : Array Oper} {rest : List Oper} {o : Oper} {a : Act} {w : World} {Q : Exit → Act → World → Prop} (hgd : o.guard = none) (t e : TypeId) (x lo : Operand) (ho : o.op = .slice t x (some lo) none none)
  (ad : Option Addr) (n cap i size : Nat) (hx : a.eval x = .slice ad n cap) (hlo : a.eval lo = .int .i64 (i : Int)) (ht : P.underlying t = some (.slice e)) (hs : (P.info? e).map (·.size) = some size) (hin : i ≤ n) (hnc : n ≤ cap)
  (h : wpList P ops Q rest (a.put o.dst (.slice (cutS ad cap i size) (n - i) (cap - i))) w) : wpList P ops Q (o :: rest) a w := by
 refine wpList_plain hgd fun K hK => ?_
 have hr := run_sliceLo (w := w) t e ad n cap i size ht hs hin hnc
 unfold Oper.wp execOp
 simp only [ho, Option.map, hx, hlo]
 go_simp
 exact hK _ _ h
theorem wp_sliceLH {P : Program} {ops : Array Oper} {rest : List Oper} {o : Oper} {a : Act} {w : World} {Q : Exit → Act → World → Prop} (hgd : o.guard = none) (t e : TypeId) (x lo hi : Operand) (ho : o.op = .slice t x (some lo) (some hi) none)
  (ad : Option Addr) (n cap i j size : Nat) (hx : a.eval x = .slice ad n cap) (hlo : a.eval lo = .int .i64 (i : Int)) (hhi : a.eval hi = .int .i64 (j : Int)) (ht : P.underlying t = some (.slice e)) (hs : (P.info? e).map (·.size) = some size) (hij : i ≤ j) (hjc : j ≤ cap)
  (h : wpList P ops Q rest (a.put o.dst (.slice (cutS ad cap i size) (j - i) (cap - i))) w) : wpList P ops Q (o :: rest) a w := by
 refine wpList_plain hgd fun K hK => ?_
 have hr := run_sliceLH (w := w) t e ad n cap i j size ht hs hij hjc
 unfold Oper.wp execOp
 simp only [ho, Option.map, hx, hlo, hhi]
 go_simp
 exact hK _ _ h
structure EntAt (w : World) (en : SlR) (xs : List EnP) (its : List ItR) : Prop where
 own : w.ownsRow 0 103 10 en.val xs.length (ensC xs)
 len : its.length = xs.length
 ok : ∀ i (h1 : i < xs.length) (h2 : i < its.length), EnOk w xs[i] its[i]
def entF (en : SlR) (xs : List EnP) (k : Nat) : Prop := en.val.ownBlock = some k ∨ ∃ x ∈ xs, (∃ y, x.k.a = some y ∧ y.block = k) ∨ (∃ y, x.v.a = some y ∧ y.block = k)
theorem EntAt.frame {w w' : World} {S : Nat → Prop} {en : SlR} {xs : List EnP} {its : List ItR} (h : EntAt w en xs its) (hf : Frame S w w') (hS : ∀ k, entF en xs k → ¬ S k) : EntAt w' en xs its :=
 ⟨owns_frame h.own hf (fun k hk => hS k (Or.inl hk)), h.len, fun i h1 h2 => (h.ok i h1 h2).frame hf (fun y hy => hS _ (Or.inr ⟨_, List.getElem_mem h1, Or.inl ⟨y, hy, rfl⟩⟩)) (fun y hy => hS _ (Or.inr ⟨_, List.getElem_mem h1, Or.inr ⟨y, hy, rfl⟩⟩))⟩
theorem EntAt.below {w w' : World} {en : SlR} {xs : List EnP} {its : List ItR} (h : EntAt w en xs its) (hf : Below w.heap.size w w') : EntAt w' en xs its :=
 ⟨owns_below h.own hf, h.len, fun i h1 h2 => (h.ok i h1 h2).below hf⟩
theorem EntAt.d8 {w : World} {en : SlR} {xs : List EnP} {its : List ItR} (h : EntAt w en xs its) : ∀ x ∈ xs, x.d.length = 8 := fun x hx => by
 obtain ⟨i, hi, rfl⟩ := List.getElem_of_mem hx
 rw [(h.ok i hi (by have := h.len; omega)).dig]; rfl
def putX (xs : List EnP) (i : Nat) (e : List EnP) (j : Nat) : List EnP := xs.take i ++ e ++ xs.drop j
theorem ensC_take (xs : List EnP) (h8 : ∀ x ∈ xs, x.d.length = 8) (k : Nat) (hk : k ≤ xs.length) : ensC (xs.take k) = (ensC xs).take (k * 10) := (flat_take enC 10 xs (fun x hx => enC_length x (h8 x hx)) k hk).symm
theorem ensC_drop (xs : List EnP) (h8 : ∀ x ∈ xs, x.d.length = 8) (k : Nat) (hk : k ≤ xs.length) : ensC (xs.drop k) = (ensC xs).drop (k * 10) := (flat_drop enC 10 xs (fun x hx => enC_length x (h8 x hx)) k hk).symm
end Go.Proofs.Ytekegfbjbainhaa


namespace Go.Proofs.Ytekegfbjbainhaa
open Go.RowKit
attribute [local go_sem ↓] Go.wp_at_zero Go.wp_at_succ
theorem ofB_any (a : Option Addr) (n cap : Nat) (l : List UInt8) (w : World) (hn : n = l.length) (hl : l.length ≤ maxLen) (hc : SlB w a l) :
  Calls Try.prog 51 #[.slice a n cap] w fun e w' => e = .returned (digV l) ∧ Below w.heap.size w w' := by
 subst hn
 refine (of_any a cap l w hl hc).mono ?_
 rintro e w' ⟨rfl, c1, c2, c3, rfl⟩
 exact ⟨rfl, (((Below.refl _ _).alloc (Nat.le_refl _) _).alloc (by simp) _).alloc (by simp; omega) _⟩
def lenT : List UInt8 := (([0, 1, 2, 2, 3, 3, 3, 3, 4, 4, 4, 4, 4, 4, 4, 4, 5, 5, 5, 5, 5, 5, 5, 5, 5, 5, 5, 5, 5, 5, 5, 5, 6, 6, 6, 6, 6, 6, 6, 6, 6, 6, 6, 6, 6, 6, 6, 6, 6, 6, 6, 6, 6, 6, 6, 6, 6, 6, 6, 6, 6, 6, 6, 6].append [7, 7, 7, 7, 7, 7, 7, 7, 7, 7, 7, 7, 7, 7, 7, 7, 7, 7, 7, 7, 7, 7, 7, 7, 7, 7, 7, 7, 7, 7, 7, 7, 7, 7, 7, 7, 7, 7, 7, 7, 7, 7, 7, 7, 7, 7, 7, 7, 7, 7, 7, 7, 7, 7, 7, 7, 7, 7, 7, 7, 7, 7, 7, 7]).append ([8, 8, 8, 8, 8, 8, 8, 8, 8, 8, 8, 8, 8, 8, 8, 8, 8, 8, 8, 8, 8, 8, 8, 8, 8, 8, 8, 8, 8, 8, 8, 8, 8, 8, 8, 8, 8, 8, 8, 8, 8, 8, 8, 8, 8, 8, 8, 8, 8, 8, 8, 8, 8, 8, 8, 8, 8, 8, 8, 8, 8, 8, 8, 8].append [8, 8, 8, 8, 8, 8, 8, 8, 8, 8, 8, 8, 8, 8, 8, 8, 8, 8, 8, 8, 8, 8, 8, 8, 8, 8, 8, 8, 8, 8, 8, 8, 8, 8, 8, 8, 8, 8, 8, 8, 8, 8, 8, 8, 8, 8, 8, 8, 8, 8, 8, 8, 8, 8, 8, 8, 8, 8, 8, 8, 8, 8, 8, 8]))
theorem lenT_eq : ∀ n : Fin 256, lenT[n.val]?.map (·.toNat) = some (Lib.bitLen n.val) := by decide +kernel
theorem wp_indexT {P : Program} {ops : Array Oper} {rest : List Oper} {o : Oper} {a : Act} {w : World} {Q : Exit → Act → World → Prop} (hgd : o.guard = none) (t : TypeId) (y : Operand) (l : List UInt8) (ho : o.op = .index t (.const (.string ⟨l.toArray⟩)) y)
  (x b : Nat) (hy : a.eval y = .int .u8 (x : Int)) (ht : P.underlying t = some .string) (hx : l[x]?.map (·.toNat) = some b) (h : wpList P ops Q rest (a.put o.dst (.int .u8 (b : Int))) w) : wpList P ops Q (o :: rest) a w := by
 refine wpList_plain hgd fun K hK => ?_
 cases hl : l[x]? with
 | none => simp [hl] at hx
 | some v =>
  rw [hl] at hx
  have hv : v.toNat = b := by simpa using hx
  have hb : (ByteArray.mk l.toArray)[x]? = some v := by
   obtain ⟨h1, h2⟩ := List.getElem?_eq_some_iff.1 hl
   have h3 : x < (ByteArray.mk l.toArray).size := by simpa [ByteArray.size] using h1
   have h4 : (ByteArray.mk l.toArray)[x]? = some ((ByteArray.mk l.toArray)[x]'h3) := getElem?_pos (ByteArray.mk l.toArray) x h3
   rw [h4]
   congr 1
  have hr : (Instr.index t (.string ⟨l.toArray⟩) (.int .u8 (x : Int))).run P w = .ok (.int .u8 (b : Int)) w := by
   have h0 : (0 : Int) ≤ x := by omega
   simp [Instr.index, asIntOf, run_underlying ht, hb, hv, Result.andThen]
  unfold Oper.wp execOp
  simp only [ho]
  have he : a.eval (.const (.string ⟨l.toArray⟩)) = .string ⟨l.toArray⟩ := rfl
  simp only [he, hy, Sem.run_bind, hr, Result.andThen_ok, Sem.run_pure]
  exact hK _ _ h
set_option maxRecDepth 100000 in
set_option maxHeartbeats 400000 in
theorem len64_any (x : Nat) (w : World) (hx : x < 256) :
  Calls Try.prog 97 #[.int .u64 (x : Int)] w fun e w' => e = .returned (.int .i64 (Lib.bitLen x : Int)) ∧ w' = w := by
 have h1 : ¬ (4294967296 : Int) ≤ x := by omega
 have h2 : ¬ (65536 : Int) ≤ x := by omega
 have h3 : ¬ (256 : Int) ≤ x := by omega
 have h4 : (x : Int) < 256 := by omega
 have h5 : (x : Int) % 256 = x := by omega
 have HT : Hid (lenT[x]?.map (·.toNat) = some (Lib.bitLen x)) := lenT_eq ⟨x, hx⟩
 have hle : Lib.bitLen x ≤ 8 := Lib.bitLen_le8 ⟨x, hx⟩
 generalize Lib.bitLen x = b at *
 have hbI : (b : Int) ≤ 8 := by omega
 go_enter Try.func97, Try.ntmps97
 go_wp2_with (refine wp_indexT (by rfl) 9 (.tmp 21) lenT (by rfl) x b (by rfl) Try.underlying9 HT.out ?_)
 go_ret
 exact ⟨rfl, rfl⟩
set_option maxRecDepth 100000 in
theorem len_any (x : Nat) (w : World) (hx : x < 256) :
  Calls Try.prog 86 #[.int .u64 (x : Int)] w fun e w' => e = .returned (.int .i64 (Lib.bitLen x : Int)) ∧ w' = w := by
 have HC : Hid (Calls _ _ _ _ _) := len64_any x w hx
 generalize Lib.bitLen x = b at *
 have h4 : (x : Int) < 256 := by omega
 clear hx
 go_enter Try.func86, Try.ntmps86
 go_wp2_with (go_at_call 97; refine HC.out.mono ?_; rintro e w1 ⟨rfl, hw1⟩; obtain rfl : w = w1 := hw1.symm)
 go_ret
 exact ⟨rfl, rfl⟩
theorem half_tab : ∀ n : Fin 201, 2 ≤ n.val → 1 ≤ Lib.bitLen (n.val - 1) ∧ Lib.bitLen (n.val - 1) ≤ 8 ∧ 2 ^ (Lib.bitLen (n.val - 1) - 1) = halfN n.val := by decide +kernel
set_option maxRecDepth 100000 in
set_option maxHeartbeats 400000 in
theorem first_any (n : Nat) (w : World) (hn2 : 2 ≤ n) (hn : n ≤ 200) :
  Calls Try.prog 66 #[.int .i64 (n : Int)] w fun e w' => e = .returned (.int .i64 (halfN n : Int)) ∧ w' = w := by
 obtain ⟨x, rfl⟩ : ∃ x, n = x + 1 := ⟨n - 1, by omega⟩
 have hT := half_tab ⟨x + 1, by omega⟩ hn2
 simp only [Nat.add_sub_cancel] at hT
 have HC : Hid (Calls _ _ _ _ _) := len_any x w (by omega)
 have hxI : ((x + 1 : Nat) : Int) - 1 = (x : Int) := by omega
 have hx2 : (x : Int) ≤ 200 := by omega
 have HX : Hid (((x + 1 : Nat) : Int) = (x : Int) + 1) := by unfold Hid; omega
 generalize halfN (x + 1) = h at *
 generalize Lib.bitLen x = b at *
 obtain ⟨hb1, hb2, hb3⟩ := hT
 obtain ⟨c, rfl⟩ : ∃ c, b = c + 1 := ⟨b - 1, by omega⟩
 simp only [Nat.add_sub_cancel] at hb3
 have hcI : ((c + 1 : Nat) : Int) - 1 = (c : Int) := by omega
 have hc7 : (c : Int) ≤ 7 := by omega
 have hc8 : c ≤ 7 := by omega
 have HW : Hid (wrap64 ((2 : Int) ^ c) = (h : Int)) := by
  unfold Hid
  rw [← hb3]
  have hq : ∀ q : Fin 8, wrap64 ((2 : Int) ^ q.val) = ((2 ^ q.val : Nat) : Int) := by decide +kernel
  exact hq ⟨c, by omega⟩
 clear hb1 hb2 hn2 hn hb3
 go_enter Try.func66, Try.ntmps66
 go_wp2_with (go_at_call 86; refine HC.out.mono ?_; rintro e w1 ⟨rfl, hw1⟩; obtain rfl : w = w1 := hw1.symm)
 go_ret
 exact ⟨by rw [← HW.out]; rfl, rfl⟩
set_option maxRecDepth 100000 in
set_option maxHeartbeats 400000 in
theorem sumOne_any (d : List UInt8) (w : World) (hd : d.length = 8) :
  Calls Try.prog 87 #[dV d] w fun e w' => e = .returned (dV (digB (0 :: d))) ∧ Below w.heap.size w w' := by
 have hb1 : OwnB (oneB (resD (boxD w d)) 0) w.heap.size (.slice (some ⟨w.heap.size + 1 + 1, 0, none⟩) 1 1) [0] := by
  have := OwnB.built (resD (boxD w d)) w.heap.size [0] (by simp; omega) (by simp [maxLen])
  simp only [World.size_alloc] at this
  exact this
 have hs1 : SlB (oneB (resD (boxD w d)) 0) (some ⟨w.heap.size, 0, none⟩) d := SlB.of_row (((RowV.new w 45 _).alloc _).alloc _)
 have hr1 : RowV (oneB (resD (boxD w d)) 0) (w.heap.size + 1) 45 z8 := by
  have := (resD_row (boxD w d)).alloc (.cells #[.int .u8 0] 5)
  simp only [World.size_alloc] at this
  exact this
 obtain ⟨dd, hdd⟩ : ∃ dd, dd = digB (0 :: d) := ⟨_, rfl⟩
 have hdl : dd.length = 8 := by rw [hdd]; rfl
 have hv : dV d = .agg (d.map u8c).toArray := rfl
 rw [← hdd, hv]
 have HDD : Hid (dd = digB (0 :: d)) := hdd
 clear hdd hv
 go_enter Try.func87, Try.ntmps87
 go_wp2_with (at_builtin; refine wp_appendB (by rfl) (.tmp 3) (.tmp 4) (by rfl) w.heap.size _ [0] (by rfl) hb1 (some ⟨w.heap.size, 0, none⟩) 8 8 d (by rfl) hd.symm hs1 (fun h => by cases h) (by simp [hd]) (by simp; omega) ?_; intro a' n' cap' w4 hn' ho' hs' hf' hat')
 refine (ofB_any a' _ cap' (0 :: d) w4 (by simp [hd]) (by simp [hd, maxLen]) hs').mono ?_
 rintro e w5 ⟨rfl, hb5⟩
 rw [digV_eq, ← HDD.out]
 have hR : RowV w5 (w.heap.size + 1) 45 z8 := by
  have h2 := hr1.of_block (hf'.block (w.heap.size + 1) (by simp) (by simp [Value.ownBlock]))
  exact h2.below h2.lt hb5
 have HB : Hid (Below w.heap.size w w5) := by
  have h3 := hf'.below (B := w.heap.size) (by simp; omega) (fun k hk => by simp [Value.ownBlock] at hk; omega)
  exact (((((Below.refl _ _).alloc (Nat.le_refl _) _).alloc (by simp) _).alloc (by simp; omega) _).trans h3).trans (hb5.mono (by have := h3.size; simp at this; omega))
 clear hf' hat' hs' ho' hb5 hs1 hb1 hr1
 go_wp2_with (refine wp_storeD (by rfl) (.tmp 2) (.tmp 6) (by rfl) (w.heap.size + 1) (by rfl) dd hdl (by rfl) hR (by rfl) ?_; intro w6 hR6 hf6 hz6)
 exact ret_dig (k := 2) rfl rfl hR6 hdl rfl ⟨rfl, HB.out.trans (hf6.below (by have := hR.lt; omega) (fun k hk => by omega))⟩
set_option maxRecDepth 100000 in
set_option maxHeartbeats 400000 in
theorem sumTwo_any (x y : List UInt8) (w : World) (hx : x.length = 8) (hy : y.length = 8) :
  Calls Try.prog 88 #[dV x, dV y] w fun e w' => e = .returned (dV (digB (1 :: (x ++ y)))) ∧ Below w.heap.size w w' := by
 have hb1 : OwnB (oneB (resD (boxD (boxD w x) y)) 1) w.heap.size (.slice (some ⟨w.heap.size + 1 + 1 + 1, 0, none⟩) 1 1) [1] := by
  have := OwnB.built (resD (boxD (boxD w x) y)) w.heap.size [1] (by simp; omega) (by simp [maxLen])
  simp only [World.size_alloc] at this
  exact this
 have hs1 : SlB (oneB (resD (boxD (boxD w x) y)) 1) (some ⟨w.heap.size, 0, none⟩) x := SlB.of_row ((((RowV.new w 45 _).alloc _).alloc _).alloc _)
 have hs2 : SlB (oneB (resD (boxD (boxD w x) y)) 1) (some ⟨w.heap.size + 1, 0, none⟩) y := by
  have := SlB.of_row (((RowV.new (boxD w x) 45 (y.map u8c)).alloc (.cells z8.toArray 45)).alloc (.cells #[.int .u8 1] 5))
  simp only [World.size_alloc] at this
  exact this
 have hr1 : RowV (oneB (resD (boxD (boxD w x) y)) 1) (w.heap.size + 1 + 1) 45 z8 := by
  have := (resD_row (boxD (boxD w x) y)).alloc (.cells #[.int .u8 1] 5)
  simp only [World.size_alloc] at this
  exact this
 obtain ⟨dd, hdd⟩ : ∃ dd, dd = digB (1 :: (x ++ y)) := ⟨_, rfl⟩
 have hdl : dd.length = 8 := by rw [hdd]; rfl
 have hvx : dV x = .agg (x.map u8c).toArray := rfl
 have hvy : dV y = .agg (y.map u8c).toArray := rfl
 rw [← hdd, hvx, hvy]
 have HDD : Hid (dd = digB (1 :: (x ++ y))) := hdd
 clear hdd hvx hvy
 go_enter Try.func88, Try.ntmps88
 go_wp2_with (first
  | (at_builtin; refine wp_appendB (by rfl) (.tmp 6) (.tmp 7) (by rfl) w.heap.size _ [1] (by rfl) hb1 (some ⟨w.heap.size, 0, none⟩) 8 8 x (by rfl) hx.symm hs1 (fun h => by cases h) (by simp [hx]) (by simp; omega) ?_; intro a' n' cap' w4 hn' ho' hs' hf' hat'; obtain rfl : n' = 9 := (by rw [hn', hx]; rfl); have hs2' := SlB.frame hs2 hf' (fun z hz => by cases hz; simp [Value.ownBlock]; omega); clear hn')
  | (at_builtin; refine wp_appendB (by rfl) (.tmp 9) (.tmp 10) (by rfl) w.heap.size _ ([1] ++ x) (by rfl) ho' (some ⟨w.heap.size + 1, 0, none⟩) 8 8 y (by rfl) hy.symm hs2' (fun h => by cases h) (by simp [hx, hy]) (by have := hf'.size; simp at this; omega) ?_; intro a'' n'' cap'' w5 hn'' ho'' hs'' hf'' hat''; obtain rfl : n'' = 17 := (by rw [hn'', hy]; simp [hx]); clear hn''))
 refine (ofB_any a'' _ cap'' (1 :: (x ++ y)) w5 (by simp [hx, hy]) (by simp [hx, hy, maxLen]) (by simpa using hs'')).mono ?_
 rintro e w6 ⟨rfl, hb6⟩
 rw [digV_eq, ← HDD.out]
 have hg : ∀ k, (Value.slice a' 9 cap').ownBlock = some k → w.heap.size + 1 + 1 + 1 ≤ k := fun k hk => by
  rcases hat' with h | h
  ·rw [h] at hk; simp [Value.ownBlock] at hk; omega
  ·rw [h] at hk; simp at hk; omega
 have hR : RowV w6 (w.heap.size + 1 + 1) 45 z8 := by
  have h2 := hr1.of_block (hf'.block (w.heap.size + 1 + 1) (by simp) (by simp [Value.ownBlock]))
  have h3 := h2.of_block (hf''.block (w.heap.size + 1 + 1) h2.lt (fun e => by have := hg _ e; omega))
  exact h3.below h3.lt hb6
 have HB : Hid (Below w.heap.size w w6) := by
  have h3 := hf'.below (B := w.heap.size) (by simp; omega) (fun k hk => by simp [Value.ownBlock] at hk; omega)
  have z3 := h3.size
  simp only [World.size_alloc] at z3
  have h4 := hf''.below (B := w.heap.size) (by omega) (fun k hk => by have := hg _ hk; omega)
  have z4 := h4.size
  exact (((((((Below.refl _ _).alloc (Nat.le_refl _) _).alloc (by simp) _).alloc (by simp; omega) _).alloc (by simp; omega) _).trans h3).trans h4).trans (hb6.mono (by omega))
 clear hf' hat' hs' ho' hb6 hs1 hb1 hr1 hs2 hs2' hf'' hat'' hs'' ho'' hg
 go_wp2_with (refine wp_storeD (by rfl) (.tmp 4) (.tmp 12) (by rfl) (w.heap.size + 1 + 1) (by rfl) dd hdl (by rfl) hR (by rfl) ?_; intro w7 hR7 hf7 hz7)
 exact ret_dig (k := 4) rfl rfl hR7 hdl rfl ⟨rfl, HB.out.trans (hf7.below (by have := hR.lt; omega) (fun k hk => by omega))⟩
set_option maxRecDepth 100000 in
set_option maxHeartbeats 1600000 in
theorem sumP_any : ∀ (f : Nat) (l : List (List UInt8)) (a : Option Addr) (cap : Nat) (w : World), l.length < f → l.length ≤ 200 → l.length ≤ cap → cap ≤ 9223372036854775807 → SlD w a l →
  Calls Try.prog 67 #[.slice a l.length cap] w fun e w' => e = .returned (dV (sumF f l)) ∧ Below w.heap.size w w'
 | 0, l, a, cap, w, hf, _, _, _, _ => absurd hf (Nat.not_lt_zero _)
 | f + 1, [], a, cap, w, hf, h200, hc, hcap, hs => by
  have hK := KeepD.start w
  obtain ⟨dd, hdd⟩ : ∃ dd, dd = sumF (f + 1) [] := ⟨_, rfl⟩
  have hdl : dd.length = 8 := by rw [hdd]; rfl
  rw [← hdd]
  have HDD : Hid (dd = digB []) := hdd
  clear hdd
  go_enter Try.func67, Try.ntmps67
  go_wp2_with fail
  refine (ofB_any none 0 0 [] _ rfl (by simp) (SlB.nil _ _)).mono ?_
  rintro e w5 ⟨rfl, hb5⟩
  rw [digV_eq, ← HDD.out]
  have hK5 := hK.next hb5
  go_wp2_with (refine wp_storeD (by rfl) (.tmp 2) (.tmp 8) (by rfl) w.heap.size (by rfl) dd hdl (by rfl) hK5.2 (by rfl) ?_; intro w6 hR6 hf6 hz6)
  exact ret_dig (k := 2) rfl rfl hR6 hdl rfl ⟨rfl, hK5.1.trans (hf6.below (by have := hK5.2.lt; omega) (fun k hk => by omega))⟩
 | f + 1, [d], a, cap, w, hf, h200, hc, hcap, hs => by
  have hK := KeepD.start w
  have hd : d.length = 8 := hs.2 d (by simp)
  obtain ⟨b, o, rfl, hb, _⟩ := hs.1 0 (by simp [digsC, hd])
  have hr : (resD w).rangeAt b o (d.map u8c) := fun j v hv => by
   obtain ⟨hj, hv⟩ := List.getElem?_eq_some_iff.1 hv
   obtain ⟨b', o', ha, hb', hc'⟩ := hs.1 j (by simpa [digsC] using hj)
   cases ha
   rw [World.cell?_alloc_lt _ _ _ (by exact hb'), hc']
   simp only [digsC, List.flatMap_cons, List.flatMap_nil, List.append_nil]
   rw [hv]
  have hcap1 : (1 : Int) ≤ cap := by simp at hc; omega
  obtain ⟨dd, hdd⟩ : ∃ dd, dd = sumF (f + 1) [d] := ⟨_, rfl⟩
  have hdl : dd.length = 8 := by rw [hdd]; rfl
  rw [← hdd]
  have HDD : Hid (dd = digB (0 :: d)) := hdd
  clear hdd
  go_enter Try.func67, Try.ntmps67
  go_wp2_with (refine wpList_load_mid (by rfl) 45 (.tmp 12) (by rfl) b o (by rfl) (d.map u8c) _ hr Try.underlying45 (by rfl) (by simpa [hd] using Try.infoDig) ?_)
  refine (sumOne_any d _ hd).mono ?_
  rintro e w5 ⟨rfl, hb5⟩
  rw [← HDD.out]
  have hK5 := hK.next hb5
  go_wp2_with (refine wp_storeD (by rfl) (.tmp 2) (.tmp 14) (by rfl) w.heap.size (by rfl) dd hdl (by rfl) hK5.2 (by rfl) ?_; intro w6 hR6 hf6 hz6)
  exact ret_dig (k := 2) rfl rfl hR6 hdl rfl ⟨rfl, hK5.1.trans (hf6.below (by have := hK5.2.lt; omega) (fun k hk => by omega))⟩
 | f + 1, x :: y :: r, a, cap, w, hf, h200, hc, hcap, hs => by
  have hK := KeepD.start w
  have hn2 : 2 ≤ (x :: y :: r).length := by simp
  have hhb := halfN_bd _ hn2
  obtain ⟨dd, hdd⟩ : ∃ dd, dd = sumF (f + 1) (x :: y :: r) := ⟨_, rfl⟩
  have hdl : dd.length = 8 := by rw [hdd]; rfl
  rw [← hdd]
  have HDD : Hid (dd = digB (1 :: (sumF f ((x :: y :: r).take (halfN (x :: y :: r).length)) ++ sumF f ((x :: y :: r).drop (halfN (x :: y :: r).length))))) := hdd
  clear hdd
  generalize (x :: y :: r) = l at *
  obtain ⟨b, o, rfl, hb, hcx⟩ := hs.1 0 (by rw [digsC_length _ hs.2]; omega)
  clear hcx
  have hhalf := first_any l.length
  have HH : Hid (∀ w : World, 2 ≤ l.length → l.length ≤ 200 → _) := hhalf
  clear hhalf
  generalize halfN l.length = k at *
  obtain ⟨hk1, hk2⟩ := hhb
  have e1 : (l.take k).length = k := by rw [List.length_take]; omega
  have e2 : (l.drop k).length = l.length - k := by rw [List.length_drop]
  have H1 : Hid (∀ W, KeepD w w.heap.size W → Calls Try.prog 67 #[.slice (some ⟨b, o, none⟩) k cap] W fun e w' => e = .returned (dV (sumF f (l.take k))) ∧ KeepD w w.heap.size w') := fun W hW => by
   have h := sumP_any f (l.take k) (some ⟨b, o, none⟩) cap W (by omega) (by omega) (by omega) hcap ((hs.below hW.1).take k (by omega))
   rw [e1] at h
   exact h.mono fun e w' ⟨he, hb'⟩ => ⟨he, hW.next hb'⟩
  have H2 : Hid (∀ W, KeepD w w.heap.size W → Calls Try.prog 67 #[.slice (some ⟨b, o + k * 8, none⟩) (l.length - k) (cap - k)] W fun e w' => e = .returned (dV (sumF f (l.drop k))) ∧ KeepD w w.heap.size w') := fun W hW => by
   have h := sumP_any f (l.drop k) (some ⟨b, o + k * 8, none⟩) (cap - k) W (by omega) (by omega) (by omega) (by omega) ((hs.below hW.1).drop k (by omega))
   rw [e2] at h
   exact h.mono fun e w' ⟨he, hb'⟩ => ⟨he, hW.next hb'⟩
  obtain ⟨f', rfl⟩ : ∃ f', f = f' + 1 := ⟨f - 1, by omega⟩
  have g1 : (sumF (f' + 1) (l.take k)).length = 8 := sumF_length _ _
  have g2 : (sumF (f' + 1) (l.drop k)).length = 8 := sumF_length _ _
  generalize sumF (f' + 1) (l.take k) = s1 at *
  generalize sumF (f' + 1) (l.drop k) = s2 at *
  obtain ⟨x0, x1, x2, x3, x4, x5, x6, x7, rfl⟩ := list8 dd hdl
  have hcapI : (l.length : Int) ≤ cap := by omega
  have hcapJ : (cap : Int) ≤ 9223372036854775807 := by omega
  have hkI1 : (1 : Int) ≤ k := by omega
  have hkI2 : (k : Int) < l.length := by omega
  have hln : ¬ (l.length : Int) = 0 := by omega
  have hne0 : ((l.length : Int) == 0) = false := by simpa using hln
  have hne1 : ((l.length : Int) == 1) = false := by simp; omega
  have hkc : ¬ cap = k := by omega
  clear hs e1 e2 hdl
  go_enter Try.func67, Try.ntmps67
  go_wp2_with fail
  refine (HH.out _ (by omega) (by omega)).mono ?_
  rintro e w1 ⟨rfl, rfl⟩
  have HV : Hid (dV [x0, x1, x2, x3, x4, x5, x6, x7] = .agg #[Value.int .u8 (x0.toNat : Int), Value.int .u8 (x1.toNat : Int), Value.int .u8 (x2.toNat : Int), Value.int .u8 (x3.toNat : Int), Value.int .u8 (x4.toNat : Int), Value.int .u8 (x5.toNat : Int), Value.int .u8 (x6.toNat : Int), Value.int .u8 (x7.toNat : Int)]) := rfl
  go_wp2
  go_region_with (first
   | (go_at_call_of 67 (Value.slice (some ⟨b, o, none⟩) k cap); refine (H1.out _ (by exact hK.drew)).mono ?_; rintro e w2 ⟨rfl, hK2⟩)
   | (go_at_call_of 67 (Value.slice (some ⟨b, o + k * 8, none⟩) (l.length - k) (cap - k)); refine (H2.out _ (by assumption)).mono ?_; rintro e w3 ⟨rfl, hK3⟩)
   | (go_at_call 88; refine (sumTwo_any s1 s2 _ g1 g2).mono ?_; rintro e w4 ⟨rfl, hb4⟩; rw [← HDD.out, HV.out]; have hK4 := KeepD.next hK3 hb4; have c0 : w4.cell? ⟨w.heap.size, 0, none⟩ = some (.int .u8 0) := hK4.2.cell 0 (by decide); have f0 : w4.frozen? ⟨w.heap.size, 0, none⟩ = false := hK4.2.frozen 0; have c1 : w4.cell? ⟨w.heap.size, 1, none⟩ = some (.int .u8 0) := hK4.2.cell 1 (by decide); have f1 : w4.frozen? ⟨w.heap.size, 1, none⟩ = false := hK4.2.frozen 1; have c2 : w4.cell? ⟨w.heap.size, 2, none⟩ = some (.int .u8 0) := hK4.2.cell 2 (by decide); have f2 : w4.frozen? ⟨w.heap.size, 2, none⟩ = false := hK4.2.frozen 2; have c3 : w4.cell? ⟨w.heap.size, 3, none⟩ = some (.int .u8 0) := hK4.2.cell 3 (by decide); have f3 : w4.frozen? ⟨w.heap.size, 3, none⟩ = false := hK4.2.frozen 3; have c4 : w4.cell? ⟨w.heap.size, 4, none⟩ = some (.int .u8 0) := hK4.2.cell 4 (by decide); have f4 : w4.frozen? ⟨w.heap.size, 4, none⟩ = false := hK4.2.frozen 4; have c5 : w4.cell? ⟨w.heap.size, 5, none⟩ = some (.int .u8 0) := hK4.2.cell 5 (by decide); have f5 : w4.frozen? ⟨w.heap.size, 5, none⟩ = false := hK4.2.frozen 5; have c6 : w4.cell? ⟨w.heap.size, 6, none⟩ = some (.int .u8 0) := hK4.2.cell 6 (by decide); have f6 : w4.frozen? ⟨w.heap.size, 6, none⟩ = false := hK4.2.frozen 6; have c7 : w4.cell? ⟨w.heap.size, 7, none⟩ = some (.int .u8 0) := hK4.2.cell 7 (by decide); have f7 : w4.frozen? ⟨w.heap.size, 7, none⟩ = false := hK4.2.frozen 7))
  all_goals
   go_wp2
   exact ret_dig (k := 2) (d := [x0, x1, x2, x3, x4, x5, x6, x7]) rfl rfl (by exact ((((((((hK4.2.set 0 _).set 1 _).set 2 _).set 3 _).set 4 _).set 5 _).set 6 _).set 7 _)) rfl rfl ⟨rfl, ((((((((hK4.1.setCell (by exact Nat.le_refl _) _).setCell (by exact Nat.le_refl _) _).setCell (by exact Nat.le_refl _) _).setCell (by exact Nat.le_refl _) _).setCell (by exact Nat.le_refl _) _).setCell (by exact Nat.le_refl _) _).setCell (by exact Nat.le_refl _) _).setCell (by exact Nat.le_refl _) _)⟩
end Go.Proofs.Ytekegfbjbainhaa
