/- The program's map of pages: looking up, an entry for a key, a store into it. -/
import Derived.Test.YtekegfbjbainhaaGreatKJoin9
import Derived.MapKept
namespace Go.Proofs.YtekegfbjbainhaaGreat
set_option linter.unusedVariables false
set_option linter.unusedSimpArgs false
open Go.RowKit

/-- A map's entries, as they lie. -/
structure MapIs (w : World) (m : Nat) (arr : Array MapEntry) (clock : Nat) (es : List MEn) : Prop where
  heap : w.heap[m]? = some (.map arr clock)
  kv : arr.toList.map (fun e => (e.key, e.val)) = es.map (fun e => (dV e.d, e.s.val))
  nodup : (arr.toList.map (·.born)).Nodup
  lt : ∀ e ∈ arr.toList, e.born < clock
theorem MapIs.len {w : World} {m : Nat} {arr : Array MapEntry} {clock : Nat} {es : List MEn} (h : MapIs w m arr clock es) : arr.size = es.length := by
  have := congrArg List.length h.kv
  simpa using this
theorem MapIs.at {w : World} {m : Nat} {arr : Array MapEntry} {clock : Nat} {es : List MEn} (h : MapIs w m arr clock es) (j : Nat) (e : MapEntry) (hj : arr.toList[j]? = some e) : ∃ f, es[j]? = some f ∧ e.key = dV f.d ∧ e.val = f.s.val := by
  have h1 : (arr.toList.map (fun e => (e.key, e.val)))[j]? = some (e.key, e.val) := by rw [List.getElem?_map, hj]; rfl
  rw [h.kv, List.getElem?_map] at h1
  cases hf : es[j]? with
  | none => rw [hf] at h1; simp at h1
  | some f =>
    rw [hf] at h1
    simp only [Option.map_some, Option.some.injEq, Prod.mk.injEq] at h1
    exact ⟨f, rfl, h1.1.symm, h1.2.symm⟩
theorem dV_inj {d e : List UInt8} (h : dV d = dV e) : d = e := by
  have h : d.map u8c = e.map u8c := by
    have := congrArg Array.toList (Value.agg.inj h)
    simpa using this
  have hj : ∀ x y : UInt8, u8c x = u8c y → x = y := fun x y hxy => by
    unfold u8c at hxy
    simp only [Value.int.injEq, true_and] at hxy
    exact UInt8.toNat_inj.1 (by omega)
  exact (List.map_inj_right hj).1 h
/-- What is found at a digest. -/
theorem find_dig {w : World} {m : Nat} {arr : Array MapEntry} {clock : Nat} {es : List MEn} (h : MapIs w m arr clock es) (h8 : ∀ e ∈ es, e.d.length = 8) (hk : (es.map (·.d)).Nodup) (d : List UInt8) (hd : d.length = 8) :
    ((∀ W, (Instr.findKey 36 (dV d) arr.toList).run Tryz.prog W = .ok none W) ∧ d ∉ es.map (·.d)) ∨ ∃ j e f, (∀ W, (Instr.findKey 36 (dV d) arr.toList).run Tryz.prog W = .ok (some (j, e.val)) W) ∧ arr.toList[j]? = some e ∧ es[j]? = some f ∧ e.key = dV d ∧ f.d = d ∧ e.val = f.s.val := by
  obtain ⟨l, hl⟩ := keyOf_dig d hd
  have hall : ∀ e ∈ arr.toList, ∃ l, keyOf Tryz.prog 36 e.key = some l := fun e he => by
    obtain ⟨j, hj⟩ := List.getElem?_of_mem he
    obtain ⟨f, hf, hk, _⟩ := h.at j e hj
    rw [hk]; exact keyOf_dig f.d (h8 f (List.mem_of_getElem? hf))
  by_cases hin : d ∈ es.map (·.d)
  · obtain ⟨j, hj⟩ := List.getElem?_of_mem hin
    have hjl : j < arr.toList.length := by
      have h1 := h.len
      have h2 := (List.getElem?_eq_some_iff.1 hj).1
      simp at h2 ⊢; omega
    have he : arr.toList[j]? = some arr.toList[j] := List.getElem?_eq_getElem hjl
    obtain ⟨f, hf, hkf, hv⟩ := h.at j _ he
    have hfd : f.d = d := by
      rw [List.getElem?_map, hf] at hj
      exact Option.some.inj hj
    refine Or.inr ⟨j, arr.toList[j], f, fun W => ?_, he, hf, by rw [hkf, hfd], hfd, hv⟩
    rcases Tryz.digLaw.find W hl arr.toList hall with ⟨_, g⟩ | ⟨j', e', g, g2, g3⟩
    · exact absurd (by rw [hkf, hfd]) (g arr.toList[j] (List.getElem_mem hjl))
    · obtain ⟨f', hf', hk', _⟩ := h.at j' e' g2
      have hd' : f'.d = d := dV_inj (hk'.symm.trans g3)
      have hjj : j' = j := by
        have e1 : (es.map (·.d))[j']? = some d := by rw [List.getElem?_map, hf']; simp [hd']
        obtain ⟨p1, q1⟩ := List.getElem?_eq_some_iff.1 e1
        obtain ⟨p2, q2⟩ := List.getElem?_eq_some_iff.1 hj
        exact (List.getElem_inj hk).1 (q1.trans q2.symm)
      subst hjj
      rw [he] at g2
      rw [g, ← Option.some.inj g2]
  · refine Or.inl ⟨fun W => ?_, hin⟩
    rcases Tryz.digLaw.find W hl arr.toList hall with ⟨g, _⟩ | ⟨j', e', g, g2, g3⟩
    · exact g
    · obtain ⟨f', hf', hk', _⟩ := h.at j' e' g2
      exact absurd (List.mem_map.2 ⟨f', List.mem_of_getElem? hf', dV_inj (hk'.symm.trans g3)⟩) hin
theorem Tryz.undMap : Tryz.prog.underlying 125 = some (.map 36 128) := Tryz.underlying125
theorem Tryz.zeroNodes (w : World) : (zeroValue 128).run Tryz.prog w = .ok (.slice none 0 0) w := by kernel_rfl

/-- m[d], read. -/
theorem lookup_dig {w : World} {sb N : Nat} {mp : Option Nat} {es : List MEn} (K : KnownAt w sb mp es N) (d : List UInt8) (hd : d.length = 8) :
    ∃ (s : SlR) (ns : List Nd), (∀ q : Nat, (Instr.lookup 125 (.map mp) (dV d) false).run Tryz.prog (w.drewN q) = .ok (.slice s.a s.n s.cap) (w.drewN q)) ∧ SlV w s.a (ns.map (fun x => ptrV x.b)) ∧ s.n = ns.length ∧ ns.length ≤ N ∧ (∀ x ∈ ns, NdOk w x ∧ (∀ k, ndF x k → ¬ KMut sb mp es k) ∧ ∃ e ∈ es, x ∈ e.ns) := by
  obtain ⟨l, hl⟩ := keyOf_dig d hd
  cases mp with
  | none =>
    refine ⟨⟨none, 0, 0⟩, [], fun q => ?_, SlV.nil _ _, rfl, Nat.zero_le _, fun x hx => by cases hx⟩
    have hc := Tryz.digLaw.check (w.drewN q) true hl
    have hf := Tryz.digLaw.find (w.drewN q) hl [] (fun e he => by cases he)
    rcases hf with ⟨hf, _⟩ | ⟨j, e, _, h2, _⟩
    · simp [Instr.lookup, run_underlying Tryz.undMap, hc, hf, Tryz.zeroNodes, Result.andThen]
    · simp at h2
  | some m =>
    obtain ⟨arr, clock, hh, hkv, hnd, hlt⟩ := K.map
    have hM : MapIs w m arr clock es := ⟨hh, hkv, hnd, hlt⟩
    have hget : ∀ q, (getObj m).run Tryz.prog (w.drewN q) = .ok (.map arr clock) (w.drewN q) := fun q => MapKept.run_getObj_map (w := w.drewN q) hh
    have hchk : ∀ q em, (Instr.checkKey em 10000 36 (dV d)).run Tryz.prog (w.drewN q) = .ok () (w.drewN q) := fun q em => Tryz.digLaw.check (w.drewN q) em hl
    rcases find_dig hM K.d8 K.kd d hd with ⟨hno, _⟩ | ⟨j, e, f, hyes, h2, hf, h3, h4, h5⟩
    · refine ⟨⟨none, 0, 0⟩, [], fun q => ?_, SlV.nil _ _, rfl, Nat.zero_le _, fun x hx => by cases hx⟩
      simp [Instr.lookup, run_underlying Tryz.undMap, hget, hchk, hno, Tryz.zeroNodes, Result.andThen]
    · have hfm := List.mem_of_getElem? hf
      obtain ⟨hs1, hs2⟩ := SlV.ofOwn (s := f.s) (K.own f hfm)
      refine ⟨f.s, f.ns, fun q => ?_, hs1, hs2, K.cnt f hfm, fun x hx => ⟨K.nodes f hfm x hx, K.foot f hfm x hx, f, hfm, hx⟩⟩
      simp [Instr.lookup, run_underlying Tryz.undMap, hget, hchk, hyes, Result.andThen, h5, SlR.val]

/-- The entry for a key: the one that is there, or a new one; where the map is then. -/
theorem mapEntry_dig {w : World} {m : Nat} {arr : Array MapEntry} {clock : Nat} {es : List MEn} (h : MapIs w m arr clock es) (h8 : ∀ e ∈ es, e.d.length = 8) (hk : (es.map (·.d)).Nodup) (d : List UInt8) (hd : d.length = 8) :
    ∃ (W2 : World) (arr2 : Array MapEntry) (clock2 : Nat) (es2 : List MEn) (j : Nat) (f : MEn) (born : Nat), (Instr.mapEntry 125 (.map (some m)) (dV d)).run Tryz.prog w = .ok (.tuple #[.slice f.s.a f.s.n f.s.cap, .int .i64 (born : Int)]) W2 ∧
      MapIs W2 m arr2 clock2 es2 ∧ es2[j]? = some f ∧ f.d = d ∧ arr2.toList[j]?.map (·.born) = some born ∧ (es2 = es ∨ (d ∉ es.map (·.d) ∧ f = ⟨d, ⟨none, 0, 0⟩, []⟩ ∧ es2 = es ++ [f])) ∧ Frame (fun k => k = m) w W2 ∧ W2.heap.size = w.heap.size := by
  obtain ⟨l, hl⟩ := keyOf_dig d hd
  have hget : (getObj m).run Tryz.prog w = .ok (.map arr clock) w := MapKept.run_getObj_map h.heap
  have hchk : (Instr.checkKey false 10000 36 (dV d)).run Tryz.prog w = .ok () w := Tryz.digLaw.check w false hl
  have hset : ∀ o : Obj, (setObj m o).run Tryz.prog w = .ok () { w with heap := w.heap.setIfInBounds m o } := fun o => MapKept.run_setObj_map o h.heap
  have hfr : ∀ o : Obj, Frame (fun k => k = m) w { w with heap := w.heap.setIfInBounds m o } := fun o => ⟨rfl, rfl, rfl, by simp, fun k hk hne => (MapKept.heap_set h.heap).2 k hne⟩
  rcases find_dig h h8 hk d hd with ⟨hno, hni⟩ | ⟨j, e, f, hyes, h2, hf, h3, h4, h5⟩
  · refine ⟨_, arr.push { key := dV d, val := .slice none 0 0, born := clock }, clock + 1, es ++ [⟨d, ⟨none, 0, 0⟩, []⟩], es.length, ⟨d, ⟨none, 0, 0⟩, []⟩, clock, ?_, ?_, ?_, rfl, ?_, Or.inr ⟨hni, rfl, rfl⟩, hfr (.map (arr.push { key := dV d, val := .slice none 0 0, born := clock }) (clock + 1)), by simp⟩
    · simp [Instr.mapEntry, run_underlying Tryz.undMap, hget, hchk, hno, Tryz.zeroNodes, hset, Result.andThen, goInt]
    · refine ⟨(MapKept.heap_set h.heap).1, ?_, ?_, ?_⟩
      · simp [h.kv, SlR.val]
      · rw [Array.toList_push, List.map_append]
        simp only [List.map_cons, List.map_nil]
        rw [List.nodup_append]
        refine ⟨h.nodup, by simp, ?_⟩
        intro x hx y hy
        simp only [List.mem_singleton] at hy
        obtain ⟨e, he, rfl⟩ := List.mem_map.1 hx
        have := h.lt e he
        omega
      · intro e he
        rw [Array.toList_push] at he
        rcases List.mem_append.1 he with he | he
        · have := h.lt e he; omega
        · simp only [List.mem_singleton] at he; subst he; simp
    · simp
    · have := h.len
      rw [Array.toList_push, List.getElem?_append_right (by simp; omega)]
      simp [this]
  · have hst := Tryz.digLaw.stays w hl
    have hj : arr[j]? = some e := by simpa using h2
    have hmod : arr.modify j (fun e => { e with key := dV d }) = arr := by
      apply Array.ext'
      apply List.ext_getElem?
      intro i
      rw [Array.getElem?_toList, Array.getElem?_toList, Array.getElem?_modify]
      by_cases hij : j = i
      · subst hij
        rw [if_pos rfl, hj]
        simp only [Option.map_some]
        rw [← h3]
      · rw [if_neg hij]
    refine ⟨_, arr, clock, es, j, f, e.born, ?_, ?_, hf, h4, by rw [h2]; rfl, Or.inl rfl, hfr (.map arr clock), by simp⟩
    · simp [Instr.mapEntry, run_underlying Tryz.undMap, hget, hchk, hyes, hj, h3, hst, hset, Result.andThen, goInt, h5, SlR.val]
      rw [hmod]
    · exact ⟨(MapKept.heap_set h.heap).1, h.kv, h.nodup, h.lt⟩

/-- A store into the entry that was found. -/
theorem entryStore_dig {w : World} {m : Nat} {arr : Array MapEntry} {clock : Nat} {es : List MEn} (h : MapIs w m arr clock es) {j born : Nat} {f g : MEn} (hf : es[j]? = some f) (hb : arr.toList[j]?.map (·.born) = some born) (hd : g.d = f.d) :
    ∃ (W2 : World) (arr2 : Array MapEntry), (Instr.entryStore 125 (.map (some m)) (.int .i64 (born : Int)) (.slice g.s.a g.s.n g.s.cap)).run Tryz.prog w = .ok () W2 ∧ MapIs W2 m arr2 clock (es.set j g) ∧ Frame (fun k => k = m) w W2 ∧ W2.heap.size = w.heap.size := by
  have hget : (getObj m).run Tryz.prog w = .ok (.map arr clock) w := MapKept.run_getObj_map h.heap
  have hset : ∀ o : Obj, (setObj m o).run Tryz.prog w = .ok () { w with heap := w.heap.setIfInBounds m o } := fun o => MapKept.run_setObj_map o h.heap
  have hfr : ∀ o : Obj, Frame (fun k => k = m) w { w with heap := w.heap.setIfInBounds m o } := fun o => ⟨rfl, rfl, rfl, by simp, fun k hk hne => (MapKept.heap_set h.heap).2 k hne⟩
  cases he : arr.toList[j]? with
  | none => rw [he] at hb; cases hb
  | some e =>
    rw [he] at hb
    have hbe : e.born = born := by simpa using hb
    obtain ⟨hjl, hje⟩ := List.getElem?_eq_some_iff.1 he
    have hidx : arr.findIdx? (fun e => (e.born : Int) == (born : Int)) = some j := by
      rw [Array.findIdx?_eq_some_iff_getElem]
      refine ⟨by simpa using hjl, ?_, ?_⟩
      · have : arr[j]'(by simpa using hjl) = e := by simpa using hje
        rw [this, hbe]; simp
      · intro i hi
        have hnn := h.nodup
        have hil : i < arr.toList.length := by omega
        have hne : ¬ arr.toList[i].born = arr.toList[j].born := fun e2 => by
          have := (List.getElem_inj (i := i) (j := j) (h₀ := by simpa using hil) (h₁ := by simpa using hjl) hnn).1 (by simpa using e2)
          omega
        rw [hje, hbe] at hne
        have hne' : ¬ ((arr[i]'(by simpa using hil)).born : Int) = (born : Int) := by
          intro e2
          apply hne
          have := Int.ofNat_inj.1 e2
          simpa using this
        simpa using hne'
    refine ⟨_, arr.modify j (fun e => { e with val := .slice g.s.a g.s.n g.s.cap }), ?_, ?_, hfr (.map (arr.modify j (fun e => { e with val := .slice g.s.a g.s.n g.s.cap })) clock), by simp⟩
    · simp [Instr.entryStore, hget, asInt, asIntOf, hidx, hset, Result.andThen]
    · have hml : ∀ {α : Type} (F : MapEntry → α) (i : Nat), ((arr.modify j (fun e => { e with val := .slice g.s.a g.s.n g.s.cap })).toList.map F)[i]? = if j = i then (arr.toList[i]?).map (fun e => F { e with val := .slice g.s.a g.s.n g.s.cap }) else (arr.toList[i]?).map F := fun F i => by
        rw [List.getElem?_map, Array.getElem?_toList, Array.getElem?_modify]
        by_cases hij : j = i
        · rw [if_pos hij, if_pos hij, ← Array.getElem?_toList]; cases arr.toList[i]? <;> rfl
        · rw [if_neg hij, if_neg hij, ← Array.getElem?_toList]
      refine ⟨(MapKept.heap_set h.heap).1, ?_, ?_, ?_⟩
      · apply List.ext_getElem?
        intro i
        rw [hml]
        have hkv : (arr.toList.map (fun e => (e.key, e.val)))[i]? = (es.map (fun e => (dV e.d, e.s.val)))[i]? := by rw [h.kv]
        rw [List.getElem?_map, List.getElem?_map] at hkv
        rw [List.getElem?_map]
        by_cases hij : j = i
        · subst hij
          rw [if_pos rfl, he]
          rw [he, hf] at hkv
          simp only [Option.map_some, Option.some.injEq, Prod.mk.injEq] at hkv
          have hjes := (List.getElem?_eq_some_iff.1 hf).1
          rw [List.getElem?_set_self hjes]
          simp [hkv.1, hd, SlR.val]
        · rw [if_neg hij, List.getElem?_set_ne hij]
          exact hkv
      · have : (arr.modify j (fun e => { e with val := .slice g.s.a g.s.n g.s.cap })).toList.map (·.born) = arr.toList.map (·.born) := by
          apply List.ext_getElem?
          intro i
          rw [hml, List.getElem?_map]
          split <;> rfl
        rw [this]; exact h.nodup
      · intro x hx
        have : x.born ∈ arr.toList.map (·.born) := by
          have h1 : (arr.modify j (fun e => { e with val := .slice g.s.a g.s.n g.s.cap })).toList.map (·.born) = arr.toList.map (·.born) := by
            apply List.ext_getElem?
            intro i
            rw [hml, List.getElem?_map]
            split <;> rfl
          rw [← h1]; exact List.mem_map.2 ⟨x, hx, rfl⟩
        obtain ⟨y, hy, hxy⟩ := List.mem_map.1 this
        rw [← hxy]; exact h.lt y hy
end Go.Proofs.YtekegfbjbainhaaGreat
