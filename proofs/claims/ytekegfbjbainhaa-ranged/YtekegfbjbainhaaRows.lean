/-
  No cell of these rows narrows 'for every input' (looked for: loops, veiled, ifaces, maps, wideKeys, modest, calm, conditions, laid).
  DERIVED. THE GIVEN ROWS OF THIS SEAT. 5 by the template 'for every input the law returns true; each argument reads behind the call as it read before'; 0 by the template 'total and deterministic' (their statements: YtekegfbjbainhaaTotals.lean).
  GIVEN WITH THE SEED: the statements are not yours to turn. If you find one false, say at which input.
  Laid BY PROGRAM, IN A SANDBOX (cutbox-rows.mjs): the forced cells as the released guide's own fill.sh prints them over the translation fc3d267f1787a311… (all of the seat's roots in one cut). By AI agents, Wed Nov 11 2026. No macro, syntax, notation, axiom, sorry.
-/
import Derived.Test.YtekegfbjbainhaaChecked
import GoSem.Claim
import GoSem.ClaimJoined
import GoSem.ClaimMapViews
import Derived.JoinedTies
import Derived.KernelRfl
namespace Go.Proofs.Ytekegfbjbainhaa
/- THE CELL 'sum', in the pinned program and in every row, IS THE sha256 OF THE DUMP (.gsa) THAT YtekegfbjbainhaaProg.lean LOADS. Nothing in Lean hashes anything: it is a label: what it is worth is what the hold of that sum in a sandbox is worth. -/
noncomputable def Try.pinned : Pinned := { name := "ytekegfbjbainhaa", sum := "fc3d267f1787a311ba2f585f697f61b604a857a54cde0f3b3191ad63be627b25", checked := Try.checked }
namespace Rows
def none {H : Type} : Left H := { results := [], args := [] }

/-- 'cairnkeep.Fixed': WHATEVER THE INPUT: true; the input reads as it did. -/
def fixedSpec : ChangeSpec := { name := "fixed", fn := fun _ => fun
  | [d1, d2] => { results := [.lit (.bool true)], args := [d1, d2] }
  | _ => none }
def fixedRow : OpenClaim := { program := "ytekegfbjbainhaa", sum := "fc3d267f1787a311ba2f585f697f61b604a857a54cde0f3b3191ad63be627b25", func := "cairn/cairnkeep.Fixed", spec := "fixed", inPlace := ["internal/bytealg.Compare"], unfollowed := true, recurses := true, plainKeys := false, apart := false }
def FixedSaid : Prop := fixedRow.holds Try.pinned (OpenSpec.ofChange fixedSpec)

/-- ITS FALSE NEIGHBOUR: 'it returns false'. Refute it at one input. -/
def fixedWrong : ChangeSpec := { name := "fixed", fn := fun _ => fun
  | [d1, d2] => { results := [.lit (.bool false)], args := [d1, d2] }
  | _ => none }
def FixedWrongFalsely : Prop := fixedRow.holds Try.pinned (OpenSpec.ofChange fixedWrong)

/-- 'cairnkeep.Complete': WHATEVER THE INPUT: true; the input reads as it did. -/
def completeSpec : ChangeSpec := { name := "complete", fn := fun _ => fun
  | [d1, d2, d3, d4] => { results := [.lit (.bool true)], args := [d1, d2, d3, d4] }
  | _ => none }
def completeRow : OpenClaim := { program := "ytekegfbjbainhaa", sum := "fc3d267f1787a311ba2f585f697f61b604a857a54cde0f3b3191ad63be627b25", func := "cairn/cairnkeep.Complete", spec := "complete", inPlace := ["internal/bytealg.Compare"], unfollowed := true, recurses := true, plainKeys := false, apart := false }
def CompleteSaid : Prop := completeRow.holds Try.pinned (OpenSpec.ofChange completeSpec)

/-- ITS FALSE NEIGHBOUR: 'it returns false'. Refute it at one input. -/
def completeWrong : ChangeSpec := { name := "complete", fn := fun _ => fun
  | [d1, d2, d3, d4] => { results := [.lit (.bool false)], args := [d1, d2, d3, d4] }
  | _ => none }
def CompleteWrongFalsely : Prop := completeRow.holds Try.pinned (OpenSpec.ofChange completeWrong)

/-- 'cairnkeep.Sound': WHATEVER THE INPUT: true; the input reads as it did. -/
def soundSpec : ChangeSpec := { name := "sound", fn := fun _ => fun
  | [d1, d2, d3, d4, d5, d6] => { results := [.lit (.bool true)], args := [d1, d2, d3, d4, d5, d6] }
  | _ => none }
def soundRow : OpenClaim := { program := "ytekegfbjbainhaa", sum := "fc3d267f1787a311ba2f585f697f61b604a857a54cde0f3b3191ad63be627b25", func := "cairn/cairnkeep.Sound", spec := "sound", inPlace := ["internal/bytealg.Compare"], unfollowed := true, recurses := true, plainKeys := false, apart := false }
def SoundSaid : Prop := soundRow.holds Try.pinned (OpenSpec.ofChange soundSpec)

/-- ITS FALSE NEIGHBOUR: 'it returns false'. Refute it at one input. -/
def soundWrong : ChangeSpec := { name := "sound", fn := fun _ => fun
  | [d1, d2, d3, d4, d5, d6] => { results := [.lit (.bool false)], args := [d1, d2, d3, d4, d5, d6] }
  | _ => none }
def SoundWrongFalsely : Prop := soundRow.holds Try.pinned (OpenSpec.ofChange soundWrong)

/-- 'cairnkeep.Ranged': WHATEVER THE INPUT: true; the input reads as it did. -/
def rangedSpec : ChangeSpec := { name := "ranged", fn := fun _ => fun
  | [d1, d2, d3, d4, d5, d6, d7] => { results := [.lit (.bool true)], args := [d1, d2, d3, d4, d5, d6, d7] }
  | _ => none }
def rangedRow : OpenClaim := { program := "ytekegfbjbainhaa", sum := "fc3d267f1787a311ba2f585f697f61b604a857a54cde0f3b3191ad63be627b25", func := "cairn/cairnkeep.Ranged", spec := "ranged", inPlace := ["internal/bytealg.Compare"], unfollowed := true, recurses := true, plainKeys := false, apart := false }
def RangedSaid : Prop := rangedRow.holds Try.pinned (OpenSpec.ofChange rangedSpec)

/-- ITS FALSE NEIGHBOUR: 'it returns false'. Refute it at one input. -/
def rangedWrong : ChangeSpec := { name := "ranged", fn := fun _ => fun
  | [d1, d2, d3, d4, d5, d6, d7] => { results := [.lit (.bool false)], args := [d1, d2, d3, d4, d5, d6, d7] }
  | _ => none }
def RangedWrongFalsely : Prop := rangedRow.holds Try.pinned (OpenSpec.ofChange rangedWrong)

/-- 'cairnkeep.Grown': WHATEVER THE INPUT: true; the input reads as it did. -/
def grownSpec : ChangeSpec := { name := "grown", fn := fun _ => fun
  | [d1, d2, d3, d4, d5, d6, d7] => { results := [.lit (.bool true)], args := [d1, d2, d3, d4, d5, d6, d7] }
  | _ => none }
def grownRow : OpenClaim := { program := "ytekegfbjbainhaa", sum := "fc3d267f1787a311ba2f585f697f61b604a857a54cde0f3b3191ad63be627b25", func := "cairn/cairnkeep.Grown", spec := "grown", inPlace := ["internal/bytealg.Compare"], unfollowed := true, recurses := true, plainKeys := false, apart := false }
def GrownSaid : Prop := grownRow.holds Try.pinned (OpenSpec.ofChange grownSpec)

/-- ITS FALSE NEIGHBOUR: 'it returns false'. Refute it at one input. -/
def grownWrong : ChangeSpec := { name := "grown", fn := fun _ => fun
  | [d1, d2, d3, d4, d5, d6, d7] => { results := [.lit (.bool false)], args := [d1, d2, d3, d4, d5, d6, d7] }
  | _ => none }
def GrownWrongFalsely : Prop := grownRow.holds Try.pinned (OpenSpec.ofChange grownWrong)

/- THE SECOND FORM. 'bulk': how many values and letters a reading holds, each counted each time it is reached (what is shared counts as often as it is met; a slice's spare places count too). A statement '..UptoSaid' is the law's where the arguments, and the package variables that the reading takes, are together of bulk at most 1048576: NARROWER than '..Said'. Prove '..Said' where nothing that the law and all that it calls make is longer than what came in: it says more and counts as full. Else prove '..UptoSaid'. A law counts once. -/
mutual
def uptoBulk {H : Type} : DataW H → Nat
  | .lit (.string bytes) => bytes.length + 1
  | .lit _ => 1
  | .nil => 1
  | .ptr d => uptoBulk d + 1
  | .slice elems spare => uptoBulkAll elems + uptoBulkAll spare + 1
  | .agg parts => uptoBulkAll parts + 1
  | .iface _ d => uptoBulk d + 1
  | .map entries => uptoBulkEntries entries + 1
  | .held _ => 1
def uptoBulkAll {H : Type} : List (DataW H) → Nat
  | [] => 0
  | d :: r => uptoBulk d + uptoBulkAll r
def uptoBulkEntries {H : Type} : List (Lit × DataW H) → Nat
  | [] => 0
  | x :: r => uptoBulkEntry x + uptoBulkEntries r
def uptoBulkEntry {H : Type} : Lit × DataW H → Nat
  | (.string bytes, d) => bytes.length + uptoBulk d + 1
  | (_, d) => uptoBulk d + 1
 end
def uptoSmall : (H : Type) → List (DataW H) → Bool := fun _ ds => decide (uptoBulkAll ds ≤ 1048576)
def OpenSpec.upto (s : _root_.Go.ChangeSpec) : _root_.Go.OpenSpec := { _root_.Go.OpenSpec.ofChange s with cond := some uptoSmall }

/-- 'cairnkeep.Fixed', WHERE WHAT IT READS IS OF BULK AT MOST 1048576: true; the input reads as it did. -/
def fixedUptoRow : OpenClaim := { program := "ytekegfbjbainhaa", sum := "fc3d267f1787a311ba2f585f697f61b604a857a54cde0f3b3191ad63be627b25", func := "cairn/cairnkeep.Fixed", spec := "fixed", inPlace := ["internal/bytealg.Compare"], unfollowed := true, recurses := true, plainKeys := false, apart := false, narrowed := true }
def FixedUptoSaid : Prop := fixedUptoRow.holds Try.pinned (OpenSpec.upto fixedSpec)

/-- 'cairnkeep.Complete', WHERE WHAT IT READS IS OF BULK AT MOST 1048576: true; the input reads as it did. -/
def completeUptoRow : OpenClaim := { program := "ytekegfbjbainhaa", sum := "fc3d267f1787a311ba2f585f697f61b604a857a54cde0f3b3191ad63be627b25", func := "cairn/cairnkeep.Complete", spec := "complete", inPlace := ["internal/bytealg.Compare"], unfollowed := true, recurses := true, plainKeys := false, apart := false, narrowed := true }
def CompleteUptoSaid : Prop := completeUptoRow.holds Try.pinned (OpenSpec.upto completeSpec)

/-- 'cairnkeep.Sound', WHERE WHAT IT READS IS OF BULK AT MOST 1048576: true; the input reads as it did. -/
def soundUptoRow : OpenClaim := { program := "ytekegfbjbainhaa", sum := "fc3d267f1787a311ba2f585f697f61b604a857a54cde0f3b3191ad63be627b25", func := "cairn/cairnkeep.Sound", spec := "sound", inPlace := ["internal/bytealg.Compare"], unfollowed := true, recurses := true, plainKeys := false, apart := false, narrowed := true }
def SoundUptoSaid : Prop := soundUptoRow.holds Try.pinned (OpenSpec.upto soundSpec)

/-- 'cairnkeep.Ranged', WHERE WHAT IT READS IS OF BULK AT MOST 1048576: true; the input reads as it did. -/
def rangedUptoRow : OpenClaim := { program := "ytekegfbjbainhaa", sum := "fc3d267f1787a311ba2f585f697f61b604a857a54cde0f3b3191ad63be627b25", func := "cairn/cairnkeep.Ranged", spec := "ranged", inPlace := ["internal/bytealg.Compare"], unfollowed := true, recurses := true, plainKeys := false, apart := false, narrowed := true }
def RangedUptoSaid : Prop := rangedUptoRow.holds Try.pinned (OpenSpec.upto rangedSpec)

/-- 'cairnkeep.Grown', WHERE WHAT IT READS IS OF BULK AT MOST 1048576: true; the input reads as it did. -/
def grownUptoRow : OpenClaim := { program := "ytekegfbjbainhaa", sum := "fc3d267f1787a311ba2f585f697f61b604a857a54cde0f3b3191ad63be627b25", func := "cairn/cairnkeep.Grown", spec := "grown", inPlace := ["internal/bytealg.Compare"], unfollowed := true, recurses := true, plainKeys := false, apart := false, narrowed := true }
def GrownUptoSaid : Prop := grownUptoRow.holds Try.pinned (OpenSpec.upto grownSpec)

end Rows
end Go.Proofs.Ytekegfbjbainhaa
