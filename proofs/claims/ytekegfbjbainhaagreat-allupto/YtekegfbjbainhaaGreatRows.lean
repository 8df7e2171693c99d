/-
  No cell of these rows narrows 'for every input' (looked for: loops, veiled, ifaces, maps, wideKeys, modest, calm, conditions, laid).
  DERIVED. THE GIVEN ROWS OF THIS SEAT. 6 by the template 'for every input the law returns true; each argument reads behind the call as it read before'; 0 by the template 'total and deterministic' (their statements: YtekegfbjbainhaaGreatTotals.lean).
  GIVEN WITH THE SEED: the statements are not yours to turn. If you find one false, say at which input.
  Laid BY PROGRAM, IN A SANDBOX (cutbox-rows.mjs): the forced cells as the released guide's own fill.sh prints them over the translation e13167ae805c1eec… (all of the seat's roots in one cut). By AI agents, Wed Nov 11 2026. No macro, syntax, notation, axiom, sorry.
-/
import Derived.Test.YtekegfbjbainhaaGreatChecked
import GoSem.Claim
import GoSem.ClaimJoined
import GoSem.ClaimMapViews
import Derived.JoinedTies
import Derived.KernelRfl
namespace Go.Proofs.YtekegfbjbainhaaGreat
/- THE CELL 'sum', in the pinned program and in every row, IS THE sha256 OF THE DUMP (.gsa) THAT YtekegfbjbainhaaGreatProg.lean LOADS. Nothing in Lean hashes anything: it is a label: what it is worth is what the hold of that sum in a sandbox is worth. -/
noncomputable def Tryz.pinned : Pinned := { name := "ytekegfbjbainhaagreat", sum := "e13167ae805c1eec6a95e109596a2a6b4a38596527609b1d073a501c3d362d44", checked := Tryz.checked }
namespace Rows
def none {H : Type} : Left H := { results := [], args := [] }

/-- 'cairnlaw.Digested': WHATEVER THE INPUT: true; the input reads as it did. -/
def digestedSpec : ChangeSpec := { name := "digested", fn := fun _ => fun
  | [d] => { results := [.lit (.bool true)], args := [d] }
  | _ => none }
def digestedRow : OpenClaim := { program := "ytekegfbjbainhaagreat", sum := "e13167ae805c1eec6a95e109596a2a6b4a38596527609b1d073a501c3d362d44", func := "cairn/cairnlaw.Digested", spec := "digested", inPlace := ["internal/bytealg.Compare"], unfollowed := true, recurses := true, plainKeys := false, apart := false }
def DigestedSaid : Prop := digestedRow.holds Tryz.pinned (OpenSpec.ofChange digestedSpec)

/-- ITS FALSE NEIGHBOUR: 'it returns false'. Refute it at one input. -/
def digestedWrong : ChangeSpec := { name := "digested", fn := fun _ => fun
  | [d] => { results := [.lit (.bool false)], args := [d] }
  | _ => none }
def DigestedWrongFalsely : Prop := digestedRow.holds Tryz.pinned (OpenSpec.ofChange digestedWrong)

/-- 'cairnlaw.Stored': WHATEVER THE INPUT: true; the input reads as it did. -/
def storedSpec : ChangeSpec := { name := "stored", fn := fun _ => fun
  | [d] => { results := [.lit (.bool true)], args := [d] }
  | _ => none }
def storedRow : OpenClaim := { program := "ytekegfbjbainhaagreat", sum := "e13167ae805c1eec6a95e109596a2a6b4a38596527609b1d073a501c3d362d44", func := "cairn/cairnlaw.Stored", spec := "stored", inPlace := ["internal/bytealg.Compare"], unfollowed := true, recurses := true, plainKeys := false, apart := false }
def StoredSaid : Prop := storedRow.holds Tryz.pinned (OpenSpec.ofChange storedSpec)

/-- ITS FALSE NEIGHBOUR: 'it returns false'. Refute it at one input. -/
def storedWrong : ChangeSpec := { name := "stored", fn := fun _ => fun
  | [d] => { results := [.lit (.bool false)], args := [d] }
  | _ => none }
def StoredWrongFalsely : Prop := storedRow.holds Tryz.pinned (OpenSpec.ofChange storedWrong)

/-- 'cairnlaw.Proved': WHATEVER THE INPUT: true; the input reads as it did. -/
def provedSpec : ChangeSpec := { name := "proved", fn := fun _ => fun
  | [d] => { results := [.lit (.bool true)], args := [d] }
  | _ => none }
def provedRow : OpenClaim := { program := "ytekegfbjbainhaagreat", sum := "e13167ae805c1eec6a95e109596a2a6b4a38596527609b1d073a501c3d362d44", func := "cairn/cairnlaw.Proved", spec := "proved", inPlace := ["internal/bytealg.Compare"], unfollowed := true, recurses := true, plainKeys := false, apart := false }
def ProvedSaid : Prop := provedRow.holds Tryz.pinned (OpenSpec.ofChange provedSpec)

/-- ITS FALSE NEIGHBOUR: 'it returns false'. Refute it at one input. -/
def provedWrong : ChangeSpec := { name := "proved", fn := fun _ => fun
  | [d] => { results := [.lit (.bool false)], args := [d] }
  | _ => none }
def ProvedWrongFalsely : Prop := provedRow.holds Tryz.pinned (OpenSpec.ofChange provedWrong)

/-- 'cairnlaw.Checked': WHATEVER THE INPUT: true; the input reads as it did. -/
def checkedSpec : ChangeSpec := { name := "checked", fn := fun _ => fun
  | [d] => { results := [.lit (.bool true)], args := [d] }
  | _ => none }
def checkedRow : OpenClaim := { program := "ytekegfbjbainhaagreat", sum := "e13167ae805c1eec6a95e109596a2a6b4a38596527609b1d073a501c3d362d44", func := "cairn/cairnlaw.Checked", spec := "checked", inPlace := ["internal/bytealg.Compare"], unfollowed := true, recurses := true, plainKeys := false, apart := false }
def CheckedSaid : Prop := checkedRow.holds Tryz.pinned (OpenSpec.ofChange checkedSpec)

/-- ITS FALSE NEIGHBOUR: 'it returns false'. Refute it at one input. -/
def checkedWrong : ChangeSpec := { name := "checked", fn := fun _ => fun
  | [d] => { results := [.lit (.bool false)], args := [d] }
  | _ => none }
def CheckedWrongFalsely : Prop := checkedRow.holds Tryz.pinned (OpenSpec.ofChange checkedWrong)

/-- 'cairnlaw.Logged': WHATEVER THE INPUT: true; the input reads as it did. -/
def loggedSpec : ChangeSpec := { name := "logged", fn := fun _ => fun
  | [d] => { results := [.lit (.bool true)], args := [d] }
  | _ => none }
def loggedRow : OpenClaim := { program := "ytekegfbjbainhaagreat", sum := "e13167ae805c1eec6a95e109596a2a6b4a38596527609b1d073a501c3d362d44", func := "cairn/cairnlaw.Logged", spec := "logged", inPlace := ["internal/bytealg.Compare"], unfollowed := true, recurses := true, plainKeys := false, apart := false }
def LoggedSaid : Prop := loggedRow.holds Tryz.pinned (OpenSpec.ofChange loggedSpec)

/-- ITS FALSE NEIGHBOUR: 'it returns false'. Refute it at one input. -/
def loggedWrong : ChangeSpec := { name := "logged", fn := fun _ => fun
  | [d] => { results := [.lit (.bool false)], args := [d] }
  | _ => none }
def LoggedWrongFalsely : Prop := loggedRow.holds Tryz.pinned (OpenSpec.ofChange loggedWrong)

/-- 'cairnlaw.All': WHATEVER THE INPUT: true; the input reads as it did. -/
def allSpec : ChangeSpec := { name := "all", fn := fun _ => fun
  | [d] => { results := [.lit (.bool true)], args := [d] }
  | _ => none }
def allRow : OpenClaim := { program := "ytekegfbjbainhaagreat", sum := "e13167ae805c1eec6a95e109596a2a6b4a38596527609b1d073a501c3d362d44", func := "cairn/cairnlaw.All", spec := "all", inPlace := ["internal/bytealg.Compare"], unfollowed := true, recurses := true, plainKeys := false, apart := false }
def AllSaid : Prop := allRow.holds Tryz.pinned (OpenSpec.ofChange allSpec)

/-- ITS FALSE NEIGHBOUR: 'it returns false'. Refute it at one input. -/
def allWrong : ChangeSpec := { name := "all", fn := fun _ => fun
  | [d] => { results := [.lit (.bool false)], args := [d] }
  | _ => none }
def AllWrongFalsely : Prop := allRow.holds Tryz.pinned (OpenSpec.ofChange allWrong)

/- THE SECOND FORM. 'bulk': how many values and letters a reading holds, each counted each time it is reached (what is shared counts as often as it is met; a slice's spare places count too). A statement '..UptoSaid' is the law's where the arguments, and the package variables that the reading takes, are together of bulk at most 1048576: NARROWER than '..Said'. Prove '..Said' where nothing that the law and all that it calls make is longer than what came in: it says more and counts as full. Else prove '..UptoSaid'. A law counts once. -/
mutual
def uptoBulk {H : Type} : DataW H → Nat
  | .lit (.string bytes) => bytes.length + 1
  | .lit _ => 1
  | .nil => 1
  | .ptr d => uptoBulk d + 1
  | .slice elems spare => uptoBulkAll elems + uptoBulkAll spare + 1
  | .agg parts => uptoBulkAll parts + 1
  | .iface _ d => uptoBulk d + 1
  | .map entries => uptoBulkEntries entries + 1
  | .held _ => 1
def uptoBulkAll {H : Type} : List (DataW H) → Nat
  | [] => 0
  | d :: r => uptoBulk d + uptoBulkAll r
def uptoBulkEntries {H : Type} : List (Lit × DataW H) → Nat
  | [] => 0
  | x :: r => uptoBulkEntry x + uptoBulkEntries r
def uptoBulkEntry {H : Type} : Lit × DataW H → Nat
  | (.string bytes, d) => bytes.length + uptoBulk d + 1
  | (_, d) => uptoBulk d + 1
 end
def uptoSmall : (H : Type) → List (DataW H) → Bool := fun _ ds => decide (uptoBulkAll ds ≤ 1048576)
def OpenSpec.upto (s : _root_.Go.ChangeSpec) : _root_.Go.OpenSpec := { _root_.Go.OpenSpec.ofChange s with cond := some uptoSmall }

/-- 'cairnlaw.Digested', WHERE WHAT IT READS IS OF BULK AT MOST 1048576: true; the input reads as it did. -/
def digestedUptoRow : OpenClaim := { program := "ytekegfbjbainhaagreat", sum := "e13167ae805c1eec6a95e109596a2a6b4a38596527609b1d073a501c3d362d44", func := "cairn/cairnlaw.Digested", spec := "digested", inPlace := ["internal/bytealg.Compare"], unfollowed := true, recurses := true, plainKeys := false, apart := false, narrowed := true }
def DigestedUptoSaid : Prop := digestedUptoRow.holds Tryz.pinned (OpenSpec.upto digestedSpec)

/-- 'cairnlaw.Stored', WHERE WHAT IT READS IS OF BULK AT MOST 1048576: true; the input reads as it did. -/
def storedUptoRow : OpenClaim := { program := "ytekegfbjbainhaagreat", sum := "e13167ae805c1eec6a95e109596a2a6b4a38596527609b1d073a501c3d362d44", func := "cairn/cairnlaw.Stored", spec := "stored", inPlace := ["internal/bytealg.Compare"], unfollowed := true, recurses := true, plainKeys := false, apart := false, narrowed := true }
def StoredUptoSaid : Prop := storedUptoRow.holds Tryz.pinned (OpenSpec.upto storedSpec)

/-- 'cairnlaw.Proved', WHERE WHAT IT READS IS OF BULK AT MOST 1048576: true; the input reads as it did. -/
def provedUptoRow : OpenClaim := { program := "ytekegfbjbainhaagreat", sum := "e13167ae805c1eec6a95e109596a2a6b4a38596527609b1d073a501c3d362d44", func := "cairn/cairnlaw.Proved", spec := "proved", inPlace := ["internal/bytealg.Compare"], unfollowed := true, recurses := true, plainKeys := false, apart := false, narrowed := true }
def ProvedUptoSaid : Prop := provedUptoRow.holds Tryz.pinned (OpenSpec.upto provedSpec)

/-- 'cairnlaw.Checked', WHERE WHAT IT READS IS OF BULK AT MOST 1048576: true; the input reads as it did. -/
def checkedUptoRow : OpenClaim := { program := "ytekegfbjbainhaagreat", sum := "e13167ae805c1eec6a95e109596a2a6b4a38596527609b1d073a501c3d362d44", func := "cairn/cairnlaw.Checked", spec := "checked", inPlace := ["internal/bytealg.Compare"], unfollowed := true, recurses := true, plainKeys := false, apart := false, narrowed := true }
def CheckedUptoSaid : Prop := checkedUptoRow.holds Tryz.pinned (OpenSpec.upto checkedSpec)

/-- 'cairnlaw.Logged', WHERE WHAT IT READS IS OF BULK AT MOST 1048576: true; the input reads as it did. -/
def loggedUptoRow : OpenClaim := { program := "ytekegfbjbainhaagreat", sum := "e13167ae805c1eec6a95e109596a2a6b4a38596527609b1d073a501c3d362d44", func := "cairn/cairnlaw.Logged", spec := "logged", inPlace := ["internal/bytealg.Compare"], unfollowed := true, recurses := true, plainKeys := false, apart := false, narrowed := true }
def LoggedUptoSaid : Prop := loggedUptoRow.holds Tryz.pinned (OpenSpec.upto loggedSpec)

/-- 'cairnlaw.All', WHERE WHAT IT READS IS OF BULK AT MOST 1048576: true; the input reads as it did. -/
def allUptoRow : OpenClaim := { program := "ytekegfbjbainhaagreat", sum := "e13167ae805c1eec6a95e109596a2a6b4a38596527609b1d073a501c3d362d44", func := "cairn/cairnlaw.All", spec := "all", inPlace := ["internal/bytealg.Compare"], unfollowed := true, recurses := true, plainKeys := false, apart := false, narrowed := true }
def AllUptoSaid : Prop := allUptoRow.holds Tryz.pinned (OpenSpec.upto allSpec)

end Rows
end Go.Proofs.YtekegfbjbainhaaGreat
