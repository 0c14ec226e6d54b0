/-
  No cell of these rows narrows 'for every input' (looked for: loops, veiled, ifaces, maps, wideKeys, modest, calm, conditions, laid).
  DERIVED. THE GIVEN ROWS OF THIS SEAT. 3 by the template 'for every input the law returns true; each argument reads behind the call as it read before'; 0 by the template 'total and deterministic' (their statements: YthbakhgfnfdahaaTotals.lean).
  GIVEN WITH THE SEED: the statements are not yours to turn. If you find one false, say at which input.
  Laid BY PROGRAM, IN A SANDBOX (cutbox-rows.mjs): the forced cells as the released guide's own fill.sh prints them over the translation 8ac7df5aa69ded5c… (all of the seat's roots in one cut). By AI agents, Wed Nov 11 2026. No macro, syntax, notation, axiom, sorry.
-/
import Derived.Test.YthbakhgfnfdahaaChecked
import GoSem.Claim
import GoSem.ClaimJoined
import GoSem.ClaimMapViews
import Derived.JoinedTies
import Derived.KernelRfl
namespace Go.Proofs.Ythbakhgfnfdahaa
/- THE CELL 'sum', in the pinned program and in every row, IS THE sha256 OF THE DUMP (.gsa) THAT YthbakhgfnfdahaaProg.lean LOADS. Nothing in Lean hashes anything: it is a label: what it is worth is what the hold of that sum in a sandbox is worth. -/
noncomputable def Try.pinned : Pinned := { name := "ythbakhgfnfdahaa", sum := "8ac7df5aa69ded5cd2df2dd9e880a9d1889ff3b76a593abde0f0828fba0515fd", checked := Try.checked }
namespace Rows
def none {H : Type} : Left H := { results := [], args := [] }

/-- 'quernlaw08.LaneParams': WHATEVER THE INPUT: true; the input reads as it did. -/
def laneParamsSpec : ChangeSpec := { name := "laneParams", fn := fun _ => fun
  | [d1, d2, d3] => { results := [.lit (.bool true)], args := [d1, d2, d3] }
  | _ => none }
def laneParamsRow : OpenClaim := { program := "ythbakhgfnfdahaa", sum := "8ac7df5aa69ded5cd2df2dd9e880a9d1889ff3b76a593abde0f0828fba0515fd", func := "quern/quernlaw08.LaneParams", spec := "laneParams", apart := false }
def LaneParamsSaid : Prop := laneParamsRow.holds Try.pinned (OpenSpec.ofChange laneParamsSpec)

/-- ITS FALSE NEIGHBOUR: 'it returns false'. Refute it at one input. -/
def laneParamsWrong : ChangeSpec := { name := "laneParams", fn := fun _ => fun
  | [d1, d2, d3] => { results := [.lit (.bool false)], args := [d1, d2, d3] }
  | _ => none }
def LaneParamsWrongFalsely : Prop := laneParamsRow.holds Try.pinned (OpenSpec.ofChange laneParamsWrong)

/-- 'quernlaw08.LaneSplits': WHATEVER THE INPUT: true; the input reads as it did. -/
def laneSplitsSpec : ChangeSpec := { name := "laneSplits", fn := fun _ => fun
  | [d1, d2] => { results := [.lit (.bool true)], args := [d1, d2] }
  | _ => none }
def laneSplitsRow : OpenClaim := { program := "ythbakhgfnfdahaa", sum := "8ac7df5aa69ded5cd2df2dd9e880a9d1889ff3b76a593abde0f0828fba0515fd", func := "quern/quernlaw08.LaneSplits", spec := "laneSplits", apart := false }
def LaneSplitsSaid : Prop := laneSplitsRow.holds Try.pinned (OpenSpec.ofChange laneSplitsSpec)

/-- ITS FALSE NEIGHBOUR: 'it returns false'. Refute it at one input. -/
def laneSplitsWrong : ChangeSpec := { name := "laneSplits", fn := fun _ => fun
  | [d1, d2] => { results := [.lit (.bool false)], args := [d1, d2] }
  | _ => none }
def LaneSplitsWrongFalsely : Prop := laneSplitsRow.holds Try.pinned (OpenSpec.ofChange laneSplitsWrong)

/-- 'quernlaw08.LaneJoins': WHATEVER THE INPUT: true; the input reads as it did. -/
def laneJoinsSpec : ChangeSpec := { name := "laneJoins", fn := fun _ => fun
  | [d1, d2] => { results := [.lit (.bool true)], args := [d1, d2] }
  | _ => none }
def laneJoinsRow : OpenClaim := { program := "ythbakhgfnfdahaa", sum := "8ac7df5aa69ded5cd2df2dd9e880a9d1889ff3b76a593abde0f0828fba0515fd", func := "quern/quernlaw08.LaneJoins", spec := "laneJoins", apart := false }
def LaneJoinsSaid : Prop := laneJoinsRow.holds Try.pinned (OpenSpec.ofChange laneJoinsSpec)

/-- ITS FALSE NEIGHBOUR: 'it returns false'. Refute it at one input. -/
def laneJoinsWrong : ChangeSpec := { name := "laneJoins", fn := fun _ => fun
  | [d1, d2] => { results := [.lit (.bool false)], args := [d1, d2] }
  | _ => none }
def LaneJoinsWrongFalsely : Prop := laneJoinsRow.holds Try.pinned (OpenSpec.ofChange laneJoinsWrong)

/- THE SECOND FORM. 'bulk': how many values and letters a reading holds, each counted each time it is reached (what is shared counts as often as it is met; a slice's spare places count too). A statement '..UptoSaid' is the law's where the arguments, and the package variables that the reading takes, are together of bulk at most 1048576: NARROWER than '..Said'. Prove '..Said' where nothing that the law and all that it calls make is longer than what came in: it says more and counts as full. Else prove '..UptoSaid'. A law counts once. -/
mutual
def uptoBulk {H : Type} : DataW H → Nat
  | .lit (.string bytes) => bytes.length + 1
  | .lit _ => 1
  | .nil => 1
  | .ptr d => uptoBulk d + 1
  | .slice elems spare => uptoBulkAll elems + uptoBulkAll spare + 1
  | .agg parts => uptoBulkAll parts + 1
  | .iface _ d => uptoBulk d + 1
  | .map entries => uptoBulkEntries entries + 1
  | .held _ => 1
def uptoBulkAll {H : Type} : List (DataW H) → Nat
  | [] => 0
  | d :: r => uptoBulk d + uptoBulkAll r
def uptoBulkEntries {H : Type} : List (Lit × DataW H) → Nat
  | [] => 0
  | x :: r => uptoBulkEntry x + uptoBulkEntries r
def uptoBulkEntry {H : Type} : Lit × DataW H → Nat
  | (.string bytes, d) => bytes.length + uptoBulk d + 1
  | (_, d) => uptoBulk d + 1
 end
def uptoSmall : (H : Type) → List (DataW H) → Bool := fun _ ds => decide (uptoBulkAll ds ≤ 1048576)
def OpenSpec.upto (s : _root_.Go.ChangeSpec) : _root_.Go.OpenSpec := { _root_.Go.OpenSpec.ofChange s with cond := some uptoSmall }

/-- 'quernlaw08.LaneParams', WHERE WHAT IT READS IS OF BULK AT MOST 1048576: true; the input reads as it did. -/
def laneParamsUptoRow : OpenClaim := { program := "ythbakhgfnfdahaa", sum := "8ac7df5aa69ded5cd2df2dd9e880a9d1889ff3b76a593abde0f0828fba0515fd", func := "quern/quernlaw08.LaneParams", spec := "laneParams", apart := false, narrowed := true }
def LaneParamsUptoSaid : Prop := laneParamsUptoRow.holds Try.pinned (OpenSpec.upto laneParamsSpec)

/-- 'quernlaw08.LaneSplits', WHERE WHAT IT READS IS OF BULK AT MOST 1048576: true; the input reads as it did. -/
def laneSplitsUptoRow : OpenClaim := { program := "ythbakhgfnfdahaa", sum := "8ac7df5aa69ded5cd2df2dd9e880a9d1889ff3b76a593abde0f0828fba0515fd", func := "quern/quernlaw08.LaneSplits", spec := "laneSplits", apart := false, narrowed := true }
def LaneSplitsUptoSaid : Prop := laneSplitsUptoRow.holds Try.pinned (OpenSpec.upto laneSplitsSpec)

/-- 'quernlaw08.LaneJoins', WHERE WHAT IT READS IS OF BULK AT MOST 1048576: true; the input reads as it did. -/
def laneJoinsUptoRow : OpenClaim := { program := "ythbakhgfnfdahaa", sum := "8ac7df5aa69ded5cd2df2dd9e880a9d1889ff3b76a593abde0f0828fba0515fd", func := "quern/quernlaw08.LaneJoins", spec := "laneJoins", apart := false, narrowed := true }
def LaneJoinsUptoSaid : Prop := laneJoinsUptoRow.holds Try.pinned (OpenSpec.upto laneJoinsSpec)

end Rows
end Go.Proofs.Ythbakhgfnfdahaa
