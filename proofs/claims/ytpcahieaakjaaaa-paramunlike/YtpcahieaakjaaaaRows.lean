/-
  No cell of these rows narrows 'for every input' (looked for: loops, veiled, ifaces, maps, wideKeys, modest, calm, conditions, laid).
  DERIVED. THE GIVEN ROWS OF THIS SEAT. 6 by the template 'for every input the law returns true; each argument reads behind the call as it read before'; 0 by the template 'total and deterministic' (their statements: YtpcahieaakjaaaaTotals.lean).
  GIVEN WITH THE SEED: the statements are not yours to turn. If you find one false, say at which input.
  Laid BY PROGRAM, IN A SANDBOX (cutbox-rows.mjs): the forced cells as the released guide's own fill.sh prints them over the translation 4e56481b21105005… (all of the seat's roots in one cut). By AI agents, Wed Nov 11 2026. No macro, syntax, notation, axiom, sorry.
-/
import Derived.Test.YtpcahieaakjaaaaChecked
import GoSem.Claim
import GoSem.ClaimJoined
import GoSem.ClaimMapViews
import Derived.JoinedTies
import Derived.KernelRfl
namespace Go.Proofs.Ytpcahieaakjaaaa
/- THE CELL 'sum', in the pinned program and in every row, IS THE sha256 OF THE DUMP (.gsa) THAT YtpcahieaakjaaaaProg.lean LOADS. Nothing in Lean hashes anything: it is a label: what it is worth is what the hold of that sum in a sandbox is worth. -/
noncomputable def Try.pinned : Pinned := { name := "ytpcahieaakjaaaa", sum := "4e56481b21105005382a3de52deebfe45188a3b9d6c7085a76bd2e1938e451df", checked := Try.checked }
namespace Rows
def none {H : Type} : Left H := { results := [], args := [] }

/-- 'quernlaw02.ParamChecks': WHATEVER THE INPUT: true; the input reads as it did. -/
def paramChecksSpec : ChangeSpec := { name := "paramChecks", fn := fun _ => fun
  | [d1, d2, d3] => { results := [.lit (.bool true)], args := [d1, d2, d3] }
  | _ => none }
def paramChecksRow : OpenClaim := { program := "ytpcahieaakjaaaa", sum := "4e56481b21105005382a3de52deebfe45188a3b9d6c7085a76bd2e1938e451df", func := "quern/quernlaw02.ParamChecks", spec := "paramChecks", apart := false }
def ParamChecksSaid : Prop := paramChecksRow.holds Try.pinned (OpenSpec.ofChange paramChecksSpec)

/-- ITS FALSE NEIGHBOUR: 'it returns false'. Refute it at one input. -/
def paramChecksWrong : ChangeSpec := { name := "paramChecks", fn := fun _ => fun
  | [d1, d2, d3] => { results := [.lit (.bool false)], args := [d1, d2, d3] }
  | _ => none }
def ParamChecksWrongFalsely : Prop := paramChecksRow.holds Try.pinned (OpenSpec.ofChange paramChecksWrong)

/-- 'quernlaw02.ParamEncodes': WHATEVER THE INPUT: true; the input reads as it did. -/
def paramEncodesSpec : ChangeSpec := { name := "paramEncodes", fn := fun _ => fun
  | [d1, d2] => { results := [.lit (.bool true)], args := [d1, d2] }
  | _ => none }
def paramEncodesRow : OpenClaim := { program := "ytpcahieaakjaaaa", sum := "4e56481b21105005382a3de52deebfe45188a3b9d6c7085a76bd2e1938e451df", func := "quern/quernlaw02.ParamEncodes", spec := "paramEncodes", apart := false }
def ParamEncodesSaid : Prop := paramEncodesRow.holds Try.pinned (OpenSpec.ofChange paramEncodesSpec)

/-- ITS FALSE NEIGHBOUR: 'it returns false'. Refute it at one input. -/
def paramEncodesWrong : ChangeSpec := { name := "paramEncodes", fn := fun _ => fun
  | [d1, d2] => { results := [.lit (.bool false)], args := [d1, d2] }
  | _ => none }
def ParamEncodesWrongFalsely : Prop := paramEncodesRow.holds Try.pinned (OpenSpec.ofChange paramEncodesWrong)

/-- 'quernlaw02.ParamDecodes': WHATEVER THE INPUT: true; the input reads as it did. -/
def paramDecodesSpec : ChangeSpec := { name := "paramDecodes", fn := fun _ => fun
  | [d1, d2, d3] => { results := [.lit (.bool true)], args := [d1, d2, d3] }
  | _ => none }
def paramDecodesRow : OpenClaim := { program := "ytpcahieaakjaaaa", sum := "4e56481b21105005382a3de52deebfe45188a3b9d6c7085a76bd2e1938e451df", func := "quern/quernlaw02.ParamDecodes", spec := "paramDecodes", apart := false }
def ParamDecodesSaid : Prop := paramDecodesRow.holds Try.pinned (OpenSpec.ofChange paramDecodesSpec)

/-- ITS FALSE NEIGHBOUR: 'it returns false'. Refute it at one input. -/
def paramDecodesWrong : ChangeSpec := { name := "paramDecodes", fn := fun _ => fun
  | [d1, d2, d3] => { results := [.lit (.bool false)], args := [d1, d2, d3] }
  | _ => none }
def ParamDecodesWrongFalsely : Prop := paramDecodesRow.holds Try.pinned (OpenSpec.ofChange paramDecodesWrong)

/-- 'quernlaw02.ParamTwins': WHATEVER THE INPUT: true; the input reads as it did. -/
def paramTwinsSpec : ChangeSpec := { name := "paramTwins", fn := fun _ => fun
  | [d1, d2] => { results := [.lit (.bool true)], args := [d1, d2] }
  | _ => none }
def paramTwinsRow : OpenClaim := { program := "ytpcahieaakjaaaa", sum := "4e56481b21105005382a3de52deebfe45188a3b9d6c7085a76bd2e1938e451df", func := "quern/quernlaw02.ParamTwins", spec := "paramTwins", apart := false }
def ParamTwinsSaid : Prop := paramTwinsRow.holds Try.pinned (OpenSpec.ofChange paramTwinsSpec)

/-- ITS FALSE NEIGHBOUR: 'it returns false'. Refute it at one input. -/
def paramTwinsWrong : ChangeSpec := { name := "paramTwins", fn := fun _ => fun
  | [d1, d2] => { results := [.lit (.bool false)], args := [d1, d2] }
  | _ => none }
def ParamTwinsWrongFalsely : Prop := paramTwinsRow.holds Try.pinned (OpenSpec.ofChange paramTwinsWrong)

/-- 'quernlaw02.ParamUnlike': WHATEVER THE INPUT: true; the input reads as it did. -/
def paramUnlikeSpec : ChangeSpec := { name := "paramUnlike", fn := fun _ => fun
  | [d1, d2, d3] => { results := [.lit (.bool true)], args := [d1, d2, d3] }
  | _ => none }
def paramUnlikeRow : OpenClaim := { program := "ytpcahieaakjaaaa", sum := "4e56481b21105005382a3de52deebfe45188a3b9d6c7085a76bd2e1938e451df", func := "quern/quernlaw02.ParamUnlike", spec := "paramUnlike", apart := false }
def ParamUnlikeSaid : Prop := paramUnlikeRow.holds Try.pinned (OpenSpec.ofChange paramUnlikeSpec)

/-- ITS FALSE NEIGHBOUR: 'it returns false'. Refute it at one input. -/
def paramUnlikeWrong : ChangeSpec := { name := "paramUnlike", fn := fun _ => fun
  | [d1, d2, d3] => { results := [.lit (.bool false)], args := [d1, d2, d3] }
  | _ => none }
def ParamUnlikeWrongFalsely : Prop := paramUnlikeRow.holds Try.pinned (OpenSpec.ofChange paramUnlikeWrong)

/-- 'quernlaw02.ParamPuts': WHATEVER THE INPUT: true; the input reads as it did. -/
def paramPutsSpec : ChangeSpec := { name := "paramPuts", fn := fun _ => fun
  | [d] => { results := [.lit (.bool true)], args := [d] }
  | _ => none }
def paramPutsRow : OpenClaim := { program := "ytpcahieaakjaaaa", sum := "4e56481b21105005382a3de52deebfe45188a3b9d6c7085a76bd2e1938e451df", func := "quern/quernlaw02.ParamPuts", spec := "paramPuts", apart := false }
def ParamPutsSaid : Prop := paramPutsRow.holds Try.pinned (OpenSpec.ofChange paramPutsSpec)

/-- ITS FALSE NEIGHBOUR: 'it returns false'. Refute it at one input. -/
def paramPutsWrong : ChangeSpec := { name := "paramPuts", fn := fun _ => fun
  | [d] => { results := [.lit (.bool false)], args := [d] }
  | _ => none }
def ParamPutsWrongFalsely : Prop := paramPutsRow.holds Try.pinned (OpenSpec.ofChange paramPutsWrong)

/- THE SECOND FORM. 'bulk': how many values and letters a reading holds, each counted each time it is reached (what is shared counts as often as it is met; a slice's spare places count too). A statement '..UptoSaid' is the law's where the arguments, and the package variables that the reading takes, are together of bulk at most 1048576: NARROWER than '..Said'. Prove '..Said' where nothing that the law and all that it calls make is longer than what came in: it says more and counts as full. Else prove '..UptoSaid'. A law counts once. -/
mutual
def uptoBulk {H : Type} : DataW H → Nat
  | .lit (.string bytes) => bytes.length + 1
  | .lit _ => 1
  | .nil => 1
  | .ptr d => uptoBulk d + 1
  | .slice elems spare => uptoBulkAll elems + uptoBulkAll spare + 1
  | .agg parts => uptoBulkAll parts + 1
  | .iface _ d => uptoBulk d + 1
  | .map entries => uptoBulkEntries entries + 1
  | .held _ => 1
def uptoBulkAll {H : Type} : List (DataW H) → Nat
  | [] => 0
  | d :: r => uptoBulk d + uptoBulkAll r
def uptoBulkEntries {H : Type} : List (Lit × DataW H) → Nat
  | [] => 0
  | x :: r => uptoBulkEntry x + uptoBulkEntries r
def uptoBulkEntry {H : Type} : Lit × DataW H → Nat
  | (.string bytes, d) => bytes.length + uptoBulk d + 1
  | (_, d) => uptoBulk d + 1
 end
def uptoSmall : (H : Type) → List (DataW H) → Bool := fun _ ds => decide (uptoBulkAll ds ≤ 1048576)
def OpenSpec.upto (s : _root_.Go.ChangeSpec) : _root_.Go.OpenSpec := { _root_.Go.OpenSpec.ofChange s with cond := some uptoSmall }

/-- 'quernlaw02.ParamChecks', WHERE WHAT IT READS IS OF BULK AT MOST 1048576: true; the input reads as it did. -/
def paramChecksUptoRow : OpenClaim := { program := "ytpcahieaakjaaaa", sum := "4e56481b21105005382a3de52deebfe45188a3b9d6c7085a76bd2e1938e451df", func := "quern/quernlaw02.ParamChecks", spec := "paramChecks", apart := false, narrowed := true }
def ParamChecksUptoSaid : Prop := paramChecksUptoRow.holds Try.pinned (OpenSpec.upto paramChecksSpec)

/-- 'quernlaw02.ParamEncodes', WHERE WHAT IT READS IS OF BULK AT MOST 1048576: true; the input reads as it did. -/
def paramEncodesUptoRow : OpenClaim := { program := "ytpcahieaakjaaaa", sum := "4e56481b21105005382a3de52deebfe45188a3b9d6c7085a76bd2e1938e451df", func := "quern/quernlaw02.ParamEncodes", spec := "paramEncodes", apart := false, narrowed := true }
def ParamEncodesUptoSaid : Prop := paramEncodesUptoRow.holds Try.pinned (OpenSpec.upto paramEncodesSpec)

/-- 'quernlaw02.ParamDecodes', WHERE WHAT IT READS IS OF BULK AT MOST 1048576: true; the input reads as it did. -/
def paramDecodesUptoRow : OpenClaim := { program := "ytpcahieaakjaaaa", sum := "4e56481b21105005382a3de52deebfe45188a3b9d6c7085a76bd2e1938e451df", func := "quern/quernlaw02.ParamDecodes", spec := "paramDecodes", apart := false, narrowed := true }
def ParamDecodesUptoSaid : Prop := paramDecodesUptoRow.holds Try.pinned (OpenSpec.upto paramDecodesSpec)

/-- 'quernlaw02.ParamTwins', WHERE WHAT IT READS IS OF BULK AT MOST 1048576: true; the input reads as it did. -/
def paramTwinsUptoRow : OpenClaim := { program := "ytpcahieaakjaaaa", sum := "4e56481b21105005382a3de52deebfe45188a3b9d6c7085a76bd2e1938e451df", func := "quern/quernlaw02.ParamTwins", spec := "paramTwins", apart := false, narrowed := true }
def ParamTwinsUptoSaid : Prop := paramTwinsUptoRow.holds Try.pinned (OpenSpec.upto paramTwinsSpec)

/-- 'quernlaw02.ParamUnlike', WHERE WHAT IT READS IS OF BULK AT MOST 1048576: true; the input reads as it did. -/
def paramUnlikeUptoRow : OpenClaim := { program := "ytpcahieaakjaaaa", sum := "4e56481b21105005382a3de52deebfe45188a3b9d6c7085a76bd2e1938e451df", func := "quern/quernlaw02.ParamUnlike", spec := "paramUnlike", apart := false, narrowed := true }
def ParamUnlikeUptoSaid : Prop := paramUnlikeUptoRow.holds Try.pinned (OpenSpec.upto paramUnlikeSpec)

/-- 'quernlaw02.ParamPuts', WHERE WHAT IT READS IS OF BULK AT MOST 1048576: true; the input reads as it did. -/
def paramPutsUptoRow : OpenClaim := { program := "ytpcahieaakjaaaa", sum := "4e56481b21105005382a3de52deebfe45188a3b9d6c7085a76bd2e1938e451df", func := "quern/quernlaw02.ParamPuts", spec := "paramPuts", apart := false, narrowed := true }
def ParamPutsUptoSaid : Prop := paramPutsUptoRow.holds Try.pinned (OpenSpec.upto paramPutsSpec)

end Rows
end Go.Proofs.Ytpcahieaakjaaaa
