/-
  NARROWER THAN 'FOR EVERY INPUT', by the rows' own cells (each row's printed sentence says how): LongBlends: laid · LongMixes: laid · LongTwins: laid.
  DERIVED. THE GIVEN ROWS OF THIS SEAT. 3 by the template 'for every input the law returns true; each argument reads behind the call as it read before'; 0 by the template 'total and deterministic' (their statements: YtkgemkfajkcgcaaDoorTotals.lean).
  GIVEN WITH THE SEED: the statements are not yours to turn. If you find one false, say at which input.
  Laid BY PROGRAM, IN A SANDBOX (cutbox-rows.mjs): the forced cells as the released guide's own fill.sh prints them over the translation c5f09251f04fa7d6… (all of the seat's roots in one cut). By AI agents, Wed Nov 11 2026. No macro, syntax, notation, axiom, sorry.
-/
import Derived.Test.YtkgemkfajkcgcaaDoorChecked
import GoSem.Claim
import GoSem.ClaimJoined
import GoSem.ClaimMapViews
import Derived.JoinedTies
import Derived.KernelRfl
namespace Go.Proofs.YtkgemkfajkcgcaaDoor
/- THE CELL 'sum', in the pinned program and in every row, IS THE sha256 OF THE DUMP (.gsa) THAT YtkgemkfajkcgcaaDoorProg.lean LOADS. Nothing in Lean hashes anything: it is a label: what it is worth is what the hold of that sum in a sandbox is worth. -/
noncomputable def Tryd.pinned : Pinned := { name := "ytkgemkfajkcgcaadoor", sum := "c5f09251f04fa7d634029efd3e84ee01af87b6de1a1a8637fafd7899a3410ef3", checked := Tryd.checked }
namespace Rows
def none {H : Type} : Left H := { results := [], args := [] }

/- WHAT THE LISTED PACKAGE-LEVEL VARIABLES READ AS WHEN THE CALL BEGINS. Each datum BY PROGRAM (the guide's laid-datum.mjs) off the statement by which the dump's own 'gosem.cut.vars' lays the variable. In a bare row this is a premise. The card (YtkgemkfajkcgcaaDoorCards.lean) ties it to the program's text. -/
def laid_quern_long_steps {H : Type} : DataW H := .agg [.agg [.lit (.int .u8 0), .lit (.int .u8 4), .lit (.int .u8 8), .lit (.int .u8 12)], .agg [.lit (.int .u8 1), .lit (.int .u8 5), .lit (.int .u8 9), .lit (.int .u8 13)], .agg [.lit (.int .u8 2), .lit (.int .u8 6), .lit (.int .u8 10), .lit (.int .u8 14)], .agg [.lit (.int .u8 3), .lit (.int .u8 7), .lit (.int .u8 11), .lit (.int .u8 15)], .agg [.lit (.int .u8 0), .lit (.int .u8 5), .lit (.int .u8 10), .lit (.int .u8 15)], .agg [.lit (.int .u8 1), .lit (.int .u8 6), .lit (.int .u8 11), .lit (.int .u8 12)], .agg [.lit (.int .u8 2), .lit (.int .u8 7), .lit (.int .u8 8), .lit (.int .u8 13)], .agg [.lit (.int .u8 3), .lit (.int .u8 4), .lit (.int .u8 9), .lit (.int .u8 14)]]

/-- 'quernlaw19.LongBlends': WHATEVER THE INPUT: true; the input reads as it did. -/
def longBlendsSpec : ChangeSpec := { name := "longBlends", fn := fun _ => fun
  | [d] => { results := [.lit (.bool true)], args := [d] }
  | _ => none }
def longBlendsRow : OpenClaim := { program := "ytkgemkfajkcgcaadoor", sum := "c5f09251f04fa7d634029efd3e84ee01af87b6de1a1a8637fafd7899a3410ef3", func := "quern/quernlaw19.LongBlends", spec := "longBlends", named := ["quern/long.steps"], apart := false, laid := [("quern/long.steps", laid_quern_long_steps)] }
def LongBlendsSaid : Prop := longBlendsRow.holds Tryd.pinned (OpenSpec.ofChange longBlendsSpec)

/-- ITS FALSE NEIGHBOUR: 'it returns false'. Refute it at one input. -/
def longBlendsWrong : ChangeSpec := { name := "longBlends", fn := fun _ => fun
  | [d] => { results := [.lit (.bool false)], args := [d] }
  | _ => none }
def LongBlendsWrongFalsely : Prop := longBlendsRow.holds Tryd.pinned (OpenSpec.ofChange longBlendsWrong)

/-- 'quernlaw19.LongMixes': WHATEVER THE INPUT: true; the input reads as it did. -/
def longMixesSpec : ChangeSpec := { name := "longMixes", fn := fun _ => fun
  | [d1, d2, d3] => { results := [.lit (.bool true)], args := [d1, d2, d3] }
  | _ => none }
def longMixesRow : OpenClaim := { program := "ytkgemkfajkcgcaadoor", sum := "c5f09251f04fa7d634029efd3e84ee01af87b6de1a1a8637fafd7899a3410ef3", func := "quern/quernlaw19.LongMixes", spec := "longMixes", unfollowed := true, recurses := true, named := ["quern/long.steps"], apart := false, laid := [("quern/long.steps", laid_quern_long_steps)] }
def LongMixesSaid : Prop := longMixesRow.holds Tryd.pinned (OpenSpec.ofChange longMixesSpec)

/-- ITS FALSE NEIGHBOUR: 'it returns false'. Refute it at one input. -/
def longMixesWrong : ChangeSpec := { name := "longMixes", fn := fun _ => fun
  | [d1, d2, d3] => { results := [.lit (.bool false)], args := [d1, d2, d3] }
  | _ => none }
def LongMixesWrongFalsely : Prop := longMixesRow.holds Tryd.pinned (OpenSpec.ofChange longMixesWrong)

/-- 'quernlaw19.LongTwins': WHATEVER THE INPUT: true; the input reads as it did. -/
def longTwinsSpec : ChangeSpec := { name := "longTwins", fn := fun _ => fun
  | [d1, d2, d3] => { results := [.lit (.bool true)], args := [d1, d2, d3] }
  | _ => none }
def longTwinsRow : OpenClaim := { program := "ytkgemkfajkcgcaadoor", sum := "c5f09251f04fa7d634029efd3e84ee01af87b6de1a1a8637fafd7899a3410ef3", func := "quern/quernlaw19.LongTwins", spec := "longTwins", unfollowed := true, recurses := true, named := ["quern/long.steps"], apart := false, laid := [("quern/long.steps", laid_quern_long_steps)] }
def LongTwinsSaid : Prop := longTwinsRow.holds Tryd.pinned (OpenSpec.ofChange longTwinsSpec)

/-- ITS FALSE NEIGHBOUR: 'it returns false'. Refute it at one input. -/
def longTwinsWrong : ChangeSpec := { name := "longTwins", fn := fun _ => fun
  | [d1, d2, d3] => { results := [.lit (.bool false)], args := [d1, d2, d3] }
  | _ => none }
def LongTwinsWrongFalsely : Prop := longTwinsRow.holds Tryd.pinned (OpenSpec.ofChange longTwinsWrong)

/- THE SECOND FORM. 'bulk': how many values and letters a reading holds, each counted each time it is reached (what is shared counts as often as it is met; a slice's spare places count too). A statement '..UptoSaid' is the law's where the arguments, and the package variables that the reading takes, are together of bulk at most 1048576: NARROWER than '..Said'. Prove '..Said' where nothing that the law and all that it calls make is longer than what came in: it says more and counts as full. Else prove '..UptoSaid'. A law counts once. -/
mutual
def uptoBulk {H : Type} : DataW H → Nat
  | .lit (.string bytes) => bytes.length + 1
  | .lit _ => 1
  | .nil => 1
  | .ptr d => uptoBulk d + 1
  | .slice elems spare => uptoBulkAll elems + uptoBulkAll spare + 1
  | .agg parts => uptoBulkAll parts + 1
  | .iface _ d => uptoBulk d + 1
  | .map entries => uptoBulkEntries entries + 1
  | .held _ => 1
def uptoBulkAll {H : Type} : List (DataW H) → Nat
  | [] => 0
  | d :: r => uptoBulk d + uptoBulkAll r
def uptoBulkEntries {H : Type} : List (Lit × DataW H) → Nat
  | [] => 0
  | x :: r => uptoBulkEntry x + uptoBulkEntries r
def uptoBulkEntry {H : Type} : Lit × DataW H → Nat
  | (.string bytes, d) => bytes.length + uptoBulk d + 1
  | (_, d) => uptoBulk d + 1
 end
def uptoSmall : (H : Type) → List (DataW H) → Bool := fun _ ds => decide (uptoBulkAll ds ≤ 1048576)
def OpenSpec.upto (s : _root_.Go.ChangeSpec) : _root_.Go.OpenSpec := { _root_.Go.OpenSpec.ofChange s with cond := some uptoSmall }

/-- 'quernlaw19.LongBlends', WHERE WHAT IT READS IS OF BULK AT MOST 1048576: true; the input reads as it did. -/
def longBlendsUptoRow : OpenClaim := { program := "ytkgemkfajkcgcaadoor", sum := "c5f09251f04fa7d634029efd3e84ee01af87b6de1a1a8637fafd7899a3410ef3", func := "quern/quernlaw19.LongBlends", spec := "longBlends", named := ["quern/long.steps"], apart := false, laid := [("quern/long.steps", laid_quern_long_steps)], narrowed := true }
def LongBlendsUptoSaid : Prop := longBlendsUptoRow.holds Tryd.pinned (OpenSpec.upto longBlendsSpec)

/-- 'quernlaw19.LongMixes', WHERE WHAT IT READS IS OF BULK AT MOST 1048576: true; the input reads as it did. -/
def longMixesUptoRow : OpenClaim := { program := "ytkgemkfajkcgcaadoor", sum := "c5f09251f04fa7d634029efd3e84ee01af87b6de1a1a8637fafd7899a3410ef3", func := "quern/quernlaw19.LongMixes", spec := "longMixes", unfollowed := true, recurses := true, named := ["quern/long.steps"], apart := false, laid := [("quern/long.steps", laid_quern_long_steps)], narrowed := true }
def LongMixesUptoSaid : Prop := longMixesUptoRow.holds Tryd.pinned (OpenSpec.upto longMixesSpec)

/-- 'quernlaw19.LongTwins', WHERE WHAT IT READS IS OF BULK AT MOST 1048576: true; the input reads as it did. -/
def longTwinsUptoRow : OpenClaim := { program := "ytkgemkfajkcgcaadoor", sum := "c5f09251f04fa7d634029efd3e84ee01af87b6de1a1a8637fafd7899a3410ef3", func := "quern/quernlaw19.LongTwins", spec := "longTwins", unfollowed := true, recurses := true, named := ["quern/long.steps"], apart := false, laid := [("quern/long.steps", laid_quern_long_steps)], narrowed := true }
def LongTwinsUptoSaid : Prop := longTwinsUptoRow.holds Tryd.pinned (OpenSpec.upto longTwinsSpec)

end Rows
end Go.Proofs.YtkgemkfajkcgcaaDoor
