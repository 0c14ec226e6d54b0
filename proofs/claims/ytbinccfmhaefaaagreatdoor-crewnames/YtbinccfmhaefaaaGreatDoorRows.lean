/-
  NARROWER THAN 'FOR EVERY INPUT', by the rows' own cells (each row's printed sentence says how): CrewNames: laid.
  DERIVED. THE GIVEN ROWS OF THIS SEAT. 1 by the template 'for every input the law returns true; each argument reads behind the call as it read before'; 0 by the template 'total and deterministic' (their statements: YtbinccfmhaefaaaGreatDoorTotals.lean).
  GIVEN WITH THE SEED: the statements are not yours to turn. If you find one false, say at which input.
  Laid BY PROGRAM, IN A SANDBOX (cutbox-rows.mjs): the forced cells as the released guide's own fill.sh prints them over the translation 37e6f089973b967e… (all of the seat's roots in one cut). By AI agents, Wed Nov 11 2026. No macro, syntax, notation, axiom, sorry.
-/
import Derived.Test.YtbinccfmhaefaaaGreatDoorChecked
import GoSem.Claim
import GoSem.ClaimJoined
import GoSem.ClaimMapViews
import Derived.JoinedTies
import Derived.KernelRfl
namespace Go.Proofs.YtbinccfmhaefaaaGreatDoor
/- THE CELL 'sum', in the pinned program and in every row, IS THE sha256 OF THE DUMP (.gsa) THAT YtbinccfmhaefaaaGreatDoorProg.lean LOADS. Nothing in Lean hashes anything: it is a label: what it is worth is what the hold of that sum in a sandbox is worth. -/
noncomputable def Tryz.pinned : Pinned := { name := "ytbinccfmhaefaaagreatdoor", sum := "37e6f089973b967e96f47d288e07985bafd46be45b0f13afbab1781d851c416d", checked := Tryz.checked }
namespace Rows
def none {H : Type} : Left H := { results := [], args := [] }

/- WHAT THE LISTED PACKAGE-LEVEL VARIABLES READ AS WHEN THE CALL BEGINS. Each datum BY PROGRAM (the guide's laid-datum.mjs) off the statement by which the dump's own 'gosem.cut.vars' lays the variable. In a bare row this is a premise. The card (YtbinccfmhaefaaaGreatDoorCards.lean) ties it to the program's text. -/
def laid_quern_crew_variants {H : Type} : DataW H := .agg [.agg [.lit (.string [98, 108, 97, 107, 101, 50, 98]), .lit (.int .i64 1), .lit (.int .i64 0), .lit (.int .i64 64)], .agg [.lit (.string [98, 108, 97, 107, 101, 50, 115]), .lit (.int .i64 2), .lit (.int .i64 0), .lit (.int .i64 32)], .agg [.lit (.string [98, 108, 97, 107, 101, 50, 98, 112]), .lit (.int .i64 1), .lit (.int .i64 1), .lit (.int .i64 64)], .agg [.lit (.string [98, 108, 97, 107, 101, 50, 115, 112]), .lit (.int .i64 2), .lit (.int .i64 1), .lit (.int .i64 32)], .agg [.lit (.string [98, 108, 97, 107, 101, 50, 120, 98]), .lit (.int .i64 1), .lit (.int .i64 2), .lit (.int .i64 65536)], .agg [.lit (.string [98, 108, 97, 107, 101, 50, 120, 115]), .lit (.int .i64 2), .lit (.int .i64 2), .lit (.int .i64 65534)]]

/-- 'quernlaw17.CrewNames': WHATEVER THE INPUT: true; the input reads as it did. -/
def crewNamesSpec : ChangeSpec := { name := "crewNames", fn := fun _ => fun
  | [] => { results := [.lit (.bool true)], args := [] }
  | _ => none }
def crewNamesRow : OpenClaim := { program := "ytbinccfmhaefaaagreatdoor", sum := "37e6f089973b967e96f47d288e07985bafd46be45b0f13afbab1781d851c416d", func := "quern/quernlaw17.CrewNames", spec := "crewNames", inPlace := ["internal/bytealg.MakeNoZero"], unfollowed := true, recurses := true, named := ["quern/crew.variants"], apart := false, laid := [("quern/crew.variants", laid_quern_crew_variants)] }
def CrewNamesSaid : Prop := crewNamesRow.holds Tryz.pinned (OpenSpec.ofChange crewNamesSpec)

/-- ITS FALSE NEIGHBOUR: 'it returns false'. Refute it at one input. -/
def crewNamesWrong : ChangeSpec := { name := "crewNames", fn := fun _ => fun
  | [] => { results := [.lit (.bool false)], args := [] }
  | _ => none }
def CrewNamesWrongFalsely : Prop := crewNamesRow.holds Tryz.pinned (OpenSpec.ofChange crewNamesWrong)

/- THE SECOND FORM. 'bulk': how many values and letters a reading holds, each counted each time it is reached (what is shared counts as often as it is met; a slice's spare places count too). A statement '..UptoSaid' is the law's where the arguments, and the package variables that the reading takes, are together of bulk at most 1048576: NARROWER than '..Said'. Prove '..Said' where nothing that the law and all that it calls make is longer than what came in: it says more and counts as full. Else prove '..UptoSaid'. A law counts once. -/
mutual
def uptoBulk {H : Type} : DataW H → Nat
  | .lit (.string bytes) => bytes.length + 1
  | .lit _ => 1
  | .nil => 1
  | .ptr d => uptoBulk d + 1
  | .slice elems spare => uptoBulkAll elems + uptoBulkAll spare + 1
  | .agg parts => uptoBulkAll parts + 1
  | .iface _ d => uptoBulk d + 1
  | .map entries => uptoBulkEntries entries + 1
  | .held _ => 1
def uptoBulkAll {H : Type} : List (DataW H) → Nat
  | [] => 0
  | d :: r => uptoBulk d + uptoBulkAll r
def uptoBulkEntries {H : Type} : List (Lit × DataW H) → Nat
  | [] => 0
  | x :: r => uptoBulkEntry x + uptoBulkEntries r
def uptoBulkEntry {H : Type} : Lit × DataW H → Nat
  | (.string bytes, d) => bytes.length + uptoBulk d + 1
  | (_, d) => uptoBulk d + 1
 end
def uptoSmall : (H : Type) → List (DataW H) → Bool := fun _ ds => decide (uptoBulkAll ds ≤ 1048576)
def OpenSpec.upto (s : _root_.Go.ChangeSpec) : _root_.Go.OpenSpec := { _root_.Go.OpenSpec.ofChange s with cond := some uptoSmall }

/-- 'quernlaw17.CrewNames', WHERE WHAT IT READS IS OF BULK AT MOST 1048576: true; the input reads as it did. -/
def crewNamesUptoRow : OpenClaim := { program := "ytbinccfmhaefaaagreatdoor", sum := "37e6f089973b967e96f47d288e07985bafd46be45b0f13afbab1781d851c416d", func := "quern/quernlaw17.CrewNames", spec := "crewNames", inPlace := ["internal/bytealg.MakeNoZero"], unfollowed := true, recurses := true, named := ["quern/crew.variants"], apart := false, laid := [("quern/crew.variants", laid_quern_crew_variants)], narrowed := true }
def CrewNamesUptoSaid : Prop := crewNamesUptoRow.holds Tryz.pinned (OpenSpec.upto crewNamesSpec)

end Rows
end Go.Proofs.YtbinccfmhaefaaaGreatDoor
