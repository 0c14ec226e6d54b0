/-
  No cell of these rows narrows 'for every input' (looked for: loops, veiled, ifaces, maps, wideKeys, modest, calm, conditions, laid).
  DERIVED. THE GIVEN ROWS OF THIS SEAT. 3 by the template 'for every input the law returns true; each argument reads behind the call as it read before'; 0 by the template 'total and deterministic' (their statements: YthbakhgfnfdahabGreatTotals.lean).
  GIVEN WITH THE SEED: the statements are not yours to turn. If you find one false, say at which input.
  Laid BY PROGRAM, IN A SANDBOX (cutbox-rows.mjs): the forced cells as the released guide's own fill.sh prints them over the translation 0e688050edb48179… (all of the seat's roots in one cut). By AI agents, Wed Nov 11 2026. No macro, syntax, notation, axiom, sorry.
-/
import Derived.Test.YthbakhgfnfdahabGreatChecked
import GoSem.Claim
import GoSem.ClaimJoined
import GoSem.ClaimMapViews
import Derived.JoinedTies
import Derived.KernelRfl
namespace Go.Proofs.YthbakhgfnfdahabGreat
/- THE CELL 'sum', in the pinned program and in every row, IS THE sha256 OF THE DUMP (.gsa) THAT YthbakhgfnfdahabGreatProg.lean LOADS. Nothing in Lean hashes anything: it is a label: what it is worth is what the hold of that sum in a sandbox is worth. -/
noncomputable def Tryz.pinned : Pinned := { name := "ythbakhgfnfdahabgreat", sum := "0e688050edb4817990444eab60ddaaf49a35529c02d62502b7b5b33ec7408613", checked := Tryz.checked }
namespace Rows
def none {H : Type} : Left H := { results := [], args := [] }

/-- 'quernlaw08.LaneRoots': WHATEVER THE INPUT: true; the input reads as it did. -/
def laneRootsSpec : ChangeSpec := { name := "laneRoots", fn := fun _ => fun
  | [d] => { results := [.lit (.bool true)], args := [d] }
  | _ => none }
def laneRootsRow : OpenClaim := { program := "ythbakhgfnfdahabgreat", sum := "0e688050edb4817990444eab60ddaaf49a35529c02d62502b7b5b33ec7408613", func := "quern/quernlaw08.LaneRoots", spec := "laneRoots", inPlace := ["internal/bytealg.MakeNoZero"], unfollowed := true, recurses := true, apart := false }
def LaneRootsSaid : Prop := laneRootsRow.holds Tryz.pinned (OpenSpec.ofChange laneRootsSpec)

/-- ITS FALSE NEIGHBOUR: 'it returns false'. Refute it at one input. -/
def laneRootsWrong : ChangeSpec := { name := "laneRoots", fn := fun _ => fun
  | [d] => { results := [.lit (.bool false)], args := [d] }
  | _ => none }
def LaneRootsWrongFalsely : Prop := laneRootsRow.holds Tryz.pinned (OpenSpec.ofChange laneRootsWrong)

/-- 'quernlaw08.LaneAlone': WHATEVER THE INPUT: true; the input reads as it did. -/
def laneAloneSpec : ChangeSpec := { name := "laneAlone", fn := fun _ => fun
  | [d1, d2] => { results := [.lit (.bool true)], args := [d1, d2] }
  | _ => none }
def laneAloneRow : OpenClaim := { program := "ythbakhgfnfdahabgreat", sum := "0e688050edb4817990444eab60ddaaf49a35529c02d62502b7b5b33ec7408613", func := "quern/quernlaw08.LaneAlone", spec := "laneAlone", inPlace := ["internal/bytealg.MakeNoZero"], unfollowed := true, recurses := true, apart := false }
def LaneAloneSaid : Prop := laneAloneRow.holds Tryz.pinned (OpenSpec.ofChange laneAloneSpec)

/-- ITS FALSE NEIGHBOUR: 'it returns false'. Refute it at one input. -/
def laneAloneWrong : ChangeSpec := { name := "laneAlone", fn := fun _ => fun
  | [d1, d2] => { results := [.lit (.bool false)], args := [d1, d2] }
  | _ => none }
def LaneAloneWrongFalsely : Prop := laneAloneRow.holds Tryz.pinned (OpenSpec.ofChange laneAloneWrong)

/-- 'quernlaw08.LaneZero': WHATEVER THE INPUT: true; the input reads as it did. -/
def laneZeroSpec : ChangeSpec := { name := "laneZero", fn := fun _ => fun
  | [d] => { results := [.lit (.bool true)], args := [d] }
  | _ => none }
def laneZeroRow : OpenClaim := { program := "ythbakhgfnfdahabgreat", sum := "0e688050edb4817990444eab60ddaaf49a35529c02d62502b7b5b33ec7408613", func := "quern/quernlaw08.LaneZero", spec := "laneZero", inPlace := ["internal/bytealg.MakeNoZero"], unfollowed := true, recurses := true, apart := false }
def LaneZeroSaid : Prop := laneZeroRow.holds Tryz.pinned (OpenSpec.ofChange laneZeroSpec)

/-- ITS FALSE NEIGHBOUR: 'it returns false'. Refute it at one input. -/
def laneZeroWrong : ChangeSpec := { name := "laneZero", fn := fun _ => fun
  | [d] => { results := [.lit (.bool false)], args := [d] }
  | _ => none }
def LaneZeroWrongFalsely : Prop := laneZeroRow.holds Tryz.pinned (OpenSpec.ofChange laneZeroWrong)

/- THE SECOND FORM. 'bulk': how many values and letters a reading holds, each counted each time it is reached (what is shared counts as often as it is met; a slice's spare places count too). A statement '..UptoSaid' is the law's where the arguments, and the package variables that the reading takes, are together of bulk at most 1048576: NARROWER than '..Said'. Prove '..Said' where nothing that the law and all that it calls make is longer than what came in: it says more and counts as full. Else prove '..UptoSaid'. A law counts once. -/
mutual
def uptoBulk {H : Type} : DataW H → Nat
  | .lit (.string bytes) => bytes.length + 1
  | .lit _ => 1
  | .nil => 1
  | .ptr d => uptoBulk d + 1
  | .slice elems spare => uptoBulkAll elems + uptoBulkAll spare + 1
  | .agg parts => uptoBulkAll parts + 1
  | .iface _ d => uptoBulk d + 1
  | .map entries => uptoBulkEntries entries + 1
  | .held _ => 1
def uptoBulkAll {H : Type} : List (DataW H) → Nat
  | [] => 0
  | d :: r => uptoBulk d + uptoBulkAll r
def uptoBulkEntries {H : Type} : List (Lit × DataW H) → Nat
  | [] => 0
  | x :: r => uptoBulkEntry x + uptoBulkEntries r
def uptoBulkEntry {H : Type} : Lit × DataW H → Nat
  | (.string bytes, d) => bytes.length + uptoBulk d + 1
  | (_, d) => uptoBulk d + 1
 end
def uptoSmall : (H : Type) → List (DataW H) → Bool := fun _ ds => decide (uptoBulkAll ds ≤ 1048576)
def OpenSpec.upto (s : _root_.Go.ChangeSpec) : _root_.Go.OpenSpec := { _root_.Go.OpenSpec.ofChange s with cond := some uptoSmall }

/-- 'quernlaw08.LaneRoots', WHERE WHAT IT READS IS OF BULK AT MOST 1048576: true; the input reads as it did. -/
def laneRootsUptoRow : OpenClaim := { program := "ythbakhgfnfdahabgreat", sum := "0e688050edb4817990444eab60ddaaf49a35529c02d62502b7b5b33ec7408613", func := "quern/quernlaw08.LaneRoots", spec := "laneRoots", inPlace := ["internal/bytealg.MakeNoZero"], unfollowed := true, recurses := true, apart := false, narrowed := true }
def LaneRootsUptoSaid : Prop := laneRootsUptoRow.holds Tryz.pinned (OpenSpec.upto laneRootsSpec)

/-- 'quernlaw08.LaneAlone', WHERE WHAT IT READS IS OF BULK AT MOST 1048576: true; the input reads as it did. -/
def laneAloneUptoRow : OpenClaim := { program := "ythbakhgfnfdahabgreat", sum := "0e688050edb4817990444eab60ddaaf49a35529c02d62502b7b5b33ec7408613", func := "quern/quernlaw08.LaneAlone", spec := "laneAlone", inPlace := ["internal/bytealg.MakeNoZero"], unfollowed := true, recurses := true, apart := false, narrowed := true }
def LaneAloneUptoSaid : Prop := laneAloneUptoRow.holds Tryz.pinned (OpenSpec.upto laneAloneSpec)

/-- 'quernlaw08.LaneZero', WHERE WHAT IT READS IS OF BULK AT MOST 1048576: true; the input reads as it did. -/
def laneZeroUptoRow : OpenClaim := { program := "ythbakhgfnfdahabgreat", sum := "0e688050edb4817990444eab60ddaaf49a35529c02d62502b7b5b33ec7408613", func := "quern/quernlaw08.LaneZero", spec := "laneZero", inPlace := ["internal/bytealg.MakeNoZero"], unfollowed := true, recurses := true, apart := false, narrowed := true }
def LaneZeroUptoSaid : Prop := laneZeroUptoRow.holds Tryz.pinned (OpenSpec.upto laneZeroSpec)

end Rows
end Go.Proofs.YthbakhgfnfdahabGreat
