/-
  No cell of these rows narrows 'for every input' (looked for: loops, veiled, ifaces, maps, wideKeys, modest, calm, conditions, laid).
  DERIVED. THE GIVEN ROWS OF THIS SEAT. 3 by the template 'for every input the law returns true; each argument reads behind the call as it read before'; 0 by the template 'total and deterministic' (their statements: YtahmjdnnkifmnaaTotals.lean).
  GIVEN WITH THE SEED: the statements are not yours to turn. If you find one false, say at which input.
  Laid BY PROGRAM, IN A SANDBOX (cutbox-rows.mjs): the forced cells as the released guide's own fill.sh prints them over the translation 21c93958e8b8a23c… (all of the seat's roots in one cut). By AI agents, Wed Nov 11 2026. No macro, syntax, notation, axiom, sorry.
-/
import Derived.Test.YtahmjdnnkifmnaaChecked
import GoSem.Claim
import GoSem.ClaimJoined
import GoSem.ClaimMapViews
import Derived.JoinedTies
import Derived.KernelRfl
namespace Go.Proofs.Ytahmjdnnkifmnaa
/- THE CELL 'sum', in the pinned program and in every row, IS THE sha256 OF THE DUMP (.gsa) THAT YtahmjdnnkifmnaaProg.lean LOADS. Nothing in Lean hashes anything: it is a label: what it is worth is what the hold of that sum in a sandbox is worth. -/
noncomputable def Try.pinned : Pinned := { name := "ytahmjdnnkifmnaa", sum := "21c93958e8b8a23c50010dafd30edbf01c94a409b7211c6a398769e3bd44d3d1", checked := Try.checked }
namespace Rows
def none {H : Type} : Left H := { results := [], args := [] }

/-- 'quernlaw09.ShapeSpots': WHATEVER THE INPUT: true; the input reads as it did. -/
def shapeSpotsSpec : ChangeSpec := { name := "shapeSpots", fn := fun _ => fun
  | [d1, d2, d3, d4] => { results := [.lit (.bool true)], args := [d1, d2, d3, d4] }
  | _ => none }
def shapeSpotsRow : OpenClaim := { program := "ytahmjdnnkifmnaa", sum := "21c93958e8b8a23c50010dafd30edbf01c94a409b7211c6a398769e3bd44d3d1", func := "quern/quernlaw09.ShapeSpots", spec := "shapeSpots", unfollowed := true, recurses := true, apart := false }
def ShapeSpotsSaid : Prop := shapeSpotsRow.holds Try.pinned (OpenSpec.ofChange shapeSpotsSpec)

/-- ITS FALSE NEIGHBOUR: 'it returns false'. Refute it at one input. -/
def shapeSpotsWrong : ChangeSpec := { name := "shapeSpots", fn := fun _ => fun
  | [d1, d2, d3, d4] => { results := [.lit (.bool false)], args := [d1, d2, d3, d4] }
  | _ => none }
def ShapeSpotsWrongFalsely : Prop := shapeSpotsRow.holds Try.pinned (OpenSpec.ofChange shapeSpotsWrong)

/-- 'quernlaw09.ShapeParams': WHATEVER THE INPUT: true; the input reads as it did. -/
def shapeParamsSpec : ChangeSpec := { name := "shapeParams", fn := fun _ => fun
  | [d1, d2, d3, d4] => { results := [.lit (.bool true)], args := [d1, d2, d3, d4] }
  | _ => none }
def shapeParamsRow : OpenClaim := { program := "ytahmjdnnkifmnaa", sum := "21c93958e8b8a23c50010dafd30edbf01c94a409b7211c6a398769e3bd44d3d1", func := "quern/quernlaw09.ShapeParams", spec := "shapeParams", unfollowed := true, recurses := true, apart := false }
def ShapeParamsSaid : Prop := shapeParamsRow.holds Try.pinned (OpenSpec.ofChange shapeParamsSpec)

/-- ITS FALSE NEIGHBOUR: 'it returns false'. Refute it at one input. -/
def shapeParamsWrong : ChangeSpec := { name := "shapeParams", fn := fun _ => fun
  | [d1, d2, d3, d4] => { results := [.lit (.bool false)], args := [d1, d2, d3, d4] }
  | _ => none }
def ShapeParamsWrongFalsely : Prop := shapeParamsRow.holds Try.pinned (OpenSpec.ofChange shapeParamsWrong)

/-- 'quernlaw09.ShapeTiles': WHATEVER THE INPUT: true; the input reads as it did. -/
def shapeTilesSpec : ChangeSpec := { name := "shapeTiles", fn := fun _ => fun
  | [d1, d2, d3, d4] => { results := [.lit (.bool true)], args := [d1, d2, d3, d4] }
  | _ => none }
def shapeTilesRow : OpenClaim := { program := "ytahmjdnnkifmnaa", sum := "21c93958e8b8a23c50010dafd30edbf01c94a409b7211c6a398769e3bd44d3d1", func := "quern/quernlaw09.ShapeTiles", spec := "shapeTiles", unfollowed := true, recurses := true, apart := false }
def ShapeTilesSaid : Prop := shapeTilesRow.holds Try.pinned (OpenSpec.ofChange shapeTilesSpec)

/-- ITS FALSE NEIGHBOUR: 'it returns false'. Refute it at one input. -/
def shapeTilesWrong : ChangeSpec := { name := "shapeTiles", fn := fun _ => fun
  | [d1, d2, d3, d4] => { results := [.lit (.bool false)], args := [d1, d2, d3, d4] }
  | _ => none }
def ShapeTilesWrongFalsely : Prop := shapeTilesRow.holds Try.pinned (OpenSpec.ofChange shapeTilesWrong)

/- THE SECOND FORM. 'bulk': how many values and letters a reading holds, each counted each time it is reached (what is shared counts as often as it is met; a slice's spare places count too). A statement '..UptoSaid' is the law's where the arguments, and the package variables that the reading takes, are together of bulk at most 1048576: NARROWER than '..Said'. Prove '..Said' where nothing that the law and all that it calls make is longer than what came in: it says more and counts as full. Else prove '..UptoSaid'. A law counts once. -/
mutual
def uptoBulk {H : Type} : DataW H → Nat
  | .lit (.string bytes) => bytes.length + 1
  | .lit _ => 1
  | .nil => 1
  | .ptr d => uptoBulk d + 1
  | .slice elems spare => uptoBulkAll elems + uptoBulkAll spare + 1
  | .agg parts => uptoBulkAll parts + 1
  | .iface _ d => uptoBulk d + 1
  | .map entries => uptoBulkEntries entries + 1
  | .held _ => 1
def uptoBulkAll {H : Type} : List (DataW H) → Nat
  | [] => 0
  | d :: r => uptoBulk d + uptoBulkAll r
def uptoBulkEntries {H : Type} : List (Lit × DataW H) → Nat
  | [] => 0
  | x :: r => uptoBulkEntry x + uptoBulkEntries r
def uptoBulkEntry {H : Type} : Lit × DataW H → Nat
  | (.string bytes, d) => bytes.length + uptoBulk d + 1
  | (_, d) => uptoBulk d + 1
 end
def uptoSmall : (H : Type) → List (DataW H) → Bool := fun _ ds => decide (uptoBulkAll ds ≤ 1048576)
def OpenSpec.upto (s : _root_.Go.ChangeSpec) : _root_.Go.OpenSpec := { _root_.Go.OpenSpec.ofChange s with cond := some uptoSmall }

/-- 'quernlaw09.ShapeSpots', WHERE WHAT IT READS IS OF BULK AT MOST 1048576: true; the input reads as it did. -/
def shapeSpotsUptoRow : OpenClaim := { program := "ytahmjdnnkifmnaa", sum := "21c93958e8b8a23c50010dafd30edbf01c94a409b7211c6a398769e3bd44d3d1", func := "quern/quernlaw09.ShapeSpots", spec := "shapeSpots", unfollowed := true, recurses := true, apart := false, narrowed := true }
def ShapeSpotsUptoSaid : Prop := shapeSpotsUptoRow.holds Try.pinned (OpenSpec.upto shapeSpotsSpec)

/-- 'quernlaw09.ShapeParams', WHERE WHAT IT READS IS OF BULK AT MOST 1048576: true; the input reads as it did. -/
def shapeParamsUptoRow : OpenClaim := { program := "ytahmjdnnkifmnaa", sum := "21c93958e8b8a23c50010dafd30edbf01c94a409b7211c6a398769e3bd44d3d1", func := "quern/quernlaw09.ShapeParams", spec := "shapeParams", unfollowed := true, recurses := true, apart := false, narrowed := true }
def ShapeParamsUptoSaid : Prop := shapeParamsUptoRow.holds Try.pinned (OpenSpec.upto shapeParamsSpec)

/-- 'quernlaw09.ShapeTiles', WHERE WHAT IT READS IS OF BULK AT MOST 1048576: true; the input reads as it did. -/
def shapeTilesUptoRow : OpenClaim := { program := "ytahmjdnnkifmnaa", sum := "21c93958e8b8a23c50010dafd30edbf01c94a409b7211c6a398769e3bd44d3d1", func := "quern/quernlaw09.ShapeTiles", spec := "shapeTiles", unfollowed := true, recurses := true, apart := false, narrowed := true }
def ShapeTilesUptoSaid : Prop := shapeTilesUptoRow.holds Try.pinned (OpenSpec.upto shapeTilesSpec)

end Rows
end Go.Proofs.Ytahmjdnnkifmnaa
