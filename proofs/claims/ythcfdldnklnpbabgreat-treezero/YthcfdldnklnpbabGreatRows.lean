/-
  No cell of these rows narrows 'for every input' (looked for: loops, veiled, ifaces, maps, wideKeys, modest, calm, conditions, laid).
  DERIVED. THE GIVEN ROWS OF THIS SEAT. 5 by the template 'for every input the law returns true; each argument reads behind the call as it read before'; 0 by the template 'total and deterministic' (their statements: YthcfdldnklnpbabGreatTotals.lean).
  GIVEN WITH THE SEED: the statements are not yours to turn. If you find one false, say at which input.
  Laid BY PROGRAM, IN A SANDBOX (cutbox-rows.mjs): the forced cells as the released guide's own fill.sh prints them over the translation e4ac0ed8a09fe28b… (all of the seat's roots in one cut). By AI agents, Wed Nov 11 2026. No macro, syntax, notation, axiom, sorry.
-/
import Derived.Test.YthcfdldnklnpbabGreatChecked
import GoSem.Claim
import GoSem.ClaimJoined
import GoSem.ClaimMapViews
import Derived.JoinedTies
import Derived.KernelRfl
namespace Go.Proofs.YthcfdldnklnpbabGreat
/- THE CELL 'sum', in the pinned program and in every row, IS THE sha256 OF THE DUMP (.gsa) THAT YthcfdldnklnpbabGreatProg.lean LOADS. Nothing in Lean hashes anything: it is a label: what it is worth is what the hold of that sum in a sandbox is worth. -/
noncomputable def Tryz.pinned : Pinned := { name := "ythcfdldnklnpbabgreat", sum := "e4ac0ed8a09fe28bcdfa99aae7438300ec671d056761768f9cd08a90a5cfc9e2", checked := Tryz.checked }
namespace Rows
def none {H : Type} : Left H := { results := [], args := [] }

/-- 'quernlaw10.TreeSmall': WHATEVER THE INPUT: true; the input reads as it did. -/
def treeSmallSpec : ChangeSpec := { name := "treeSmall", fn := fun _ => fun
  | [d1, d2] => { results := [.lit (.bool true)], args := [d1, d2] }
  | _ => none }
def treeSmallRow : OpenClaim := { program := "ythcfdldnklnpbabgreat", sum := "e4ac0ed8a09fe28bcdfa99aae7438300ec671d056761768f9cd08a90a5cfc9e2", func := "quern/quernlaw10.TreeSmall", spec := "treeSmall", inPlace := ["internal/bytealg.MakeNoZero"], unfollowed := true, recurses := true, apart := false }
def TreeSmallSaid : Prop := treeSmallRow.holds Tryz.pinned (OpenSpec.ofChange treeSmallSpec)

/-- ITS FALSE NEIGHBOUR: 'it returns false'. Refute it at one input. -/
def treeSmallWrong : ChangeSpec := { name := "treeSmall", fn := fun _ => fun
  | [d1, d2] => { results := [.lit (.bool false)], args := [d1, d2] }
  | _ => none }
def TreeSmallWrongFalsely : Prop := treeSmallRow.holds Tryz.pinned (OpenSpec.ofChange treeSmallWrong)

/-- 'quernlaw10.TreeNodes': WHATEVER THE INPUT: true; the input reads as it did. -/
def treeNodesSpec : ChangeSpec := { name := "treeNodes", fn := fun _ => fun
  | [d1, d2] => { results := [.lit (.bool true)], args := [d1, d2] }
  | _ => none }
def treeNodesRow : OpenClaim := { program := "ythcfdldnklnpbabgreat", sum := "e4ac0ed8a09fe28bcdfa99aae7438300ec671d056761768f9cd08a90a5cfc9e2", func := "quern/quernlaw10.TreeNodes", spec := "treeNodes", inPlace := ["internal/bytealg.MakeNoZero"], unfollowed := true, recurses := true, apart := false }
def TreeNodesSaid : Prop := treeNodesRow.holds Tryz.pinned (OpenSpec.ofChange treeNodesSpec)

/-- ITS FALSE NEIGHBOUR: 'it returns false'. Refute it at one input. -/
def treeNodesWrong : ChangeSpec := { name := "treeNodes", fn := fun _ => fun
  | [d1, d2] => { results := [.lit (.bool false)], args := [d1, d2] }
  | _ => none }
def TreeNodesWrongFalsely : Prop := treeNodesRow.holds Tryz.pinned (OpenSpec.ofChange treeNodesWrong)

/-- 'quernlaw10.TreeFold': WHATEVER THE INPUT: true; the input reads as it did. -/
def treeFoldSpec : ChangeSpec := { name := "treeFold", fn := fun _ => fun
  | [d1, d2] => { results := [.lit (.bool true)], args := [d1, d2] }
  | _ => none }
def treeFoldRow : OpenClaim := { program := "ythcfdldnklnpbabgreat", sum := "e4ac0ed8a09fe28bcdfa99aae7438300ec671d056761768f9cd08a90a5cfc9e2", func := "quern/quernlaw10.TreeFold", spec := "treeFold", inPlace := ["internal/bytealg.MakeNoZero"], unfollowed := true, recurses := true, apart := false }
def TreeFoldSaid : Prop := treeFoldRow.holds Tryz.pinned (OpenSpec.ofChange treeFoldSpec)

/-- ITS FALSE NEIGHBOUR: 'it returns false'. Refute it at one input. -/
def treeFoldWrong : ChangeSpec := { name := "treeFold", fn := fun _ => fun
  | [d1, d2] => { results := [.lit (.bool false)], args := [d1, d2] }
  | _ => none }
def TreeFoldWrongFalsely : Prop := treeFoldRow.holds Tryz.pinned (OpenSpec.ofChange treeFoldWrong)

/-- 'quernlaw10.TreeTouched': WHATEVER THE INPUT: true; the input reads as it did. -/
def treeTouchedSpec : ChangeSpec := { name := "treeTouched", fn := fun _ => fun
  | [d1, d2, d3] => { results := [.lit (.bool true)], args := [d1, d2, d3] }
  | _ => none }
def treeTouchedRow : OpenClaim := { program := "ythcfdldnklnpbabgreat", sum := "e4ac0ed8a09fe28bcdfa99aae7438300ec671d056761768f9cd08a90a5cfc9e2", func := "quern/quernlaw10.TreeTouched", spec := "treeTouched", inPlace := ["internal/bytealg.MakeNoZero"], unfollowed := true, recurses := true, apart := false }
def TreeTouchedSaid : Prop := treeTouchedRow.holds Tryz.pinned (OpenSpec.ofChange treeTouchedSpec)

/-- ITS FALSE NEIGHBOUR: 'it returns false'. Refute it at one input. -/
def treeTouchedWrong : ChangeSpec := { name := "treeTouched", fn := fun _ => fun
  | [d1, d2, d3] => { results := [.lit (.bool false)], args := [d1, d2, d3] }
  | _ => none }
def TreeTouchedWrongFalsely : Prop := treeTouchedRow.holds Tryz.pinned (OpenSpec.ofChange treeTouchedWrong)

/-- 'quernlaw10.TreeZero': WHATEVER THE INPUT: true; the input reads as it did. -/
def treeZeroSpec : ChangeSpec := { name := "treeZero", fn := fun _ => fun
  | [d] => { results := [.lit (.bool true)], args := [d] }
  | _ => none }
def treeZeroRow : OpenClaim := { program := "ythcfdldnklnpbabgreat", sum := "e4ac0ed8a09fe28bcdfa99aae7438300ec671d056761768f9cd08a90a5cfc9e2", func := "quern/quernlaw10.TreeZero", spec := "treeZero", inPlace := ["internal/bytealg.MakeNoZero"], unfollowed := true, recurses := true, apart := false }
def TreeZeroSaid : Prop := treeZeroRow.holds Tryz.pinned (OpenSpec.ofChange treeZeroSpec)

/-- ITS FALSE NEIGHBOUR: 'it returns false'. Refute it at one input. -/
def treeZeroWrong : ChangeSpec := { name := "treeZero", fn := fun _ => fun
  | [d] => { results := [.lit (.bool false)], args := [d] }
  | _ => none }
def TreeZeroWrongFalsely : Prop := treeZeroRow.holds Tryz.pinned (OpenSpec.ofChange treeZeroWrong)

/- THE SECOND FORM. 'bulk': how many values and letters a reading holds, each counted each time it is reached (what is shared counts as often as it is met; a slice's spare places count too). A statement '..UptoSaid' is the law's where the arguments, and the package variables that the reading takes, are together of bulk at most 1048576: NARROWER than '..Said'. Prove '..Said' where nothing that the law and all that it calls make is longer than what came in: it says more and counts as full. Else prove '..UptoSaid'. A law counts once. -/
mutual
def uptoBulk {H : Type} : DataW H → Nat
  | .lit (.string bytes) => bytes.length + 1
  | .lit _ => 1
  | .nil => 1
  | .ptr d => uptoBulk d + 1
  | .slice elems spare => uptoBulkAll elems + uptoBulkAll spare + 1
  | .agg parts => uptoBulkAll parts + 1
  | .iface _ d => uptoBulk d + 1
  | .map entries => uptoBulkEntries entries + 1
  | .held _ => 1
def uptoBulkAll {H : Type} : List (DataW H) → Nat
  | [] => 0
  | d :: r => uptoBulk d + uptoBulkAll r
def uptoBulkEntries {H : Type} : List (Lit × DataW H) → Nat
  | [] => 0
  | x :: r => uptoBulkEntry x + uptoBulkEntries r
def uptoBulkEntry {H : Type} : Lit × DataW H → Nat
  | (.string bytes, d) => bytes.length + uptoBulk d + 1
  | (_, d) => uptoBulk d + 1
 end
def uptoSmall : (H : Type) → List (DataW H) → Bool := fun _ ds => decide (uptoBulkAll ds ≤ 1048576)
def OpenSpec.upto (s : _root_.Go.ChangeSpec) : _root_.Go.OpenSpec := { _root_.Go.OpenSpec.ofChange s with cond := some uptoSmall }

/-- 'quernlaw10.TreeSmall', WHERE WHAT IT READS IS OF BULK AT MOST 1048576: true; the input reads as it did. -/
def treeSmallUptoRow : OpenClaim := { program := "ythcfdldnklnpbabgreat", sum := "e4ac0ed8a09fe28bcdfa99aae7438300ec671d056761768f9cd08a90a5cfc9e2", func := "quern/quernlaw10.TreeSmall", spec := "treeSmall", inPlace := ["internal/bytealg.MakeNoZero"], unfollowed := true, recurses := true, apart := false, narrowed := true }
def TreeSmallUptoSaid : Prop := treeSmallUptoRow.holds Tryz.pinned (OpenSpec.upto treeSmallSpec)

/-- 'quernlaw10.TreeNodes', WHERE WHAT IT READS IS OF BULK AT MOST 1048576: true; the input reads as it did. -/
def treeNodesUptoRow : OpenClaim := { program := "ythcfdldnklnpbabgreat", sum := "e4ac0ed8a09fe28bcdfa99aae7438300ec671d056761768f9cd08a90a5cfc9e2", func := "quern/quernlaw10.TreeNodes", spec := "treeNodes", inPlace := ["internal/bytealg.MakeNoZero"], unfollowed := true, recurses := true, apart := false, narrowed := true }
def TreeNodesUptoSaid : Prop := treeNodesUptoRow.holds Tryz.pinned (OpenSpec.upto treeNodesSpec)

/-- 'quernlaw10.TreeFold', WHERE WHAT IT READS IS OF BULK AT MOST 1048576: true; the input reads as it did. -/
def treeFoldUptoRow : OpenClaim := { program := "ythcfdldnklnpbabgreat", sum := "e4ac0ed8a09fe28bcdfa99aae7438300ec671d056761768f9cd08a90a5cfc9e2", func := "quern/quernlaw10.TreeFold", spec := "treeFold", inPlace := ["internal/bytealg.MakeNoZero"], unfollowed := true, recurses := true, apart := false, narrowed := true }
def TreeFoldUptoSaid : Prop := treeFoldUptoRow.holds Tryz.pinned (OpenSpec.upto treeFoldSpec)

/-- 'quernlaw10.TreeTouched', WHERE WHAT IT READS IS OF BULK AT MOST 1048576: true; the input reads as it did. -/
def treeTouchedUptoRow : OpenClaim := { program := "ythcfdldnklnpbabgreat", sum := "e4ac0ed8a09fe28bcdfa99aae7438300ec671d056761768f9cd08a90a5cfc9e2", func := "quern/quernlaw10.TreeTouched", spec := "treeTouched", inPlace := ["internal/bytealg.MakeNoZero"], unfollowed := true, recurses := true, apart := false, narrowed := true }
def TreeTouchedUptoSaid : Prop := treeTouchedUptoRow.holds Tryz.pinned (OpenSpec.upto treeTouchedSpec)

/-- 'quernlaw10.TreeZero', WHERE WHAT IT READS IS OF BULK AT MOST 1048576: true; the input reads as it did. -/
def treeZeroUptoRow : OpenClaim := { program := "ythcfdldnklnpbabgreat", sum := "e4ac0ed8a09fe28bcdfa99aae7438300ec671d056761768f9cd08a90a5cfc9e2", func := "quern/quernlaw10.TreeZero", spec := "treeZero", inPlace := ["internal/bytealg.MakeNoZero"], unfollowed := true, recurses := true, apart := false, narrowed := true }
def TreeZeroUptoSaid : Prop := treeZeroUptoRow.holds Tryz.pinned (OpenSpec.upto treeZeroSpec)

end Rows
end Go.Proofs.YthcfdldnklnpbabGreat
