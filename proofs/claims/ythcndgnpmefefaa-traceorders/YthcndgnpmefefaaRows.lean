/-
  No cell of these rows narrows 'for every input' (looked for: loops, veiled, ifaces, maps, wideKeys, modest, calm, conditions, laid).
  DERIVED. THE GIVEN ROWS OF THIS SEAT. 4 by the template 'for every input the law returns true; each argument reads behind the call as it read before'; 0 by the template 'total and deterministic' (their statements: YthcndgnpmefefaaTotals.lean).
  GIVEN WITH THE SEED: the statements are not yours to turn. If you find one false, say at which input.
  Laid BY PROGRAM, IN A SANDBOX (cutbox-rows.mjs): the forced cells as the released guide's own fill.sh prints them over the translation aab2f82c3414dea4… (all of the seat's roots in one cut). By AI agents, Wed Nov 11 2026. No macro, syntax, notation, axiom, sorry.
-/
import Derived.Test.YthcndgnpmefefaaChecked
import GoSem.Claim
import GoSem.ClaimJoined
import GoSem.ClaimMapViews
import Derived.JoinedTies
import Derived.KernelRfl
namespace Go.Proofs.Ythcndgnpmefefaa
/- THE CELL 'sum', in the pinned program and in every row, IS THE sha256 OF THE DUMP (.gsa) THAT YthcndgnpmefefaaProg.lean LOADS. Nothing in Lean hashes anything: it is a label: what it is worth is what the hold of that sum in a sandbox is worth. -/
noncomputable def Try.pinned : Pinned := { name := "ythcndgnpmefefaa", sum := "aab2f82c3414dea474a31508d8e62b62dd2ec1fde52ad61d4a52898eb40cda94", checked := Try.checked }
namespace Rows
def none {H : Type} : Left H := { results := [], args := [] }

/-- 'quernlaw14.TraceEdges': WHATEVER THE INPUT: true; the input reads as it did. -/
def traceEdgesSpec : ChangeSpec := { name := "traceEdges", fn := fun _ => fun
  | [d1, d2] => { results := [.lit (.bool true)], args := [d1, d2] }
  | _ => none }
def traceEdgesRow : OpenClaim := { program := "ythcndgnpmefefaa", sum := "aab2f82c3414dea474a31508d8e62b62dd2ec1fde52ad61d4a52898eb40cda94", func := "quern/quernlaw14.TraceEdges", spec := "traceEdges", unfollowed := true, recurses := true, apart := false }
def TraceEdgesSaid : Prop := traceEdgesRow.holds Try.pinned (OpenSpec.ofChange traceEdgesSpec)

/-- ITS FALSE NEIGHBOUR: 'it returns false'. Refute it at one input. -/
def traceEdgesWrong : ChangeSpec := { name := "traceEdges", fn := fun _ => fun
  | [d1, d2] => { results := [.lit (.bool false)], args := [d1, d2] }
  | _ => none }
def TraceEdgesWrongFalsely : Prop := traceEdgesRow.holds Try.pinned (OpenSpec.ofChange traceEdgesWrong)

/-- 'quernlaw14.TraceClocks': WHATEVER THE INPUT: true; the input reads as it did. -/
def traceClocksSpec : ChangeSpec := { name := "traceClocks", fn := fun _ => fun
  | [d1, d2] => { results := [.lit (.bool true)], args := [d1, d2] }
  | _ => none }
def traceClocksRow : OpenClaim := { program := "ythcndgnpmefefaa", sum := "aab2f82c3414dea474a31508d8e62b62dd2ec1fde52ad61d4a52898eb40cda94", func := "quern/quernlaw14.TraceClocks", spec := "traceClocks", unfollowed := true, recurses := true, apart := false }
def TraceClocksSaid : Prop := traceClocksRow.holds Try.pinned (OpenSpec.ofChange traceClocksSpec)

/-- ITS FALSE NEIGHBOUR: 'it returns false'. Refute it at one input. -/
def traceClocksWrong : ChangeSpec := { name := "traceClocks", fn := fun _ => fun
  | [d1, d2] => { results := [.lit (.bool false)], args := [d1, d2] }
  | _ => none }
def TraceClocksWrongFalsely : Prop := traceClocksRow.holds Try.pinned (OpenSpec.ofChange traceClocksWrong)

/-- 'quernlaw14.TraceOrders': WHATEVER THE INPUT: true; the input reads as it did. -/
def traceOrdersSpec : ChangeSpec := { name := "traceOrders", fn := fun _ => fun
  | [d1, d2, d3] => { results := [.lit (.bool true)], args := [d1, d2, d3] }
  | _ => none }
def traceOrdersRow : OpenClaim := { program := "ythcndgnpmefefaa", sum := "aab2f82c3414dea474a31508d8e62b62dd2ec1fde52ad61d4a52898eb40cda94", func := "quern/quernlaw14.TraceOrders", spec := "traceOrders", unfollowed := true, recurses := true, apart := false }
def TraceOrdersSaid : Prop := traceOrdersRow.holds Try.pinned (OpenSpec.ofChange traceOrdersSpec)

/-- ITS FALSE NEIGHBOUR: 'it returns false'. Refute it at one input. -/
def traceOrdersWrong : ChangeSpec := { name := "traceOrders", fn := fun _ => fun
  | [d1, d2, d3] => { results := [.lit (.bool false)], args := [d1, d2, d3] }
  | _ => none }
def TraceOrdersWrongFalsely : Prop := traceOrdersRow.holds Try.pinned (OpenSpec.ofChange traceOrdersWrong)

/-- 'quernlaw14.TraceWays': WHATEVER THE INPUT: true; the input reads as it did. -/
def traceWaysSpec : ChangeSpec := { name := "traceWays", fn := fun _ => fun
  | [d1, d2, d3] => { results := [.lit (.bool true)], args := [d1, d2, d3] }
  | _ => none }
def traceWaysRow : OpenClaim := { program := "ythcndgnpmefefaa", sum := "aab2f82c3414dea474a31508d8e62b62dd2ec1fde52ad61d4a52898eb40cda94", func := "quern/quernlaw14.TraceWays", spec := "traceWays", unfollowed := true, recurses := true, apart := false }
def TraceWaysSaid : Prop := traceWaysRow.holds Try.pinned (OpenSpec.ofChange traceWaysSpec)

/-- ITS FALSE NEIGHBOUR: 'it returns false'. Refute it at one input. -/
def traceWaysWrong : ChangeSpec := { name := "traceWays", fn := fun _ => fun
  | [d1, d2, d3] => { results := [.lit (.bool false)], args := [d1, d2, d3] }
  | _ => none }
def TraceWaysWrongFalsely : Prop := traceWaysRow.holds Try.pinned (OpenSpec.ofChange traceWaysWrong)

/- THE SECOND FORM. 'bulk': how many values and letters a reading holds, each counted each time it is reached (what is shared counts as often as it is met; a slice's spare places count too). A statement '..UptoSaid' is the law's where the arguments, and the package variables that the reading takes, are together of bulk at most 1048576: NARROWER than '..Said'. Prove '..Said' where nothing that the law and all that it calls make is longer than what came in: it says more and counts as full. Else prove '..UptoSaid'. A law counts once. -/
mutual
def uptoBulk {H : Type} : DataW H → Nat
  | .lit (.string bytes) => bytes.length + 1
  | .lit _ => 1
  | .nil => 1
  | .ptr d => uptoBulk d + 1
  | .slice elems spare => uptoBulkAll elems + uptoBulkAll spare + 1
  | .agg parts => uptoBulkAll parts + 1
  | .iface _ d => uptoBulk d + 1
  | .map entries => uptoBulkEntries entries + 1
  | .held _ => 1
def uptoBulkAll {H : Type} : List (DataW H) → Nat
  | [] => 0
  | d :: r => uptoBulk d + uptoBulkAll r
def uptoBulkEntries {H : Type} : List (Lit × DataW H) → Nat
  | [] => 0
  | x :: r => uptoBulkEntry x + uptoBulkEntries r
def uptoBulkEntry {H : Type} : Lit × DataW H → Nat
  | (.string bytes, d) => bytes.length + uptoBulk d + 1
  | (_, d) => uptoBulk d + 1
 end
def uptoSmall : (H : Type) → List (DataW H) → Bool := fun _ ds => decide (uptoBulkAll ds ≤ 1048576)
def OpenSpec.upto (s : _root_.Go.ChangeSpec) : _root_.Go.OpenSpec := { _root_.Go.OpenSpec.ofChange s with cond := some uptoSmall }

/-- 'quernlaw14.TraceEdges', WHERE WHAT IT READS IS OF BULK AT MOST 1048576: true; the input reads as it did. -/
def traceEdgesUptoRow : OpenClaim := { program := "ythcndgnpmefefaa", sum := "aab2f82c3414dea474a31508d8e62b62dd2ec1fde52ad61d4a52898eb40cda94", func := "quern/quernlaw14.TraceEdges", spec := "traceEdges", unfollowed := true, recurses := true, apart := false, narrowed := true }
def TraceEdgesUptoSaid : Prop := traceEdgesUptoRow.holds Try.pinned (OpenSpec.upto traceEdgesSpec)

/-- 'quernlaw14.TraceClocks', WHERE WHAT IT READS IS OF BULK AT MOST 1048576: true; the input reads as it did. -/
def traceClocksUptoRow : OpenClaim := { program := "ythcndgnpmefefaa", sum := "aab2f82c3414dea474a31508d8e62b62dd2ec1fde52ad61d4a52898eb40cda94", func := "quern/quernlaw14.TraceClocks", spec := "traceClocks", unfollowed := true, recurses := true, apart := false, narrowed := true }
def TraceClocksUptoSaid : Prop := traceClocksUptoRow.holds Try.pinned (OpenSpec.upto traceClocksSpec)

/-- 'quernlaw14.TraceOrders', WHERE WHAT IT READS IS OF BULK AT MOST 1048576: true; the input reads as it did. -/
def traceOrdersUptoRow : OpenClaim := { program := "ythcndgnpmefefaa", sum := "aab2f82c3414dea474a31508d8e62b62dd2ec1fde52ad61d4a52898eb40cda94", func := "quern/quernlaw14.TraceOrders", spec := "traceOrders", unfollowed := true, recurses := true, apart := false, narrowed := true }
def TraceOrdersUptoSaid : Prop := traceOrdersUptoRow.holds Try.pinned (OpenSpec.upto traceOrdersSpec)

/-- 'quernlaw14.TraceWays', WHERE WHAT IT READS IS OF BULK AT MOST 1048576: true; the input reads as it did. -/
def traceWaysUptoRow : OpenClaim := { program := "ythcndgnpmefefaa", sum := "aab2f82c3414dea474a31508d8e62b62dd2ec1fde52ad61d4a52898eb40cda94", func := "quern/quernlaw14.TraceWays", spec := "traceWays", unfollowed := true, recurses := true, apart := false, narrowed := true }
def TraceWaysUptoSaid : Prop := traceWaysUptoRow.holds Try.pinned (OpenSpec.upto traceWaysSpec)

end Rows
end Go.Proofs.Ythcndgnpmefefaa
