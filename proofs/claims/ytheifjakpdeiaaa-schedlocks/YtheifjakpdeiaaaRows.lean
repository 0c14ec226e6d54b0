/-
  No cell of these rows narrows 'for every input' (looked for: loops, veiled, ifaces, maps, wideKeys, modest, calm, conditions, laid).
  DERIVED. THE GIVEN ROWS OF THIS SEAT. 6 by the template 'for every input the law returns true; each argument reads behind the call as it read before'; 0 by the template 'total and deterministic' (their statements: YtheifjakpdeiaaaTotals.lean).
  GIVEN WITH THE SEED: the statements are not yours to turn. If you find one false, say at which input.
  Laid BY PROGRAM, IN A SANDBOX (cutbox-rows.mjs): the forced cells as the released guide's own fill.sh prints them over the translation f5cf65c56f288c95… (all of the seat's roots in one cut). By AI agents, Wed Nov 11 2026. No macro, syntax, notation, axiom, sorry.
-/
import Derived.Test.YtheifjakpdeiaaaChecked
import GoSem.Claim
import GoSem.ClaimJoined
import GoSem.ClaimMapViews
import Derived.JoinedTies
import Derived.KernelRfl
namespace Go.Proofs.Ytheifjakpdeiaaa
/- THE CELL 'sum', in the pinned program and in every row, IS THE sha256 OF THE DUMP (.gsa) THAT YtheifjakpdeiaaaProg.lean LOADS. Nothing in Lean hashes anything: it is a label: what it is worth is what the hold of that sum in a sandbox is worth. -/
noncomputable def Try.pinned : Pinned := { name := "ytheifjakpdeiaaa", sum := "f5cf65c56f288c95096b7736f550e9026958edf07e80c68b5a126936580fb8e9", checked := Try.checked }
namespace Rows
def none {H : Type} : Left H := { results := [], args := [] }

/-- 'quernlaw13.SchedValid': WHATEVER THE INPUT: true; the input reads as it did. -/
def schedValidSpec : ChangeSpec := { name := "schedValid", fn := fun _ => fun
  | [d] => { results := [.lit (.bool true)], args := [d] }
  | _ => none }
def schedValidRow : OpenClaim := { program := "ytheifjakpdeiaaa", sum := "f5cf65c56f288c95096b7736f550e9026958edf07e80c68b5a126936580fb8e9", func := "quern/quernlaw13.SchedValid", spec := "schedValid", unfollowed := true, recurses := true, apart := false }
def SchedValidSaid : Prop := schedValidRow.holds Try.pinned (OpenSpec.ofChange schedValidSpec)

/-- ITS FALSE NEIGHBOUR: 'it returns false'. Refute it at one input. -/
def schedValidWrong : ChangeSpec := { name := "schedValid", fn := fun _ => fun
  | [d] => { results := [.lit (.bool false)], args := [d] }
  | _ => none }
def SchedValidWrongFalsely : Prop := schedValidRow.holds Try.pinned (OpenSpec.ofChange schedValidWrong)

/-- 'quernlaw13.SchedBegins': WHATEVER THE INPUT: true; the input reads as it did. -/
def schedBeginsSpec : ChangeSpec := { name := "schedBegins", fn := fun _ => fun
  | [d1, d2, d3] => { results := [.lit (.bool true)], args := [d1, d2, d3] }
  | _ => none }
def schedBeginsRow : OpenClaim := { program := "ytheifjakpdeiaaa", sum := "f5cf65c56f288c95096b7736f550e9026958edf07e80c68b5a126936580fb8e9", func := "quern/quernlaw13.SchedBegins", spec := "schedBegins", unfollowed := true, recurses := true, apart := false }
def SchedBeginsSaid : Prop := schedBeginsRow.holds Try.pinned (OpenSpec.ofChange schedBeginsSpec)

/-- ITS FALSE NEIGHBOUR: 'it returns false'. Refute it at one input. -/
def schedBeginsWrong : ChangeSpec := { name := "schedBegins", fn := fun _ => fun
  | [d1, d2, d3] => { results := [.lit (.bool false)], args := [d1, d2, d3] }
  | _ => none }
def SchedBeginsWrongFalsely : Prop := schedBeginsRow.holds Try.pinned (OpenSpec.ofChange schedBeginsWrong)

/-- 'quernlaw13.SchedChannels': WHATEVER THE INPUT: true; the input reads as it did. -/
def schedChannelsSpec : ChangeSpec := { name := "schedChannels", fn := fun _ => fun
  | [d1, d2] => { results := [.lit (.bool true)], args := [d1, d2] }
  | _ => none }
def schedChannelsRow : OpenClaim := { program := "ytheifjakpdeiaaa", sum := "f5cf65c56f288c95096b7736f550e9026958edf07e80c68b5a126936580fb8e9", func := "quern/quernlaw13.SchedChannels", spec := "schedChannels", unfollowed := true, recurses := true, apart := false }
def SchedChannelsSaid : Prop := schedChannelsRow.holds Try.pinned (OpenSpec.ofChange schedChannelsSpec)

/-- ITS FALSE NEIGHBOUR: 'it returns false'. Refute it at one input. -/
def schedChannelsWrong : ChangeSpec := { name := "schedChannels", fn := fun _ => fun
  | [d1, d2] => { results := [.lit (.bool false)], args := [d1, d2] }
  | _ => none }
def SchedChannelsWrongFalsely : Prop := schedChannelsRow.holds Try.pinned (OpenSpec.ofChange schedChannelsWrong)

/-- 'quernlaw13.SchedLocks': WHATEVER THE INPUT: true; the input reads as it did. -/
def schedLocksSpec : ChangeSpec := { name := "schedLocks", fn := fun _ => fun
  | [d1, d2] => { results := [.lit (.bool true)], args := [d1, d2] }
  | _ => none }
def schedLocksRow : OpenClaim := { program := "ytheifjakpdeiaaa", sum := "f5cf65c56f288c95096b7736f550e9026958edf07e80c68b5a126936580fb8e9", func := "quern/quernlaw13.SchedLocks", spec := "schedLocks", unfollowed := true, recurses := true, apart := false }
def SchedLocksSaid : Prop := schedLocksRow.holds Try.pinned (OpenSpec.ofChange schedLocksSpec)

/-- ITS FALSE NEIGHBOUR: 'it returns false'. Refute it at one input. -/
def schedLocksWrong : ChangeSpec := { name := "schedLocks", fn := fun _ => fun
  | [d1, d2] => { results := [.lit (.bool false)], args := [d1, d2] }
  | _ => none }
def SchedLocksWrongFalsely : Prop := schedLocksRow.holds Try.pinned (OpenSpec.ofChange schedLocksWrong)

/-- 'quernlaw13.SchedTurns': WHATEVER THE INPUT: true; the input reads as it did. -/
def schedTurnsSpec : ChangeSpec := { name := "schedTurns", fn := fun _ => fun
  | [d1, d2, d3] => { results := [.lit (.bool true)], args := [d1, d2, d3] }
  | _ => none }
def schedTurnsRow : OpenClaim := { program := "ytheifjakpdeiaaa", sum := "f5cf65c56f288c95096b7736f550e9026958edf07e80c68b5a126936580fb8e9", func := "quern/quernlaw13.SchedTurns", spec := "schedTurns", unfollowed := true, recurses := true, apart := false }
def SchedTurnsSaid : Prop := schedTurnsRow.holds Try.pinned (OpenSpec.ofChange schedTurnsSpec)

/-- ITS FALSE NEIGHBOUR: 'it returns false'. Refute it at one input. -/
def schedTurnsWrong : ChangeSpec := { name := "schedTurns", fn := fun _ => fun
  | [d1, d2, d3] => { results := [.lit (.bool false)], args := [d1, d2, d3] }
  | _ => none }
def SchedTurnsWrongFalsely : Prop := schedTurnsRow.holds Try.pinned (OpenSpec.ofChange schedTurnsWrong)

/-- 'quernlaw13.SchedNames': WHATEVER THE INPUT: true; the input reads as it did. -/
def schedNamesSpec : ChangeSpec := { name := "schedNames", fn := fun _ => fun
  | [] => { results := [.lit (.bool true)], args := [] }
  | _ => none }
def schedNamesRow : OpenClaim := { program := "ytheifjakpdeiaaa", sum := "f5cf65c56f288c95096b7736f550e9026958edf07e80c68b5a126936580fb8e9", func := "quern/quernlaw13.SchedNames", spec := "schedNames", apart := false }
def SchedNamesSaid : Prop := schedNamesRow.holds Try.pinned (OpenSpec.ofChange schedNamesSpec)

/-- ITS FALSE NEIGHBOUR: 'it returns false'. Refute it at one input. -/
def schedNamesWrong : ChangeSpec := { name := "schedNames", fn := fun _ => fun
  | [] => { results := [.lit (.bool false)], args := [] }
  | _ => none }
def SchedNamesWrongFalsely : Prop := schedNamesRow.holds Try.pinned (OpenSpec.ofChange schedNamesWrong)

/- THE SECOND FORM. 'bulk': how many values and letters a reading holds, each counted each time it is reached (what is shared counts as often as it is met; a slice's spare places count too). A statement '..UptoSaid' is the law's where the arguments, and the package variables that the reading takes, are together of bulk at most 1048576: NARROWER than '..Said'. Prove '..Said' where nothing that the law and all that it calls make is longer than what came in: it says more and counts as full. Else prove '..UptoSaid'. A law counts once. -/
mutual
def uptoBulk {H : Type} : DataW H → Nat
  | .lit (.string bytes) => bytes.length + 1
  | .lit _ => 1
  | .nil => 1
  | .ptr d => uptoBulk d + 1
  | .slice elems spare => uptoBulkAll elems + uptoBulkAll spare + 1
  | .agg parts => uptoBulkAll parts + 1
  | .iface _ d => uptoBulk d + 1
  | .map entries => uptoBulkEntries entries + 1
  | .held _ => 1
def uptoBulkAll {H : Type} : List (DataW H) → Nat
  | [] => 0
  | d :: r => uptoBulk d + uptoBulkAll r
def uptoBulkEntries {H : Type} : List (Lit × DataW H) → Nat
  | [] => 0
  | x :: r => uptoBulkEntry x + uptoBulkEntries r
def uptoBulkEntry {H : Type} : Lit × DataW H → Nat
  | (.string bytes, d) => bytes.length + uptoBulk d + 1
  | (_, d) => uptoBulk d + 1
 end
def uptoSmall : (H : Type) → List (DataW H) → Bool := fun _ ds => decide (uptoBulkAll ds ≤ 1048576)
def OpenSpec.upto (s : _root_.Go.ChangeSpec) : _root_.Go.OpenSpec := { _root_.Go.OpenSpec.ofChange s with cond := some uptoSmall }

/-- 'quernlaw13.SchedValid', WHERE WHAT IT READS IS OF BULK AT MOST 1048576: true; the input reads as it did. -/
def schedValidUptoRow : OpenClaim := { program := "ytheifjakpdeiaaa", sum := "f5cf65c56f288c95096b7736f550e9026958edf07e80c68b5a126936580fb8e9", func := "quern/quernlaw13.SchedValid", spec := "schedValid", unfollowed := true, recurses := true, apart := false, narrowed := true }
def SchedValidUptoSaid : Prop := schedValidUptoRow.holds Try.pinned (OpenSpec.upto schedValidSpec)

/-- 'quernlaw13.SchedBegins', WHERE WHAT IT READS IS OF BULK AT MOST 1048576: true; the input reads as it did. -/
def schedBeginsUptoRow : OpenClaim := { program := "ytheifjakpdeiaaa", sum := "f5cf65c56f288c95096b7736f550e9026958edf07e80c68b5a126936580fb8e9", func := "quern/quernlaw13.SchedBegins", spec := "schedBegins", unfollowed := true, recurses := true, apart := false, narrowed := true }
def SchedBeginsUptoSaid : Prop := schedBeginsUptoRow.holds Try.pinned (OpenSpec.upto schedBeginsSpec)

/-- 'quernlaw13.SchedChannels', WHERE WHAT IT READS IS OF BULK AT MOST 1048576: true; the input reads as it did. -/
def schedChannelsUptoRow : OpenClaim := { program := "ytheifjakpdeiaaa", sum := "f5cf65c56f288c95096b7736f550e9026958edf07e80c68b5a126936580fb8e9", func := "quern/quernlaw13.SchedChannels", spec := "schedChannels", unfollowed := true, recurses := true, apart := false, narrowed := true }
def SchedChannelsUptoSaid : Prop := schedChannelsUptoRow.holds Try.pinned (OpenSpec.upto schedChannelsSpec)

/-- 'quernlaw13.SchedLocks', WHERE WHAT IT READS IS OF BULK AT MOST 1048576: true; the input reads as it did. -/
def schedLocksUptoRow : OpenClaim := { program := "ytheifjakpdeiaaa", sum := "f5cf65c56f288c95096b7736f550e9026958edf07e80c68b5a126936580fb8e9", func := "quern/quernlaw13.SchedLocks", spec := "schedLocks", unfollowed := true, recurses := true, apart := false, narrowed := true }
def SchedLocksUptoSaid : Prop := schedLocksUptoRow.holds Try.pinned (OpenSpec.upto schedLocksSpec)

/-- 'quernlaw13.SchedTurns', WHERE WHAT IT READS IS OF BULK AT MOST 1048576: true; the input reads as it did. -/
def schedTurnsUptoRow : OpenClaim := { program := "ytheifjakpdeiaaa", sum := "f5cf65c56f288c95096b7736f550e9026958edf07e80c68b5a126936580fb8e9", func := "quern/quernlaw13.SchedTurns", spec := "schedTurns", unfollowed := true, recurses := true, apart := false, narrowed := true }
def SchedTurnsUptoSaid : Prop := schedTurnsUptoRow.holds Try.pinned (OpenSpec.upto schedTurnsSpec)

/-- 'quernlaw13.SchedNames', WHERE WHAT IT READS IS OF BULK AT MOST 1048576: true; the input reads as it did. -/
def schedNamesUptoRow : OpenClaim := { program := "ytheifjakpdeiaaa", sum := "f5cf65c56f288c95096b7736f550e9026958edf07e80c68b5a126936580fb8e9", func := "quern/quernlaw13.SchedNames", spec := "schedNames", apart := false, narrowed := true }
def SchedNamesUptoSaid : Prop := schedNamesUptoRow.holds Try.pinned (OpenSpec.upto schedNamesSpec)

end Rows
end Go.Proofs.Ytheifjakpdeiaaa
