/-
  NARROWER THAN 'FOR EVERY INPUT', by the rows' own cells (each row's printed sentence says how): MixbInits: laid · MixbBlocks: laid · MixbSpells: laid.
  DERIVED. THE GIVEN ROWS OF THIS SEAT. 3 by the template 'for every input the law returns true; each argument reads behind the call as it read before'; 0 by the template 'total and deterministic' (their statements: YtkilackhomhpgabDoorTotals.lean).
  GIVEN WITH THE SEED: the statements are not yours to turn. If you find one false, say at which input.
  Laid BY PROGRAM, IN A SANDBOX (cutbox-rows.mjs): the forced cells as the released guide's own fill.sh prints them over the translation 78fb89b0a472391e… (all of the seat's roots in one cut). By AI agents, Wed Nov 11 2026. No macro, syntax, notation, axiom, sorry.
-/
import Derived.Test.YtkilackhomhpgabDoorChecked
import GoSem.Claim
import GoSem.ClaimJoined
import GoSem.ClaimMapViews
import Derived.JoinedTies
import Derived.KernelRfl
namespace Go.Proofs.YtkilackhomhpgabDoor
/- THE CELL 'sum', in the pinned program and in every row, IS THE sha256 OF THE DUMP (.gsa) THAT YtkilackhomhpgabDoorProg.lean LOADS. Nothing in Lean hashes anything: it is a label: what it is worth is what the hold of that sum in a sandbox is worth. -/
noncomputable def Tryd.pinned : Pinned := { name := "ytkilackhomhpgabdoor", sum := "78fb89b0a472391e00daa698daf02b32c85d0eddfb1d7c93729b2261d6db92fe", checked := Tryd.checked }
namespace Rows
def none {H : Type} : Left H := { results := [], args := [] }

/- WHAT THE LISTED PACKAGE-LEVEL VARIABLES READ AS WHEN THE CALL BEGINS. Each datum BY PROGRAM (the guide's laid-datum.mjs) off the statement by which the dump's own 'gosem.cut.vars' lays the variable. In a bare row this is a premise. The card (YtkilackhomhpgabDoorCards.lean) ties it to the program's text. -/
def laid_quern_mixb_iv {H : Type} : DataW H := .agg [.lit (.int .u64 7640891576956012808), .lit (.int .u64 13503953896175478587), .lit (.int .u64 4354685564936845355), .lit (.int .u64 11912009170470909681), .lit (.int .u64 5840696475078001361), .lit (.int .u64 11170449401992604703), .lit (.int .u64 2270897969802886507), .lit (.int .u64 6620516959819538809)]
def laid_quern_mixb_orders {H : Type} : DataW H := .agg [.agg [.lit (.int .u8 0), .lit (.int .u8 1), .lit (.int .u8 2), .lit (.int .u8 3), .lit (.int .u8 4), .lit (.int .u8 5), .lit (.int .u8 6), .lit (.int .u8 7), .lit (.int .u8 8), .lit (.int .u8 9), .lit (.int .u8 10), .lit (.int .u8 11), .lit (.int .u8 12), .lit (.int .u8 13), .lit (.int .u8 14), .lit (.int .u8 15)], .agg [.lit (.int .u8 14), .lit (.int .u8 10), .lit (.int .u8 4), .lit (.int .u8 8), .lit (.int .u8 9), .lit (.int .u8 15), .lit (.int .u8 13), .lit (.int .u8 6), .lit (.int .u8 1), .lit (.int .u8 12), .lit (.int .u8 0), .lit (.int .u8 2), .lit (.int .u8 11), .lit (.int .u8 7), .lit (.int .u8 5), .lit (.int .u8 3)], .agg [.lit (.int .u8 11), .lit (.int .u8 8), .lit (.int .u8 12), .lit (.int .u8 0), .lit (.int .u8 5), .lit (.int .u8 2), .lit (.int .u8 15), .lit (.int .u8 13), .lit (.int .u8 10), .lit (.int .u8 14), .lit (.int .u8 3), .lit (.int .u8 6), .lit (.int .u8 7), .lit (.int .u8 1), .lit (.int .u8 9), .lit (.int .u8 4)], .agg [.lit (.int .u8 7), .lit (.int .u8 9), .lit (.int .u8 3), .lit (.int .u8 1), .lit (.int .u8 13), .lit (.int .u8 12), .lit (.int .u8 11), .lit (.int .u8 14), .lit (.int .u8 2), .lit (.int .u8 6), .lit (.int .u8 5), .lit (.int .u8 10), .lit (.int .u8 4), .lit (.int .u8 0), .lit (.int .u8 15), .lit (.int .u8 8)], .agg [.lit (.int .u8 9), .lit (.int .u8 0), .lit (.int .u8 5), .lit (.int .u8 7), .lit (.int .u8 2), .lit (.int .u8 4), .lit (.int .u8 10), .lit (.int .u8 15), .lit (.int .u8 14), .lit (.int .u8 1), .lit (.int .u8 11), .lit (.int .u8 12), .lit (.int .u8 6), .lit (.int .u8 8), .lit (.int .u8 3), .lit (.int .u8 13)], .agg [.lit (.int .u8 2), .lit (.int .u8 12), .lit (.int .u8 6), .lit (.int .u8 10), .lit (.int .u8 0), .lit (.int .u8 11), .lit (.int .u8 8), .lit (.int .u8 3), .lit (.int .u8 4), .lit (.int .u8 13), .lit (.int .u8 7), .lit (.int .u8 5), .lit (.int .u8 15), .lit (.int .u8 14), .lit (.int .u8 1), .lit (.int .u8 9)], .agg [.lit (.int .u8 12), .lit (.int .u8 5), .lit (.int .u8 1), .lit (.int .u8 15), .lit (.int .u8 14), .lit (.int .u8 13), .lit (.int .u8 4), .lit (.int .u8 10), .lit (.int .u8 0), .lit (.int .u8 7), .lit (.int .u8 6), .lit (.int .u8 3), .lit (.int .u8 9), .lit (.int .u8 2), .lit (.int .u8 8), .lit (.int .u8 11)], .agg [.lit (.int .u8 13), .lit (.int .u8 11), .lit (.int .u8 7), .lit (.int .u8 14), .lit (.int .u8 12), .lit (.int .u8 1), .lit (.int .u8 3), .lit (.int .u8 9), .lit (.int .u8 5), .lit (.int .u8 0), .lit (.int .u8 15), .lit (.int .u8 4), .lit (.int .u8 8), .lit (.int .u8 6), .lit (.int .u8 2), .lit (.int .u8 10)], .agg [.lit (.int .u8 6), .lit (.int .u8 15), .lit (.int .u8 14), .lit (.int .u8 9), .lit (.int .u8 11), .lit (.int .u8 3), .lit (.int .u8 0), .lit (.int .u8 8), .lit (.int .u8 12), .lit (.int .u8 2), .lit (.int .u8 13), .lit (.int .u8 7), .lit (.int .u8 1), .lit (.int .u8 4), .lit (.int .u8 10), .lit (.int .u8 5)], .agg [.lit (.int .u8 10), .lit (.int .u8 2), .lit (.int .u8 8), .lit (.int .u8 4), .lit (.int .u8 7), .lit (.int .u8 6), .lit (.int .u8 1), .lit (.int .u8 5), .lit (.int .u8 15), .lit (.int .u8 11), .lit (.int .u8 9), .lit (.int .u8 14), .lit (.int .u8 3), .lit (.int .u8 12), .lit (.int .u8 13), .lit (.int .u8 0)]]
def laid_quern_mixb_places {H : Type} : DataW H := .agg [.agg [.lit (.int .u8 0), .lit (.int .u8 4), .lit (.int .u8 8), .lit (.int .u8 12)], .agg [.lit (.int .u8 1), .lit (.int .u8 5), .lit (.int .u8 9), .lit (.int .u8 13)], .agg [.lit (.int .u8 2), .lit (.int .u8 6), .lit (.int .u8 10), .lit (.int .u8 14)], .agg [.lit (.int .u8 3), .lit (.int .u8 7), .lit (.int .u8 11), .lit (.int .u8 15)], .agg [.lit (.int .u8 0), .lit (.int .u8 5), .lit (.int .u8 10), .lit (.int .u8 15)], .agg [.lit (.int .u8 1), .lit (.int .u8 6), .lit (.int .u8 11), .lit (.int .u8 12)], .agg [.lit (.int .u8 2), .lit (.int .u8 7), .lit (.int .u8 8), .lit (.int .u8 13)], .agg [.lit (.int .u8 3), .lit (.int .u8 4), .lit (.int .u8 9), .lit (.int .u8 14)]]

/-- 'quernlaw03.MixbInits': WHATEVER THE INPUT: true; the input reads as it did. -/
def mixbInitsSpec : ChangeSpec := { name := "mixbInits", fn := fun _ => fun
  | [d] => { results := [.lit (.bool true)], args := [d] }
  | _ => none }
def mixbInitsRow : OpenClaim := { program := "ytkilackhomhpgabdoor", sum := "78fb89b0a472391e00daa698daf02b32c85d0eddfb1d7c93729b2261d6db92fe", func := "quern/quernlaw03.MixbInits", spec := "mixbInits", named := ["quern/mixb.iv"], apart := false, laid := [("quern/mixb.iv", laid_quern_mixb_iv)] }
def MixbInitsSaid : Prop := mixbInitsRow.holds Tryd.pinned (OpenSpec.ofChange mixbInitsSpec)

/-- ITS FALSE NEIGHBOUR: 'it returns false'. Refute it at one input. -/
def mixbInitsWrong : ChangeSpec := { name := "mixbInits", fn := fun _ => fun
  | [d] => { results := [.lit (.bool false)], args := [d] }
  | _ => none }
def MixbInitsWrongFalsely : Prop := mixbInitsRow.holds Tryd.pinned (OpenSpec.ofChange mixbInitsWrong)

/-- 'quernlaw03.MixbBlocks': WHATEVER THE INPUT: true; the input reads as it did. -/
def mixbBlocksSpec : ChangeSpec := { name := "mixbBlocks", fn := fun _ => fun
  | [d] => { results := [.lit (.bool true)], args := [d] }
  | _ => none }
def mixbBlocksRow : OpenClaim := { program := "ytkilackhomhpgabdoor", sum := "78fb89b0a472391e00daa698daf02b32c85d0eddfb1d7c93729b2261d6db92fe", func := "quern/quernlaw03.MixbBlocks", spec := "mixbBlocks", named := ["quern/mixb.iv", "quern/mixb.orders", "quern/mixb.places"], apart := false, laid := [("quern/mixb.iv", laid_quern_mixb_iv), ("quern/mixb.orders", laid_quern_mixb_orders), ("quern/mixb.places", laid_quern_mixb_places)] }
def MixbBlocksSaid : Prop := mixbBlocksRow.holds Tryd.pinned (OpenSpec.ofChange mixbBlocksSpec)

/-- ITS FALSE NEIGHBOUR: 'it returns false'. Refute it at one input. -/
def mixbBlocksWrong : ChangeSpec := { name := "mixbBlocks", fn := fun _ => fun
  | [d] => { results := [.lit (.bool false)], args := [d] }
  | _ => none }
def MixbBlocksWrongFalsely : Prop := mixbBlocksRow.holds Tryd.pinned (OpenSpec.ofChange mixbBlocksWrong)

/-- 'quernlaw03.MixbSpells': WHATEVER THE INPUT: true; the input reads as it did. -/
def mixbSpellsSpec : ChangeSpec := { name := "mixbSpells", fn := fun _ => fun
  | [d] => { results := [.lit (.bool true)], args := [d] }
  | _ => none }
def mixbSpellsRow : OpenClaim := { program := "ytkilackhomhpgabdoor", sum := "78fb89b0a472391e00daa698daf02b32c85d0eddfb1d7c93729b2261d6db92fe", func := "quern/quernlaw03.MixbSpells", spec := "mixbSpells", named := ["quern/mixb.iv", "quern/mixb.orders", "quern/mixb.places"], apart := false, laid := [("quern/mixb.iv", laid_quern_mixb_iv), ("quern/mixb.orders", laid_quern_mixb_orders), ("quern/mixb.places", laid_quern_mixb_places)] }
def MixbSpellsSaid : Prop := mixbSpellsRow.holds Tryd.pinned (OpenSpec.ofChange mixbSpellsSpec)

/-- ITS FALSE NEIGHBOUR: 'it returns false'. Refute it at one input. -/
def mixbSpellsWrong : ChangeSpec := { name := "mixbSpells", fn := fun _ => fun
  | [d] => { results := [.lit (.bool false)], args := [d] }
  | _ => none }
def MixbSpellsWrongFalsely : Prop := mixbSpellsRow.holds Tryd.pinned (OpenSpec.ofChange mixbSpellsWrong)

/- THE SECOND FORM. 'bulk': how many values and letters a reading holds, each counted each time it is reached (what is shared counts as often as it is met; a slice's spare places count too). A statement '..UptoSaid' is the law's where the arguments, and the package variables that the reading takes, are together of bulk at most 1048576: NARROWER than '..Said'. Prove '..Said' where nothing that the law and all that it calls make is longer than what came in: it says more and counts as full. Else prove '..UptoSaid'. A law counts once. -/
mutual
def uptoBulk {H : Type} : DataW H → Nat
  | .lit (.string bytes) => bytes.length + 1
  | .lit _ => 1
  | .nil => 1
  | .ptr d => uptoBulk d + 1
  | .slice elems spare => uptoBulkAll elems + uptoBulkAll spare + 1
  | .agg parts => uptoBulkAll parts + 1
  | .iface _ d => uptoBulk d + 1
  | .map entries => uptoBulkEntries entries + 1
  | .held _ => 1
def uptoBulkAll {H : Type} : List (DataW H) → Nat
  | [] => 0
  | d :: r => uptoBulk d + uptoBulkAll r
def uptoBulkEntries {H : Type} : List (Lit × DataW H) → Nat
  | [] => 0
  | x :: r => uptoBulkEntry x + uptoBulkEntries r
def uptoBulkEntry {H : Type} : Lit × DataW H → Nat
  | (.string bytes, d) => bytes.length + uptoBulk d + 1
  | (_, d) => uptoBulk d + 1
 end
def uptoSmall : (H : Type) → List (DataW H) → Bool := fun _ ds => decide (uptoBulkAll ds ≤ 1048576)
def OpenSpec.upto (s : _root_.Go.ChangeSpec) : _root_.Go.OpenSpec := { _root_.Go.OpenSpec.ofChange s with cond := some uptoSmall }

/-- 'quernlaw03.MixbInits', WHERE WHAT IT READS IS OF BULK AT MOST 1048576: true; the input reads as it did. -/
def mixbInitsUptoRow : OpenClaim := { program := "ytkilackhomhpgabdoor", sum := "78fb89b0a472391e00daa698daf02b32c85d0eddfb1d7c93729b2261d6db92fe", func := "quern/quernlaw03.MixbInits", spec := "mixbInits", named := ["quern/mixb.iv"], apart := false, laid := [("quern/mixb.iv", laid_quern_mixb_iv)], narrowed := true }
def MixbInitsUptoSaid : Prop := mixbInitsUptoRow.holds Tryd.pinned (OpenSpec.upto mixbInitsSpec)

/-- 'quernlaw03.MixbBlocks', WHERE WHAT IT READS IS OF BULK AT MOST 1048576: true; the input reads as it did. -/
def mixbBlocksUptoRow : OpenClaim := { program := "ytkilackhomhpgabdoor", sum := "78fb89b0a472391e00daa698daf02b32c85d0eddfb1d7c93729b2261d6db92fe", func := "quern/quernlaw03.MixbBlocks", spec := "mixbBlocks", named := ["quern/mixb.iv", "quern/mixb.orders", "quern/mixb.places"], apart := false, laid := [("quern/mixb.iv", laid_quern_mixb_iv), ("quern/mixb.orders", laid_quern_mixb_orders), ("quern/mixb.places", laid_quern_mixb_places)], narrowed := true }
def MixbBlocksUptoSaid : Prop := mixbBlocksUptoRow.holds Tryd.pinned (OpenSpec.upto mixbBlocksSpec)

/-- 'quernlaw03.MixbSpells', WHERE WHAT IT READS IS OF BULK AT MOST 1048576: true; the input reads as it did. -/
def mixbSpellsUptoRow : OpenClaim := { program := "ytkilackhomhpgabdoor", sum := "78fb89b0a472391e00daa698daf02b32c85d0eddfb1d7c93729b2261d6db92fe", func := "quern/quernlaw03.MixbSpells", spec := "mixbSpells", named := ["quern/mixb.iv", "quern/mixb.orders", "quern/mixb.places"], apart := false, laid := [("quern/mixb.iv", laid_quern_mixb_iv), ("quern/mixb.orders", laid_quern_mixb_orders), ("quern/mixb.places", laid_quern_mixb_places)], narrowed := true }
def MixbSpellsUptoSaid : Prop := mixbSpellsUptoRow.holds Tryd.pinned (OpenSpec.upto mixbSpellsSpec)

end Rows
end Go.Proofs.YtkilackhomhpgabDoor
