/-
  NARROWER THAN 'FOR EVERY INPUT', by the rows' own cells (each row's printed sentence says how): MixsChains: laid · MixsBack: laid · MixsUndone: laid · MixsUnlike: laid · MixsParts: laid.
  DERIVED. THE GIVEN ROWS OF THIS SEAT. 5 by the template 'for every input the law returns true; each argument reads behind the call as it read before'; 0 by the template 'total and deterministic' (their statements: YtecepllidmkmhabDoorTotals.lean).
  GIVEN WITH THE SEED: the statements are not yours to turn. If you find one false, say at which input.
  Laid BY PROGRAM, IN A SANDBOX (cutbox-rows.mjs): the forced cells as the released guide's own fill.sh prints them over the translation 748e617a35fa1cd9… (all of the seat's roots in one cut). By AI agents, Wed Nov 11 2026. No macro, syntax, notation, axiom, sorry.
-/
import Derived.Test.YtecepllidmkmhabDoorChecked
import GoSem.Claim
import GoSem.ClaimJoined
import GoSem.ClaimMapViews
import Derived.JoinedTies
import Derived.KernelRfl
namespace Go.Proofs.YtecepllidmkmhabDoor
/- THE CELL 'sum', in the pinned program and in every row, IS THE sha256 OF THE DUMP (.gsa) THAT YtecepllidmkmhabDoorProg.lean LOADS. Nothing in Lean hashes anything: it is a label: what it is worth is what the hold of that sum in a sandbox is worth. -/
noncomputable def Tryd.pinned : Pinned := { name := "ytecepllidmkmhabdoor", sum := "748e617a35fa1cd93585c4d1142a4f7bbf248a54bbab8e781996be884bb0c1f8", checked := Tryd.checked }
namespace Rows
def none {H : Type} : Left H := { results := [], args := [] }

/- WHAT THE LISTED PACKAGE-LEVEL VARIABLES READ AS WHEN THE CALL BEGINS. Each datum BY PROGRAM (the guide's laid-datum.mjs) off the statement by which the dump's own 'gosem.cut.vars' lays the variable. In a bare row this is a premise. The card (YtecepllidmkmhabDoorCards.lean) ties it to the program's text. -/
def laid_quern_mixb_orders {H : Type} : DataW H := .agg [.agg [.lit (.int .u8 0), .lit (.int .u8 1), .lit (.int .u8 2), .lit (.int .u8 3), .lit (.int .u8 4), .lit (.int .u8 5), .lit (.int .u8 6), .lit (.int .u8 7), .lit (.int .u8 8), .lit (.int .u8 9), .lit (.int .u8 10), .lit (.int .u8 11), .lit (.int .u8 12), .lit (.int .u8 13), .lit (.int .u8 14), .lit (.int .u8 15)], .agg [.lit (.int .u8 14), .lit (.int .u8 10), .lit (.int .u8 4), .lit (.int .u8 8), .lit (.int .u8 9), .lit (.int .u8 15), .lit (.int .u8 13), .lit (.int .u8 6), .lit (.int .u8 1), .lit (.int .u8 12), .lit (.int .u8 0), .lit (.int .u8 2), .lit (.int .u8 11), .lit (.int .u8 7), .lit (.int .u8 5), .lit (.int .u8 3)], .agg [.lit (.int .u8 11), .lit (.int .u8 8), .lit (.int .u8 12), .lit (.int .u8 0), .lit (.int .u8 5), .lit (.int .u8 2), .lit (.int .u8 15), .lit (.int .u8 13), .lit (.int .u8 10), .lit (.int .u8 14), .lit (.int .u8 3), .lit (.int .u8 6), .lit (.int .u8 7), .lit (.int .u8 1), .lit (.int .u8 9), .lit (.int .u8 4)], .agg [.lit (.int .u8 7), .lit (.int .u8 9), .lit (.int .u8 3), .lit (.int .u8 1), .lit (.int .u8 13), .lit (.int .u8 12), .lit (.int .u8 11), .lit (.int .u8 14), .lit (.int .u8 2), .lit (.int .u8 6), .lit (.int .u8 5), .lit (.int .u8 10), .lit (.int .u8 4), .lit (.int .u8 0), .lit (.int .u8 15), .lit (.int .u8 8)], .agg [.lit (.int .u8 9), .lit (.int .u8 0), .lit (.int .u8 5), .lit (.int .u8 7), .lit (.int .u8 2), .lit (.int .u8 4), .lit (.int .u8 10), .lit (.int .u8 15), .lit (.int .u8 14), .lit (.int .u8 1), .lit (.int .u8 11), .lit (.int .u8 12), .lit (.int .u8 6), .lit (.int .u8 8), .lit (.int .u8 3), .lit (.int .u8 13)], .agg [.lit (.int .u8 2), .lit (.int .u8 12), .lit (.int .u8 6), .lit (.int .u8 10), .lit (.int .u8 0), .lit (.int .u8 11), .lit (.int .u8 8), .lit (.int .u8 3), .lit (.int .u8 4), .lit (.int .u8 13), .lit (.int .u8 7), .lit (.int .u8 5), .lit (.int .u8 15), .lit (.int .u8 14), .lit (.int .u8 1), .lit (.int .u8 9)], .agg [.lit (.int .u8 12), .lit (.int .u8 5), .lit (.int .u8 1), .lit (.int .u8 15), .lit (.int .u8 14), .lit (.int .u8 13), .lit (.int .u8 4), .lit (.int .u8 10), .lit (.int .u8 0), .lit (.int .u8 7), .lit (.int .u8 6), .lit (.int .u8 3), .lit (.int .u8 9), .lit (.int .u8 2), .lit (.int .u8 8), .lit (.int .u8 11)], .agg [.lit (.int .u8 13), .lit (.int .u8 11), .lit (.int .u8 7), .lit (.int .u8 14), .lit (.int .u8 12), .lit (.int .u8 1), .lit (.int .u8 3), .lit (.int .u8 9), .lit (.int .u8 5), .lit (.int .u8 0), .lit (.int .u8 15), .lit (.int .u8 4), .lit (.int .u8 8), .lit (.int .u8 6), .lit (.int .u8 2), .lit (.int .u8 10)], .agg [.lit (.int .u8 6), .lit (.int .u8 15), .lit (.int .u8 14), .lit (.int .u8 9), .lit (.int .u8 11), .lit (.int .u8 3), .lit (.int .u8 0), .lit (.int .u8 8), .lit (.int .u8 12), .lit (.int .u8 2), .lit (.int .u8 13), .lit (.int .u8 7), .lit (.int .u8 1), .lit (.int .u8 4), .lit (.int .u8 10), .lit (.int .u8 5)], .agg [.lit (.int .u8 10), .lit (.int .u8 2), .lit (.int .u8 8), .lit (.int .u8 4), .lit (.int .u8 7), .lit (.int .u8 6), .lit (.int .u8 1), .lit (.int .u8 5), .lit (.int .u8 15), .lit (.int .u8 11), .lit (.int .u8 9), .lit (.int .u8 14), .lit (.int .u8 3), .lit (.int .u8 12), .lit (.int .u8 13), .lit (.int .u8 0)]]
def laid_quern_mixs_iv {H : Type} : DataW H := .agg [.lit (.int .u32 1779033703), .lit (.int .u32 3144134277), .lit (.int .u32 1013904242), .lit (.int .u32 2773480762), .lit (.int .u32 1359893119), .lit (.int .u32 2600822924), .lit (.int .u32 528734635), .lit (.int .u32 1541459225)]

/-- 'quernlaw04.MixsChains': WHATEVER THE INPUT: true; the input reads as it did. -/
def mixsChainsSpec : ChangeSpec := { name := "mixsChains", fn := fun _ => fun
  | [d1, d2, d3] => { results := [.lit (.bool true)], args := [d1, d2, d3] }
  | _ => none }
def mixsChainsRow : OpenClaim := { program := "ytecepllidmkmhabdoor", sum := "748e617a35fa1cd93585c4d1142a4f7bbf248a54bbab8e781996be884bb0c1f8", func := "quern/quernlaw04.MixsChains", spec := "mixsChains", named := ["quern/mixs.iv", "quern/mixb.orders"], apart := false, laid := [("quern/mixb.orders", laid_quern_mixb_orders), ("quern/mixs.iv", laid_quern_mixs_iv)] }
def MixsChainsSaid : Prop := mixsChainsRow.holds Tryd.pinned (OpenSpec.ofChange mixsChainsSpec)

/-- ITS FALSE NEIGHBOUR: 'it returns false'. Refute it at one input. -/
def mixsChainsWrong : ChangeSpec := { name := "mixsChains", fn := fun _ => fun
  | [d1, d2, d3] => { results := [.lit (.bool false)], args := [d1, d2, d3] }
  | _ => none }
def MixsChainsWrongFalsely : Prop := mixsChainsRow.holds Tryd.pinned (OpenSpec.ofChange mixsChainsWrong)

/-- 'quernlaw04.MixsBack': WHATEVER THE INPUT: true; the input reads as it did. -/
def mixsBackSpec : ChangeSpec := { name := "mixsBack", fn := fun _ => fun
  | [d] => { results := [.lit (.bool true)], args := [d] }
  | _ => none }
def mixsBackRow : OpenClaim := { program := "ytecepllidmkmhabdoor", sum := "748e617a35fa1cd93585c4d1142a4f7bbf248a54bbab8e781996be884bb0c1f8", func := "quern/quernlaw04.MixsBack", spec := "mixsBack", named := ["quern/mixs.iv", "quern/mixb.orders"], apart := false, laid := [("quern/mixb.orders", laid_quern_mixb_orders), ("quern/mixs.iv", laid_quern_mixs_iv)] }
def MixsBackSaid : Prop := mixsBackRow.holds Tryd.pinned (OpenSpec.ofChange mixsBackSpec)

/-- ITS FALSE NEIGHBOUR: 'it returns false'. Refute it at one input. -/
def mixsBackWrong : ChangeSpec := { name := "mixsBack", fn := fun _ => fun
  | [d] => { results := [.lit (.bool false)], args := [d] }
  | _ => none }
def MixsBackWrongFalsely : Prop := mixsBackRow.holds Tryd.pinned (OpenSpec.ofChange mixsBackWrong)

/-- 'quernlaw04.MixsUndone': WHATEVER THE INPUT: true; the input reads as it did. -/
def mixsUndoneSpec : ChangeSpec := { name := "mixsUndone", fn := fun _ => fun
  | [d] => { results := [.lit (.bool true)], args := [d] }
  | _ => none }
def mixsUndoneRow : OpenClaim := { program := "ytecepllidmkmhabdoor", sum := "748e617a35fa1cd93585c4d1142a4f7bbf248a54bbab8e781996be884bb0c1f8", func := "quern/quernlaw04.MixsUndone", spec := "mixsUndone", named := ["quern/mixs.iv", "quern/mixb.orders"], apart := false, laid := [("quern/mixb.orders", laid_quern_mixb_orders), ("quern/mixs.iv", laid_quern_mixs_iv)] }
def MixsUndoneSaid : Prop := mixsUndoneRow.holds Tryd.pinned (OpenSpec.ofChange mixsUndoneSpec)

/-- ITS FALSE NEIGHBOUR: 'it returns false'. Refute it at one input. -/
def mixsUndoneWrong : ChangeSpec := { name := "mixsUndone", fn := fun _ => fun
  | [d] => { results := [.lit (.bool false)], args := [d] }
  | _ => none }
def MixsUndoneWrongFalsely : Prop := mixsUndoneRow.holds Tryd.pinned (OpenSpec.ofChange mixsUndoneWrong)

/-- 'quernlaw04.MixsUnlike': WHATEVER THE INPUT: true; the input reads as it did. -/
def mixsUnlikeSpec : ChangeSpec := { name := "mixsUnlike", fn := fun _ => fun
  | [d1, d2] => { results := [.lit (.bool true)], args := [d1, d2] }
  | _ => none }
def mixsUnlikeRow : OpenClaim := { program := "ytecepllidmkmhabdoor", sum := "748e617a35fa1cd93585c4d1142a4f7bbf248a54bbab8e781996be884bb0c1f8", func := "quern/quernlaw04.MixsUnlike", spec := "mixsUnlike", named := ["quern/mixs.iv", "quern/mixb.orders"], apart := false, laid := [("quern/mixb.orders", laid_quern_mixb_orders), ("quern/mixs.iv", laid_quern_mixs_iv)] }
def MixsUnlikeSaid : Prop := mixsUnlikeRow.holds Tryd.pinned (OpenSpec.ofChange mixsUnlikeSpec)

/-- ITS FALSE NEIGHBOUR: 'it returns false'. Refute it at one input. -/
def mixsUnlikeWrong : ChangeSpec := { name := "mixsUnlike", fn := fun _ => fun
  | [d1, d2] => { results := [.lit (.bool false)], args := [d1, d2] }
  | _ => none }
def MixsUnlikeWrongFalsely : Prop := mixsUnlikeRow.holds Tryd.pinned (OpenSpec.ofChange mixsUnlikeWrong)

/-- 'quernlaw04.MixsParts': WHATEVER THE INPUT: true; the input reads as it did. -/
def mixsPartsSpec : ChangeSpec := { name := "mixsParts", fn := fun _ => fun
  | [d1, d2, d3] => { results := [.lit (.bool true)], args := [d1, d2, d3] }
  | _ => none }
def mixsPartsRow : OpenClaim := { program := "ytecepllidmkmhabdoor", sum := "748e617a35fa1cd93585c4d1142a4f7bbf248a54bbab8e781996be884bb0c1f8", func := "quern/quernlaw04.MixsParts", spec := "mixsParts", named := ["quern/mixs.iv", "quern/mixb.orders"], apart := false, laid := [("quern/mixb.orders", laid_quern_mixb_orders), ("quern/mixs.iv", laid_quern_mixs_iv)] }
def MixsPartsSaid : Prop := mixsPartsRow.holds Tryd.pinned (OpenSpec.ofChange mixsPartsSpec)

/-- ITS FALSE NEIGHBOUR: 'it returns false'. Refute it at one input. -/
def mixsPartsWrong : ChangeSpec := { name := "mixsParts", fn := fun _ => fun
  | [d1, d2, d3] => { results := [.lit (.bool false)], args := [d1, d2, d3] }
  | _ => none }
def MixsPartsWrongFalsely : Prop := mixsPartsRow.holds Tryd.pinned (OpenSpec.ofChange mixsPartsWrong)

/- THE SECOND FORM. 'bulk': how many values and letters a reading holds, each counted each time it is reached (what is shared counts as often as it is met; a slice's spare places count too). A statement '..UptoSaid' is the law's where the arguments, and the package variables that the reading takes, are together of bulk at most 1048576: NARROWER than '..Said'. Prove '..Said' where nothing that the law and all that it calls make is longer than what came in: it says more and counts as full. Else prove '..UptoSaid'. A law counts once. -/
mutual
def uptoBulk {H : Type} : DataW H → Nat
  | .lit (.string bytes) => bytes.length + 1
  | .lit _ => 1
  | .nil => 1
  | .ptr d => uptoBulk d + 1
  | .slice elems spare => uptoBulkAll elems + uptoBulkAll spare + 1
  | .agg parts => uptoBulkAll parts + 1
  | .iface _ d => uptoBulk d + 1
  | .map entries => uptoBulkEntries entries + 1
  | .held _ => 1
def uptoBulkAll {H : Type} : List (DataW H) → Nat
  | [] => 0
  | d :: r => uptoBulk d + uptoBulkAll r
def uptoBulkEntries {H : Type} : List (Lit × DataW H) → Nat
  | [] => 0
  | x :: r => uptoBulkEntry x + uptoBulkEntries r
def uptoBulkEntry {H : Type} : Lit × DataW H → Nat
  | (.string bytes, d) => bytes.length + uptoBulk d + 1
  | (_, d) => uptoBulk d + 1
 end
def uptoSmall : (H : Type) → List (DataW H) → Bool := fun _ ds => decide (uptoBulkAll ds ≤ 1048576)
def OpenSpec.upto (s : _root_.Go.ChangeSpec) : _root_.Go.OpenSpec := { _root_.Go.OpenSpec.ofChange s with cond := some uptoSmall }

/-- 'quernlaw04.MixsChains', WHERE WHAT IT READS IS OF BULK AT MOST 1048576: true; the input reads as it did. -/
def mixsChainsUptoRow : OpenClaim := { program := "ytecepllidmkmhabdoor", sum := "748e617a35fa1cd93585c4d1142a4f7bbf248a54bbab8e781996be884bb0c1f8", func := "quern/quernlaw04.MixsChains", spec := "mixsChains", named := ["quern/mixs.iv", "quern/mixb.orders"], apart := false, laid := [("quern/mixb.orders", laid_quern_mixb_orders), ("quern/mixs.iv", laid_quern_mixs_iv)], narrowed := true }
def MixsChainsUptoSaid : Prop := mixsChainsUptoRow.holds Tryd.pinned (OpenSpec.upto mixsChainsSpec)

/-- 'quernlaw04.MixsBack', WHERE WHAT IT READS IS OF BULK AT MOST 1048576: true; the input reads as it did. -/
def mixsBackUptoRow : OpenClaim := { program := "ytecepllidmkmhabdoor", sum := "748e617a35fa1cd93585c4d1142a4f7bbf248a54bbab8e781996be884bb0c1f8", func := "quern/quernlaw04.MixsBack", spec := "mixsBack", named := ["quern/mixs.iv", "quern/mixb.orders"], apart := false, laid := [("quern/mixb.orders", laid_quern_mixb_orders), ("quern/mixs.iv", laid_quern_mixs_iv)], narrowed := true }
def MixsBackUptoSaid : Prop := mixsBackUptoRow.holds Tryd.pinned (OpenSpec.upto mixsBackSpec)

/-- 'quernlaw04.MixsUndone', WHERE WHAT IT READS IS OF BULK AT MOST 1048576: true; the input reads as it did. -/
def mixsUndoneUptoRow : OpenClaim := { program := "ytecepllidmkmhabdoor", sum := "748e617a35fa1cd93585c4d1142a4f7bbf248a54bbab8e781996be884bb0c1f8", func := "quern/quernlaw04.MixsUndone", spec := "mixsUndone", named := ["quern/mixs.iv", "quern/mixb.orders"], apart := false, laid := [("quern/mixb.orders", laid_quern_mixb_orders), ("quern/mixs.iv", laid_quern_mixs_iv)], narrowed := true }
def MixsUndoneUptoSaid : Prop := mixsUndoneUptoRow.holds Tryd.pinned (OpenSpec.upto mixsUndoneSpec)

/-- 'quernlaw04.MixsUnlike', WHERE WHAT IT READS IS OF BULK AT MOST 1048576: true; the input reads as it did. -/
def mixsUnlikeUptoRow : OpenClaim := { program := "ytecepllidmkmhabdoor", sum := "748e617a35fa1cd93585c4d1142a4f7bbf248a54bbab8e781996be884bb0c1f8", func := "quern/quernlaw04.MixsUnlike", spec := "mixsUnlike", named := ["quern/mixs.iv", "quern/mixb.orders"], apart := false, laid := [("quern/mixb.orders", laid_quern_mixb_orders), ("quern/mixs.iv", laid_quern_mixs_iv)], narrowed := true }
def MixsUnlikeUptoSaid : Prop := mixsUnlikeUptoRow.holds Tryd.pinned (OpenSpec.upto mixsUnlikeSpec)

/-- 'quernlaw04.MixsParts', WHERE WHAT IT READS IS OF BULK AT MOST 1048576: true; the input reads as it did. -/
def mixsPartsUptoRow : OpenClaim := { program := "ytecepllidmkmhabdoor", sum := "748e617a35fa1cd93585c4d1142a4f7bbf248a54bbab8e781996be884bb0c1f8", func := "quern/quernlaw04.MixsParts", spec := "mixsParts", named := ["quern/mixs.iv", "quern/mixb.orders"], apart := false, laid := [("quern/mixb.orders", laid_quern_mixb_orders), ("quern/mixs.iv", laid_quern_mixs_iv)], narrowed := true }
def MixsPartsUptoSaid : Prop := mixsPartsUptoRow.holds Tryd.pinned (OpenSpec.upto mixsPartsSpec)

end Rows
end Go.Proofs.YtecepllidmkmhabDoor
