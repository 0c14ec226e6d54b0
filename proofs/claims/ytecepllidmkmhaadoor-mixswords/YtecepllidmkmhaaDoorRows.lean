/-
  NARROWER THAN 'FOR EVERY INPUT', by the rows' own cells (each row's printed sentence says how): MixsWords: laid · MixsRounds: laid · MixsRuns: laid · MixsStates: laid · MixsOpens: laid.
  DERIVED. THE GIVEN ROWS OF THIS SEAT. 5 by the template 'for every input the law returns true; each argument reads behind the call as it read before'; 0 by the template 'total and deterministic' (their statements: YtecepllidmkmhaaDoorTotals.lean).
  GIVEN WITH THE SEED: the statements are not yours to turn. If you find one false, say at which input.
  Laid BY PROGRAM, IN A SANDBOX (cutbox-rows.mjs): the forced cells as the released guide's own fill.sh prints them over the translation 113984df8d4dbd9b… (all of the seat's roots in one cut). By AI agents, Wed Nov 11 2026. No macro, syntax, notation, axiom, sorry.
-/
import Derived.Test.YtecepllidmkmhaaDoorChecked
import GoSem.Claim
import GoSem.ClaimJoined
import GoSem.ClaimMapViews
import Derived.JoinedTies
import Derived.KernelRfl
namespace Go.Proofs.YtecepllidmkmhaaDoor
/- THE CELL 'sum', in the pinned program and in every row, IS THE sha256 OF THE DUMP (.gsa) THAT YtecepllidmkmhaaDoorProg.lean LOADS. Nothing in Lean hashes anything: it is a label: what it is worth is what the hold of that sum in a sandbox is worth. -/
noncomputable def Tryd.pinned : Pinned := { name := "ytecepllidmkmhaadoor", sum := "113984df8d4dbd9b7bdb7e67adbb44ecde1212f1997230fda9502d25e6728037", checked := Tryd.checked }
namespace Rows
def none {H : Type} : Left H := { results := [], args := [] }

/- WHAT THE LISTED PACKAGE-LEVEL VARIABLES READ AS WHEN THE CALL BEGINS. Each datum BY PROGRAM (the guide's laid-datum.mjs) off the statement by which the dump's own 'gosem.cut.vars' lays the variable. In a bare row this is a premise. The card (YtecepllidmkmhaaDoorCards.lean) ties it to the program's text. -/
def laid_quern_mixs_iv {H : Type} : DataW H := .agg [.lit (.int .u32 1779033703), .lit (.int .u32 3144134277), .lit (.int .u32 1013904242), .lit (.int .u32 2773480762), .lit (.int .u32 1359893119), .lit (.int .u32 2600822924), .lit (.int .u32 528734635), .lit (.int .u32 1541459225)]
def laid_quern_mixb_orders {H : Type} : DataW H := .agg [.agg [.lit (.int .u8 0), .lit (.int .u8 1), .lit (.int .u8 2), .lit (.int .u8 3), .lit (.int .u8 4), .lit (.int .u8 5), .lit (.int .u8 6), .lit (.int .u8 7), .lit (.int .u8 8), .lit (.int .u8 9), .lit (.int .u8 10), .lit (.int .u8 11), .lit (.int .u8 12), .lit (.int .u8 13), .lit (.int .u8 14), .lit (.int .u8 15)], .agg [.lit (.int .u8 14), .lit (.int .u8 10), .lit (.int .u8 4), .lit (.int .u8 8), .lit (.int .u8 9), .lit (.int .u8 15), .lit (.int .u8 13), .lit (.int .u8 6), .lit (.int .u8 1), .lit (.int .u8 12), .lit (.int .u8 0), .lit (.int .u8 2), .lit (.int .u8 11), .lit (.int .u8 7), .lit (.int .u8 5), .lit (.int .u8 3)], .agg [.lit (.int .u8 11), .lit (.int .u8 8), .lit (.int .u8 12), .lit (.int .u8 0), .lit (.int .u8 5), .lit (.int .u8 2), .lit (.int .u8 15), .lit (.int .u8 13), .lit (.int .u8 10), .lit (.int .u8 14), .lit (.int .u8 3), .lit (.int .u8 6), .lit (.int .u8 7), .lit (.int .u8 1), .lit (.int .u8 9), .lit (.int .u8 4)], .agg [.lit (.int .u8 7), .lit (.int .u8 9), .lit (.int .u8 3), .lit (.int .u8 1), .lit (.int .u8 13), .lit (.int .u8 12), .lit (.int .u8 11), .lit (.int .u8 14), .lit (.int .u8 2), .lit (.int .u8 6), .lit (.int .u8 5), .lit (.int .u8 10), .lit (.int .u8 4), .lit (.int .u8 0), .lit (.int .u8 15), .lit (.int .u8 8)], .agg [.lit (.int .u8 9), .lit (.int .u8 0), .lit (.int .u8 5), .lit (.int .u8 7), .lit (.int .u8 2), .lit (.int .u8 4), .lit (.int .u8 10), .lit (.int .u8 15), .lit (.int .u8 14), .lit (.int .u8 1), .lit (.int .u8 11), .lit (.int .u8 12), .lit (.int .u8 6), .lit (.int .u8 8), .lit (.int .u8 3), .lit (.int .u8 13)], .agg [.lit (.int .u8 2), .lit (.int .u8 12), .lit (.int .u8 6), .lit (.int .u8 10), .lit (.int .u8 0), .lit (.int .u8 11), .lit (.int .u8 8), .lit (.int .u8 3), .lit (.int .u8 4), .lit (.int .u8 13), .lit (.int .u8 7), .lit (.int .u8 5), .lit (.int .u8 15), .lit (.int .u8 14), .lit (.int .u8 1), .lit (.int .u8 9)], .agg [.lit (.int .u8 12), .lit (.int .u8 5), .lit (.int .u8 1), .lit (.int .u8 15), .lit (.int .u8 14), .lit (.int .u8 13), .lit (.int .u8 4), .lit (.int .u8 10), .lit (.int .u8 0), .lit (.int .u8 7), .lit (.int .u8 6), .lit (.int .u8 3), .lit (.int .u8 9), .lit (.int .u8 2), .lit (.int .u8 8), .lit (.int .u8 11)], .agg [.lit (.int .u8 13), .lit (.int .u8 11), .lit (.int .u8 7), .lit (.int .u8 14), .lit (.int .u8 12), .lit (.int .u8 1), .lit (.int .u8 3), .lit (.int .u8 9), .lit (.int .u8 5), .lit (.int .u8 0), .lit (.int .u8 15), .lit (.int .u8 4), .lit (.int .u8 8), .lit (.int .u8 6), .lit (.int .u8 2), .lit (.int .u8 10)], .agg [.lit (.int .u8 6), .lit (.int .u8 15), .lit (.int .u8 14), .lit (.int .u8 9), .lit (.int .u8 11), .lit (.int .u8 3), .lit (.int .u8 0), .lit (.int .u8 8), .lit (.int .u8 12), .lit (.int .u8 2), .lit (.int .u8 13), .lit (.int .u8 7), .lit (.int .u8 1), .lit (.int .u8 4), .lit (.int .u8 10), .lit (.int .u8 5)], .agg [.lit (.int .u8 10), .lit (.int .u8 2), .lit (.int .u8 8), .lit (.int .u8 4), .lit (.int .u8 7), .lit (.int .u8 6), .lit (.int .u8 1), .lit (.int .u8 5), .lit (.int .u8 15), .lit (.int .u8 11), .lit (.int .u8 9), .lit (.int .u8 14), .lit (.int .u8 3), .lit (.int .u8 12), .lit (.int .u8 13), .lit (.int .u8 0)]]

/-- 'quernlaw04.MixsWords': WHATEVER THE INPUT: true; the input reads as it did. -/
def mixsWordsSpec : ChangeSpec := { name := "mixsWords", fn := fun _ => fun
  | [d1, d2, d3] => { results := [.lit (.bool true)], args := [d1, d2, d3] }
  | _ => none }
def mixsWordsRow : OpenClaim := { program := "ytecepllidmkmhaadoor", sum := "113984df8d4dbd9b7bdb7e67adbb44ecde1212f1997230fda9502d25e6728037", func := "quern/quernlaw04.MixsWords", spec := "mixsWords", named := ["quern/mixs.iv"], apart := false, laid := [("quern/mixs.iv", laid_quern_mixs_iv)] }
def MixsWordsSaid : Prop := mixsWordsRow.holds Tryd.pinned (OpenSpec.ofChange mixsWordsSpec)

/-- ITS FALSE NEIGHBOUR: 'it returns false'. Refute it at one input. -/
def mixsWordsWrong : ChangeSpec := { name := "mixsWords", fn := fun _ => fun
  | [d1, d2, d3] => { results := [.lit (.bool false)], args := [d1, d2, d3] }
  | _ => none }
def MixsWordsWrongFalsely : Prop := mixsWordsRow.holds Tryd.pinned (OpenSpec.ofChange mixsWordsWrong)

/-- 'quernlaw04.MixsRounds': WHATEVER THE INPUT: true; the input reads as it did. -/
def mixsRoundsSpec : ChangeSpec := { name := "mixsRounds", fn := fun _ => fun
  | [d] => { results := [.lit (.bool true)], args := [d] }
  | _ => none }
def mixsRoundsRow : OpenClaim := { program := "ytecepllidmkmhaadoor", sum := "113984df8d4dbd9b7bdb7e67adbb44ecde1212f1997230fda9502d25e6728037", func := "quern/quernlaw04.MixsRounds", spec := "mixsRounds", named := ["quern/mixb.orders"], apart := false, laid := [("quern/mixb.orders", laid_quern_mixb_orders)] }
def MixsRoundsSaid : Prop := mixsRoundsRow.holds Tryd.pinned (OpenSpec.ofChange mixsRoundsSpec)

/-- ITS FALSE NEIGHBOUR: 'it returns false'. Refute it at one input. -/
def mixsRoundsWrong : ChangeSpec := { name := "mixsRounds", fn := fun _ => fun
  | [d] => { results := [.lit (.bool false)], args := [d] }
  | _ => none }
def MixsRoundsWrongFalsely : Prop := mixsRoundsRow.holds Tryd.pinned (OpenSpec.ofChange mixsRoundsWrong)

/-- 'quernlaw04.MixsRuns': WHATEVER THE INPUT: true; the input reads as it did. -/
def mixsRunsSpec : ChangeSpec := { name := "mixsRuns", fn := fun _ => fun
  | [d1, d2] => { results := [.lit (.bool true)], args := [d1, d2] }
  | _ => none }
def mixsRunsRow : OpenClaim := { program := "ytecepllidmkmhaadoor", sum := "113984df8d4dbd9b7bdb7e67adbb44ecde1212f1997230fda9502d25e6728037", func := "quern/quernlaw04.MixsRuns", spec := "mixsRuns", named := ["quern/mixs.iv", "quern/mixb.orders"], apart := false, laid := [("quern/mixb.orders", laid_quern_mixb_orders), ("quern/mixs.iv", laid_quern_mixs_iv)] }
def MixsRunsSaid : Prop := mixsRunsRow.holds Tryd.pinned (OpenSpec.ofChange mixsRunsSpec)

/-- ITS FALSE NEIGHBOUR: 'it returns false'. Refute it at one input. -/
def mixsRunsWrong : ChangeSpec := { name := "mixsRuns", fn := fun _ => fun
  | [d1, d2] => { results := [.lit (.bool false)], args := [d1, d2] }
  | _ => none }
def MixsRunsWrongFalsely : Prop := mixsRunsRow.holds Tryd.pinned (OpenSpec.ofChange mixsRunsWrong)

/-- 'quernlaw04.MixsStates': WHATEVER THE INPUT: true; the input reads as it did. -/
def mixsStatesSpec : ChangeSpec := { name := "mixsStates", fn := fun _ => fun
  | [d] => { results := [.lit (.bool true)], args := [d] }
  | _ => none }
def mixsStatesRow : OpenClaim := { program := "ytecepllidmkmhaadoor", sum := "113984df8d4dbd9b7bdb7e67adbb44ecde1212f1997230fda9502d25e6728037", func := "quern/quernlaw04.MixsStates", spec := "mixsStates", named := ["quern/mixs.iv", "quern/mixb.orders"], apart := false, laid := [("quern/mixb.orders", laid_quern_mixb_orders), ("quern/mixs.iv", laid_quern_mixs_iv)] }
def MixsStatesSaid : Prop := mixsStatesRow.holds Tryd.pinned (OpenSpec.ofChange mixsStatesSpec)

/-- ITS FALSE NEIGHBOUR: 'it returns false'. Refute it at one input. -/
def mixsStatesWrong : ChangeSpec := { name := "mixsStates", fn := fun _ => fun
  | [d] => { results := [.lit (.bool false)], args := [d] }
  | _ => none }
def MixsStatesWrongFalsely : Prop := mixsStatesRow.holds Tryd.pinned (OpenSpec.ofChange mixsStatesWrong)

/-- 'quernlaw04.MixsOpens': WHATEVER THE INPUT: true; the input reads as it did. -/
def mixsOpensSpec : ChangeSpec := { name := "mixsOpens", fn := fun _ => fun
  | [d1, d2] => { results := [.lit (.bool true)], args := [d1, d2] }
  | _ => none }
def mixsOpensRow : OpenClaim := { program := "ytecepllidmkmhaadoor", sum := "113984df8d4dbd9b7bdb7e67adbb44ecde1212f1997230fda9502d25e6728037", func := "quern/quernlaw04.MixsOpens", spec := "mixsOpens", named := ["quern/mixb.orders", "quern/mixs.iv"], apart := false, laid := [("quern/mixb.orders", laid_quern_mixb_orders), ("quern/mixs.iv", laid_quern_mixs_iv)] }
def MixsOpensSaid : Prop := mixsOpensRow.holds Tryd.pinned (OpenSpec.ofChange mixsOpensSpec)

/-- ITS FALSE NEIGHBOUR: 'it returns false'. Refute it at one input. -/
def mixsOpensWrong : ChangeSpec := { name := "mixsOpens", fn := fun _ => fun
  | [d1, d2] => { results := [.lit (.bool false)], args := [d1, d2] }
  | _ => none }
def MixsOpensWrongFalsely : Prop := mixsOpensRow.holds Tryd.pinned (OpenSpec.ofChange mixsOpensWrong)

/- THE SECOND FORM. 'bulk': how many values and letters a reading holds, each counted each time it is reached (what is shared counts as often as it is met; a slice's spare places count too). A statement '..UptoSaid' is the law's where the arguments, and the package variables that the reading takes, are together of bulk at most 1048576: NARROWER than '..Said'. Prove '..Said' where nothing that the law and all that it calls make is longer than what came in: it says more and counts as full. Else prove '..UptoSaid'. A law counts once. -/
mutual
def uptoBulk {H : Type} : DataW H → Nat
  | .lit (.string bytes) => bytes.length + 1
  | .lit _ => 1
  | .nil => 1
  | .ptr d => uptoBulk d + 1
  | .slice elems spare => uptoBulkAll elems + uptoBulkAll spare + 1
  | .agg parts => uptoBulkAll parts + 1
  | .iface _ d => uptoBulk d + 1
  | .map entries => uptoBulkEntries entries + 1
  | .held _ => 1
def uptoBulkAll {H : Type} : List (DataW H) → Nat
  | [] => 0
  | d :: r => uptoBulk d + uptoBulkAll r
def uptoBulkEntries {H : Type} : List (Lit × DataW H) → Nat
  | [] => 0
  | x :: r => uptoBulkEntry x + uptoBulkEntries r
def uptoBulkEntry {H : Type} : Lit × DataW H → Nat
  | (.string bytes, d) => bytes.length + uptoBulk d + 1
  | (_, d) => uptoBulk d + 1
 end
def uptoSmall : (H : Type) → List (DataW H) → Bool := fun _ ds => decide (uptoBulkAll ds ≤ 1048576)
def OpenSpec.upto (s : _root_.Go.ChangeSpec) : _root_.Go.OpenSpec := { _root_.Go.OpenSpec.ofChange s with cond := some uptoSmall }

/-- 'quernlaw04.MixsWords', WHERE WHAT IT READS IS OF BULK AT MOST 1048576: true; the input reads as it did. -/
def mixsWordsUptoRow : OpenClaim := { program := "ytecepllidmkmhaadoor", sum := "113984df8d4dbd9b7bdb7e67adbb44ecde1212f1997230fda9502d25e6728037", func := "quern/quernlaw04.MixsWords", spec := "mixsWords", named := ["quern/mixs.iv"], apart := false, laid := [("quern/mixs.iv", laid_quern_mixs_iv)], narrowed := true }
def MixsWordsUptoSaid : Prop := mixsWordsUptoRow.holds Tryd.pinned (OpenSpec.upto mixsWordsSpec)

/-- 'quernlaw04.MixsRounds', WHERE WHAT IT READS IS OF BULK AT MOST 1048576: true; the input reads as it did. -/
def mixsRoundsUptoRow : OpenClaim := { program := "ytecepllidmkmhaadoor", sum := "113984df8d4dbd9b7bdb7e67adbb44ecde1212f1997230fda9502d25e6728037", func := "quern/quernlaw04.MixsRounds", spec := "mixsRounds", named := ["quern/mixb.orders"], apart := false, laid := [("quern/mixb.orders", laid_quern_mixb_orders)], narrowed := true }
def MixsRoundsUptoSaid : Prop := mixsRoundsUptoRow.holds Tryd.pinned (OpenSpec.upto mixsRoundsSpec)

/-- 'quernlaw04.MixsRuns', WHERE WHAT IT READS IS OF BULK AT MOST 1048576: true; the input reads as it did. -/
def mixsRunsUptoRow : OpenClaim := { program := "ytecepllidmkmhaadoor", sum := "113984df8d4dbd9b7bdb7e67adbb44ecde1212f1997230fda9502d25e6728037", func := "quern/quernlaw04.MixsRuns", spec := "mixsRuns", named := ["quern/mixs.iv", "quern/mixb.orders"], apart := false, laid := [("quern/mixb.orders", laid_quern_mixb_orders), ("quern/mixs.iv", laid_quern_mixs_iv)], narrowed := true }
def MixsRunsUptoSaid : Prop := mixsRunsUptoRow.holds Tryd.pinned (OpenSpec.upto mixsRunsSpec)

/-- 'quernlaw04.MixsStates', WHERE WHAT IT READS IS OF BULK AT MOST 1048576: true; the input reads as it did. -/
def mixsStatesUptoRow : OpenClaim := { program := "ytecepllidmkmhaadoor", sum := "113984df8d4dbd9b7bdb7e67adbb44ecde1212f1997230fda9502d25e6728037", func := "quern/quernlaw04.MixsStates", spec := "mixsStates", named := ["quern/mixs.iv", "quern/mixb.orders"], apart := false, laid := [("quern/mixb.orders", laid_quern_mixb_orders), ("quern/mixs.iv", laid_quern_mixs_iv)], narrowed := true }
def MixsStatesUptoSaid : Prop := mixsStatesUptoRow.holds Tryd.pinned (OpenSpec.upto mixsStatesSpec)

/-- 'quernlaw04.MixsOpens', WHERE WHAT IT READS IS OF BULK AT MOST 1048576: true; the input reads as it did. -/
def mixsOpensUptoRow : OpenClaim := { program := "ytecepllidmkmhaadoor", sum := "113984df8d4dbd9b7bdb7e67adbb44ecde1212f1997230fda9502d25e6728037", func := "quern/quernlaw04.MixsOpens", spec := "mixsOpens", named := ["quern/mixb.orders", "quern/mixs.iv"], apart := false, laid := [("quern/mixb.orders", laid_quern_mixb_orders), ("quern/mixs.iv", laid_quern_mixs_iv)], narrowed := true }
def MixsOpensUptoSaid : Prop := mixsOpensUptoRow.holds Tryd.pinned (OpenSpec.upto mixsOpensSpec)

end Rows
end Go.Proofs.YtecepllidmkmhaaDoor
