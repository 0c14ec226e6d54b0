/-
  NARROWER THAN 'FOR EVERY INPUT', by the rows' own cells (each row's printed sentence says how): MixbTables: laid · MixbWords: laid · MixbSteps: laid · MixbRounds: laid · MixbBack: laid · MixbOrders: laid.
  DERIVED. THE GIVEN ROWS OF THIS SEAT. 6 by the template 'for every input the law returns true; each argument reads behind the call as it read before'; 0 by the template 'total and deterministic' (their statements: YtkilackhomhpgaaDoorTotals.lean).
  GIVEN WITH THE SEED: the statements are not yours to turn. If you find one false, say at which input.
  Laid BY PROGRAM, IN A SANDBOX (cutbox-rows.mjs): the forced cells as the released guide's own fill.sh prints them over the translation 185c25be6c47cbbb… (all of the seat's roots in one cut). By AI agents, Wed Nov 11 2026. No macro, syntax, notation, axiom, sorry.
-/
import Derived.Test.YtkilackhomhpgaaDoorChecked
import GoSem.Claim
import GoSem.ClaimJoined
import GoSem.ClaimMapViews
import Derived.JoinedTies
import Derived.KernelRfl
namespace Go.Proofs.YtkilackhomhpgaaDoor
/- THE CELL 'sum', in the pinned program and in every row, IS THE sha256 OF THE DUMP (.gsa) THAT YtkilackhomhpgaaDoorProg.lean LOADS. Nothing in Lean hashes anything: it is a label: what it is worth is what the hold of that sum in a sandbox is worth. -/
noncomputable def Tryd.pinned : Pinned := { name := "ytkilackhomhpgaadoor", sum := "185c25be6c47cbbb82580b32140bdf369987c234b5ffc0394ca19bdb65fcad38", checked := Tryd.checked }
namespace Rows
def none {H : Type} : Left H := { results := [], args := [] }

/- WHAT THE LISTED PACKAGE-LEVEL VARIABLES READ AS WHEN THE CALL BEGINS. Each datum BY PROGRAM (the guide's laid-datum.mjs) off the statement by which the dump's own 'gosem.cut.vars' lays the variable. In a bare row this is a premise. The card (YtkilackhomhpgaaDoorCards.lean) ties it to the program's text. -/
def laid_quern_mixb_iv {H : Type} : DataW H := .agg [.lit (.int .u64 7640891576956012808), .lit (.int .u64 13503953896175478587), .lit (.int .u64 4354685564936845355), .lit (.int .u64 11912009170470909681), .lit (.int .u64 5840696475078001361), .lit (.int .u64 11170449401992604703), .lit (.int .u64 2270897969802886507), .lit (.int .u64 6620516959819538809)]
def laid_quern_mixb_orders {H : Type} : DataW H := .agg [.agg [.lit (.int .u8 0), .lit (.int .u8 1), .lit (.int .u8 2), .lit (.int .u8 3), .lit (.int .u8 4), .lit (.int .u8 5), .lit (.int .u8 6), .lit (.int .u8 7), .lit (.int .u8 8), .lit (.int .u8 9), .lit (.int .u8 10), .lit (.int .u8 11), .lit (.int .u8 12), .lit (.int .u8 13), .lit (.int .u8 14), .lit (.int .u8 15)], .agg [.lit (.int .u8 14), .lit (.int .u8 10), .lit (.int .u8 4), .lit (.int .u8 8), .lit (.int .u8 9), .lit (.int .u8 15), .lit (.int .u8 13), .lit (.int .u8 6), .lit (.int .u8 1), .lit (.int .u8 12), .lit (.int .u8 0), .lit (.int .u8 2), .lit (.int .u8 11), .lit (.int .u8 7), .lit (.int .u8 5), .lit (.int .u8 3)], .agg [.lit (.int .u8 11), .lit (.int .u8 8), .lit (.int .u8 12), .lit (.int .u8 0), .lit (.int .u8 5), .lit (.int .u8 2), .lit (.int .u8 15), .lit (.int .u8 13), .lit (.int .u8 10), .lit (.int .u8 14), .lit (.int .u8 3), .lit (.int .u8 6), .lit (.int .u8 7), .lit (.int .u8 1), .lit (.int .u8 9), .lit (.int .u8 4)], .agg [.lit (.int .u8 7), .lit (.int .u8 9), .lit (.int .u8 3), .lit (.int .u8 1), .lit (.int .u8 13), .lit (.int .u8 12), .lit (.int .u8 11), .lit (.int .u8 14), .lit (.int .u8 2), .lit (.int .u8 6), .lit (.int .u8 5), .lit (.int .u8 10), .lit (.int .u8 4), .lit (.int .u8 0), .lit (.int .u8 15), .lit (.int .u8 8)], .agg [.lit (.int .u8 9), .lit (.int .u8 0), .lit (.int .u8 5), .lit (.int .u8 7), .lit (.int .u8 2), .lit (.int .u8 4), .lit (.int .u8 10), .lit (.int .u8 15), .lit (.int .u8 14), .lit (.int .u8 1), .lit (.int .u8 11), .lit (.int .u8 12), .lit (.int .u8 6), .lit (.int .u8 8), .lit (.int .u8 3), .lit (.int .u8 13)], .agg [.lit (.int .u8 2), .lit (.int .u8 12), .lit (.int .u8 6), .lit (.int .u8 10), .lit (.int .u8 0), .lit (.int .u8 11), .lit (.int .u8 8), .lit (.int .u8 3), .lit (.int .u8 4), .lit (.int .u8 13), .lit (.int .u8 7), .lit (.int .u8 5), .lit (.int .u8 15), .lit (.int .u8 14), .lit (.int .u8 1), .lit (.int .u8 9)], .agg [.lit (.int .u8 12), .lit (.int .u8 5), .lit (.int .u8 1), .lit (.int .u8 15), .lit (.int .u8 14), .lit (.int .u8 13), .lit (.int .u8 4), .lit (.int .u8 10), .lit (.int .u8 0), .lit (.int .u8 7), .lit (.int .u8 6), .lit (.int .u8 3), .lit (.int .u8 9), .lit (.int .u8 2), .lit (.int .u8 8), .lit (.int .u8 11)], .agg [.lit (.int .u8 13), .lit (.int .u8 11), .lit (.int .u8 7), .lit (.int .u8 14), .lit (.int .u8 12), .lit (.int .u8 1), .lit (.int .u8 3), .lit (.int .u8 9), .lit (.int .u8 5), .lit (.int .u8 0), .lit (.int .u8 15), .lit (.int .u8 4), .lit (.int .u8 8), .lit (.int .u8 6), .lit (.int .u8 2), .lit (.int .u8 10)], .agg [.lit (.int .u8 6), .lit (.int .u8 15), .lit (.int .u8 14), .lit (.int .u8 9), .lit (.int .u8 11), .lit (.int .u8 3), .lit (.int .u8 0), .lit (.int .u8 8), .lit (.int .u8 12), .lit (.int .u8 2), .lit (.int .u8 13), .lit (.int .u8 7), .lit (.int .u8 1), .lit (.int .u8 4), .lit (.int .u8 10), .lit (.int .u8 5)], .agg [.lit (.int .u8 10), .lit (.int .u8 2), .lit (.int .u8 8), .lit (.int .u8 4), .lit (.int .u8 7), .lit (.int .u8 6), .lit (.int .u8 1), .lit (.int .u8 5), .lit (.int .u8 15), .lit (.int .u8 11), .lit (.int .u8 9), .lit (.int .u8 14), .lit (.int .u8 3), .lit (.int .u8 12), .lit (.int .u8 13), .lit (.int .u8 0)]]
def laid_quern_mixb_places {H : Type} : DataW H := .agg [.agg [.lit (.int .u8 0), .lit (.int .u8 4), .lit (.int .u8 8), .lit (.int .u8 12)], .agg [.lit (.int .u8 1), .lit (.int .u8 5), .lit (.int .u8 9), .lit (.int .u8 13)], .agg [.lit (.int .u8 2), .lit (.int .u8 6), .lit (.int .u8 10), .lit (.int .u8 14)], .agg [.lit (.int .u8 3), .lit (.int .u8 7), .lit (.int .u8 11), .lit (.int .u8 15)], .agg [.lit (.int .u8 0), .lit (.int .u8 5), .lit (.int .u8 10), .lit (.int .u8 15)], .agg [.lit (.int .u8 1), .lit (.int .u8 6), .lit (.int .u8 11), .lit (.int .u8 12)], .agg [.lit (.int .u8 2), .lit (.int .u8 7), .lit (.int .u8 8), .lit (.int .u8 13)], .agg [.lit (.int .u8 3), .lit (.int .u8 4), .lit (.int .u8 9), .lit (.int .u8 14)]]

/-- 'quernlaw03.MixbTables': WHATEVER THE INPUT: true; the input reads as it did. -/
def mixbTablesSpec : ChangeSpec := { name := "mixbTables", fn := fun _ => fun
  | [d] => { results := [.lit (.bool true)], args := [d] }
  | _ => none }
def mixbTablesRow : OpenClaim := { program := "ytkilackhomhpgaadoor", sum := "185c25be6c47cbbb82580b32140bdf369987c234b5ffc0394ca19bdb65fcad38", func := "quern/quernlaw03.MixbTables", spec := "mixbTables", named := ["quern/mixb.iv", "quern/mixb.orders"], apart := false, laid := [("quern/mixb.iv", laid_quern_mixb_iv), ("quern/mixb.orders", laid_quern_mixb_orders)] }
def MixbTablesSaid : Prop := mixbTablesRow.holds Tryd.pinned (OpenSpec.ofChange mixbTablesSpec)

/-- ITS FALSE NEIGHBOUR: 'it returns false'. Refute it at one input. -/
def mixbTablesWrong : ChangeSpec := { name := "mixbTables", fn := fun _ => fun
  | [d] => { results := [.lit (.bool false)], args := [d] }
  | _ => none }
def MixbTablesWrongFalsely : Prop := mixbTablesRow.holds Tryd.pinned (OpenSpec.ofChange mixbTablesWrong)

/-- 'quernlaw03.MixbWords': WHATEVER THE INPUT: true; the input reads as it did. -/
def mixbWordsSpec : ChangeSpec := { name := "mixbWords", fn := fun _ => fun
  | [d1, d2] => { results := [.lit (.bool true)], args := [d1, d2] }
  | _ => none }
def mixbWordsRow : OpenClaim := { program := "ytkilackhomhpgaadoor", sum := "185c25be6c47cbbb82580b32140bdf369987c234b5ffc0394ca19bdb65fcad38", func := "quern/quernlaw03.MixbWords", spec := "mixbWords", named := ["quern/mixb.iv", "quern/mixb.orders"], apart := false, laid := [("quern/mixb.iv", laid_quern_mixb_iv), ("quern/mixb.orders", laid_quern_mixb_orders)] }
def MixbWordsSaid : Prop := mixbWordsRow.holds Tryd.pinned (OpenSpec.ofChange mixbWordsSpec)

/-- ITS FALSE NEIGHBOUR: 'it returns false'. Refute it at one input. -/
def mixbWordsWrong : ChangeSpec := { name := "mixbWords", fn := fun _ => fun
  | [d1, d2] => { results := [.lit (.bool false)], args := [d1, d2] }
  | _ => none }
def MixbWordsWrongFalsely : Prop := mixbWordsRow.holds Tryd.pinned (OpenSpec.ofChange mixbWordsWrong)

/-- 'quernlaw03.MixbSteps': WHATEVER THE INPUT: true; the input reads as it did. -/
def mixbStepsSpec : ChangeSpec := { name := "mixbSteps", fn := fun _ => fun
  | [d] => { results := [.lit (.bool true)], args := [d] }
  | _ => none }
def mixbStepsRow : OpenClaim := { program := "ytkilackhomhpgaadoor", sum := "185c25be6c47cbbb82580b32140bdf369987c234b5ffc0394ca19bdb65fcad38", func := "quern/quernlaw03.MixbSteps", spec := "mixbSteps", named := ["quern/mixb.iv", "quern/mixb.orders"], apart := false, laid := [("quern/mixb.iv", laid_quern_mixb_iv), ("quern/mixb.orders", laid_quern_mixb_orders)] }
def MixbStepsSaid : Prop := mixbStepsRow.holds Tryd.pinned (OpenSpec.ofChange mixbStepsSpec)

/-- ITS FALSE NEIGHBOUR: 'it returns false'. Refute it at one input. -/
def mixbStepsWrong : ChangeSpec := { name := "mixbSteps", fn := fun _ => fun
  | [d] => { results := [.lit (.bool false)], args := [d] }
  | _ => none }
def MixbStepsWrongFalsely : Prop := mixbStepsRow.holds Tryd.pinned (OpenSpec.ofChange mixbStepsWrong)

/-- 'quernlaw03.MixbRounds': WHATEVER THE INPUT: true; the input reads as it did. -/
def mixbRoundsSpec : ChangeSpec := { name := "mixbRounds", fn := fun _ => fun
  | [d1, d2, d3] => { results := [.lit (.bool true)], args := [d1, d2, d3] }
  | _ => none }
def mixbRoundsRow : OpenClaim := { program := "ytkilackhomhpgaadoor", sum := "185c25be6c47cbbb82580b32140bdf369987c234b5ffc0394ca19bdb65fcad38", func := "quern/quernlaw03.MixbRounds", spec := "mixbRounds", named := ["quern/mixb.orders", "quern/mixb.places", "quern/mixb.iv"], apart := false, laid := [("quern/mixb.iv", laid_quern_mixb_iv), ("quern/mixb.orders", laid_quern_mixb_orders), ("quern/mixb.places", laid_quern_mixb_places)] }
def MixbRoundsSaid : Prop := mixbRoundsRow.holds Tryd.pinned (OpenSpec.ofChange mixbRoundsSpec)

/-- ITS FALSE NEIGHBOUR: 'it returns false'. Refute it at one input. -/
def mixbRoundsWrong : ChangeSpec := { name := "mixbRounds", fn := fun _ => fun
  | [d1, d2, d3] => { results := [.lit (.bool false)], args := [d1, d2, d3] }
  | _ => none }
def MixbRoundsWrongFalsely : Prop := mixbRoundsRow.holds Tryd.pinned (OpenSpec.ofChange mixbRoundsWrong)

/-- 'quernlaw03.MixbBack': WHATEVER THE INPUT: true; the input reads as it did. -/
def mixbBackSpec : ChangeSpec := { name := "mixbBack", fn := fun _ => fun
  | [d1, d2, d3, d4] => { results := [.lit (.bool true)], args := [d1, d2, d3, d4] }
  | _ => none }
def mixbBackRow : OpenClaim := { program := "ytkilackhomhpgaadoor", sum := "185c25be6c47cbbb82580b32140bdf369987c234b5ffc0394ca19bdb65fcad38", func := "quern/quernlaw03.MixbBack", spec := "mixbBack", named := ["quern/mixb.orders", "quern/mixb.places"], apart := false, laid := [("quern/mixb.orders", laid_quern_mixb_orders), ("quern/mixb.places", laid_quern_mixb_places)] }
def MixbBackSaid : Prop := mixbBackRow.holds Tryd.pinned (OpenSpec.ofChange mixbBackSpec)

/-- ITS FALSE NEIGHBOUR: 'it returns false'. Refute it at one input. -/
def mixbBackWrong : ChangeSpec := { name := "mixbBack", fn := fun _ => fun
  | [d1, d2, d3, d4] => { results := [.lit (.bool false)], args := [d1, d2, d3, d4] }
  | _ => none }
def MixbBackWrongFalsely : Prop := mixbBackRow.holds Tryd.pinned (OpenSpec.ofChange mixbBackWrong)

/-- 'quernlaw03.MixbOrders': WHATEVER THE INPUT: true; the input reads as it did. -/
def mixbOrdersSpec : ChangeSpec := { name := "mixbOrders", fn := fun _ => fun
  | [d] => { results := [.lit (.bool true)], args := [d] }
  | _ => none }
def mixbOrdersRow : OpenClaim := { program := "ytkilackhomhpgaadoor", sum := "185c25be6c47cbbb82580b32140bdf369987c234b5ffc0394ca19bdb65fcad38", func := "quern/quernlaw03.MixbOrders", spec := "mixbOrders", named := ["quern/mixb.orders", "quern/mixb.iv"], apart := false, laid := [("quern/mixb.iv", laid_quern_mixb_iv), ("quern/mixb.orders", laid_quern_mixb_orders)] }
def MixbOrdersSaid : Prop := mixbOrdersRow.holds Tryd.pinned (OpenSpec.ofChange mixbOrdersSpec)

/-- ITS FALSE NEIGHBOUR: 'it returns false'. Refute it at one input. -/
def mixbOrdersWrong : ChangeSpec := { name := "mixbOrders", fn := fun _ => fun
  | [d] => { results := [.lit (.bool false)], args := [d] }
  | _ => none }
def MixbOrdersWrongFalsely : Prop := mixbOrdersRow.holds Tryd.pinned (OpenSpec.ofChange mixbOrdersWrong)

/- THE SECOND FORM. 'bulk': how many values and letters a reading holds, each counted each time it is reached (what is shared counts as often as it is met; a slice's spare places count too). A statement '..UptoSaid' is the law's where the arguments, and the package variables that the reading takes, are together of bulk at most 1048576: NARROWER than '..Said'. Prove '..Said' where nothing that the law and all that it calls make is longer than what came in: it says more and counts as full. Else prove '..UptoSaid'. A law counts once. -/
mutual
def uptoBulk {H : Type} : DataW H → Nat
  | .lit (.string bytes) => bytes.length + 1
  | .lit _ => 1
  | .nil => 1
  | .ptr d => uptoBulk d + 1
  | .slice elems spare => uptoBulkAll elems + uptoBulkAll spare + 1
  | .agg parts => uptoBulkAll parts + 1
  | .iface _ d => uptoBulk d + 1
  | .map entries => uptoBulkEntries entries + 1
  | .held _ => 1
def uptoBulkAll {H : Type} : List (DataW H) → Nat
  | [] => 0
  | d :: r => uptoBulk d + uptoBulkAll r
def uptoBulkEntries {H : Type} : List (Lit × DataW H) → Nat
  | [] => 0
  | x :: r => uptoBulkEntry x + uptoBulkEntries r
def uptoBulkEntry {H : Type} : Lit × DataW H → Nat
  | (.string bytes, d) => bytes.length + uptoBulk d + 1
  | (_, d) => uptoBulk d + 1
 end
def uptoSmall : (H : Type) → List (DataW H) → Bool := fun _ ds => decide (uptoBulkAll ds ≤ 1048576)
def OpenSpec.upto (s : _root_.Go.ChangeSpec) : _root_.Go.OpenSpec := { _root_.Go.OpenSpec.ofChange s with cond := some uptoSmall }

/-- 'quernlaw03.MixbTables', WHERE WHAT IT READS IS OF BULK AT MOST 1048576: true; the input reads as it did. -/
def mixbTablesUptoRow : OpenClaim := { program := "ytkilackhomhpgaadoor", sum := "185c25be6c47cbbb82580b32140bdf369987c234b5ffc0394ca19bdb65fcad38", func := "quern/quernlaw03.MixbTables", spec := "mixbTables", named := ["quern/mixb.iv", "quern/mixb.orders"], apart := false, laid := [("quern/mixb.iv", laid_quern_mixb_iv), ("quern/mixb.orders", laid_quern_mixb_orders)], narrowed := true }
def MixbTablesUptoSaid : Prop := mixbTablesUptoRow.holds Tryd.pinned (OpenSpec.upto mixbTablesSpec)

/-- 'quernlaw03.MixbWords', WHERE WHAT IT READS IS OF BULK AT MOST 1048576: true; the input reads as it did. -/
def mixbWordsUptoRow : OpenClaim := { program := "ytkilackhomhpgaadoor", sum := "185c25be6c47cbbb82580b32140bdf369987c234b5ffc0394ca19bdb65fcad38", func := "quern/quernlaw03.MixbWords", spec := "mixbWords", named := ["quern/mixb.iv", "quern/mixb.orders"], apart := false, laid := [("quern/mixb.iv", laid_quern_mixb_iv), ("quern/mixb.orders", laid_quern_mixb_orders)], narrowed := true }
def MixbWordsUptoSaid : Prop := mixbWordsUptoRow.holds Tryd.pinned (OpenSpec.upto mixbWordsSpec)

/-- 'quernlaw03.MixbSteps', WHERE WHAT IT READS IS OF BULK AT MOST 1048576: true; the input reads as it did. -/
def mixbStepsUptoRow : OpenClaim := { program := "ytkilackhomhpgaadoor", sum := "185c25be6c47cbbb82580b32140bdf369987c234b5ffc0394ca19bdb65fcad38", func := "quern/quernlaw03.MixbSteps", spec := "mixbSteps", named := ["quern/mixb.iv", "quern/mixb.orders"], apart := false, laid := [("quern/mixb.iv", laid_quern_mixb_iv), ("quern/mixb.orders", laid_quern_mixb_orders)], narrowed := true }
def MixbStepsUptoSaid : Prop := mixbStepsUptoRow.holds Tryd.pinned (OpenSpec.upto mixbStepsSpec)

/-- 'quernlaw03.MixbRounds', WHERE WHAT IT READS IS OF BULK AT MOST 1048576: true; the input reads as it did. -/
def mixbRoundsUptoRow : OpenClaim := { program := "ytkilackhomhpgaadoor", sum := "185c25be6c47cbbb82580b32140bdf369987c234b5ffc0394ca19bdb65fcad38", func := "quern/quernlaw03.MixbRounds", spec := "mixbRounds", named := ["quern/mixb.orders", "quern/mixb.places", "quern/mixb.iv"], apart := false, laid := [("quern/mixb.iv", laid_quern_mixb_iv), ("quern/mixb.orders", laid_quern_mixb_orders), ("quern/mixb.places", laid_quern_mixb_places)], narrowed := true }
def MixbRoundsUptoSaid : Prop := mixbRoundsUptoRow.holds Tryd.pinned (OpenSpec.upto mixbRoundsSpec)

/-- 'quernlaw03.MixbBack', WHERE WHAT IT READS IS OF BULK AT MOST 1048576: true; the input reads as it did. -/
def mixbBackUptoRow : OpenClaim := { program := "ytkilackhomhpgaadoor", sum := "185c25be6c47cbbb82580b32140bdf369987c234b5ffc0394ca19bdb65fcad38", func := "quern/quernlaw03.MixbBack", spec := "mixbBack", named := ["quern/mixb.orders", "quern/mixb.places"], apart := false, laid := [("quern/mixb.orders", laid_quern_mixb_orders), ("quern/mixb.places", laid_quern_mixb_places)], narrowed := true }
def MixbBackUptoSaid : Prop := mixbBackUptoRow.holds Tryd.pinned (OpenSpec.upto mixbBackSpec)

/-- 'quernlaw03.MixbOrders', WHERE WHAT IT READS IS OF BULK AT MOST 1048576: true; the input reads as it did. -/
def mixbOrdersUptoRow : OpenClaim := { program := "ytkilackhomhpgaadoor", sum := "185c25be6c47cbbb82580b32140bdf369987c234b5ffc0394ca19bdb65fcad38", func := "quern/quernlaw03.MixbOrders", spec := "mixbOrders", named := ["quern/mixb.orders", "quern/mixb.iv"], apart := false, laid := [("quern/mixb.iv", laid_quern_mixb_iv), ("quern/mixb.orders", laid_quern_mixb_orders)], narrowed := true }
def MixbOrdersUptoSaid : Prop := mixbOrdersUptoRow.holds Tryd.pinned (OpenSpec.upto mixbOrdersSpec)

end Rows
end Go.Proofs.YtkilackhomhpgaaDoor
