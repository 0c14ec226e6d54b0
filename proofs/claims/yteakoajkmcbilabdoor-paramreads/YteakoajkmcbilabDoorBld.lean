/-
  What the builder's String gives.
-/
import Derived.Test.YteakoajkmcbilabDoorRDigits
import Derived.Shelf.Strings.BuilderK
import Derived.Test.YteakoajkmcbilabDoorLayST
namespace Go.Proofs.YteakoajkmcbilabDoor
open Go.RowKit Go.Shelf
set_option linter.unusedVariables false
set_option linter.unusedSimpArgs false
namespace LW
open Words
set_option maxRecDepth 100000 in
theorem extraST : Builder.Extra Tryd.prog laysST_ren := {
  sizeBuilder := by kernel_rfl
  liesBuilder := by kernel_rfl
  t5 := Tryd.underlying5
  a5 := Tryd.isAgg5
  z5 := Tryd.sizeOf5
  v5 := Tryd.zeroValue5
  infoByte := by kernel_rfl
  cellsByte := by kernel_rfl
  sizeByte := by kernel_rfl
  neB5 := by decide }
theorem byteCells_of (s : List Int) (h : Byt s) : Lib.byteCells (s.map fun n => UInt8.ofNat n.toNat) = vs s := by
  unfold Lib.byteCells vs
  rw [List.map_map]
  refine List.map_congr_left fun z hz => ?_
  obtain ⟨h0, h1⟩ := h z hz
  show Value.int .u8 ((UInt8.ofNat z.toNat).toNat : Int) = Value.int .u8 z
  rw [UInt8.toNat_ofNat']
  congr 1
  omega
theorem strCells_of (s : List Int) (h : Byt s) : Lib.strCells (strOfNums s) = vs s := by
  rw [Lib.strCells_eq, ← byteCells_of s h]
  rfl
/-- A builder that holds such bytes. -/
def Bl (w : World) (B b : Nat) (l : List Int) : Prop := Lib.IsBuilderF 52 5 B b (vs l) w
theorem bString (B b : Nat) (l : List Int) (w : World) (h : Bl w B b l) (hs : Byt l) (hB : B ≤ w.heap.size) :
    Calls Tryd.prog 23 #[.pointer (some ⟨b, 0, none⟩)] w fun e w' => e = .returned (.string (strOfNums l)) ∧ Below B w w' := by
  have h' := h
  unfold Bl at h'
  rw [← byteCells_of l hs] at h'
  refine (Any.Builder_String_any_k laysST extraST B b _ w h' hB).mono ?_
  rintro e w' ⟨rfl, _, h2, _⟩
  exact ⟨rfl, h2⟩
end LW
end Go.Proofs.YteakoajkmcbilabDoor
