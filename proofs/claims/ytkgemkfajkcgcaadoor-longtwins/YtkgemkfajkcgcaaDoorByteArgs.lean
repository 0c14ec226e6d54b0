/-
  How a []byte among a law's arguments is opened: its bytes, where they lie, and what the reading of it says of their number.
-/
import Derived.Test.YtkgemkfajkcgcaaDoorBase
import Derived.SizedLaws
import Derived.ProofKit
import Derived.OpenShut
import Derived.ChangeOld
namespace Go.Proofs.YtkgemkfajkcgcaaDoor
open Go.ChangeShapes Go.WideShapes Go.ChangeAt Go.RowKit
set_option linter.unusedVariables false
namespace LW
open Words
structure Bb (W : World) (a : Option Addr) (cap : Nat) (zs : List Int) : Prop where
  row : Row W a zs
  nil : a = none → cap = 0
  most : zs.length ≤ 140737488351232
  room : zs.length ≤ cap
  byt : Byt zs
theorem open_slice29 {H : Type} {enc : TypeId × Value → H} {W : World} {r : Reach} {b0 : Nat} {v : Value} {d : DataW H} {p : List MemPlace}
    (hv : Value.okWide Tryd.prog W r b0 31 v) (h : DataW.Trod enc Tryd.prog W 0 (fun _ => true) true 31 v d p) :
    ∃ (a : Option Addr) (cap : Nat) (zs : List Int), v = .slice a zs.length cap ∧ zs.length ≤ cap ∧ Byt zs ∧ Row W a zs ∧ (a = none → cap = 0) ∧ zs.length ≤ maxLen ∧ ((d = .nil ∧ zs.length = 0) ∨ ∃ sp, d = .slice (lits .u8 zs) sp) := by
  obtain ⟨a, len, cap, rfl⟩ := okWide_slice Tryd.underlying31 hv
  obtain ⟨fuel, hf⟩ := h
  rcases open_ints Tryd.underlying31 Tryd.underlying5 (by kernel_rfl) hf with ⟨hcs, hx⟩ | ⟨x, l, c, zs, hcs, _, hl, hm, hz, hx, hcell, hwz⟩
  · simp [Value.cells] at hcs
    obtain ⟨rfl, rfl, rfl⟩ := hcs
    simp only [Prod.mk.injEq] at hx
    exact ⟨none, 0, [], rfl, Nat.zero_le _, Byt.nil, .inl rfl, fun _ => rfl, by simp [maxLen], .inl ⟨hx.1, rfl⟩⟩
  · simp [Value.cells] at hcs
    obtain ⟨rfl, rfl, rfl⟩ := hcs
    simp only [Prod.mk.injEq] at hx
    have hz' : zs.length = cap := by simpa using hz
    have hl' : (zs.take len).length = len := by simp; omega
    refine ⟨some x, cap, zs.take len, by rw [hl'], by rw [hl']; omega, fun z hz => ?_, ?_, (fun h => by cases h), by rw [hl']; omega, .inr ⟨_, hx.1⟩⟩
    · have := bounds_u8 (hwz z (List.mem_of_mem_take hz))
      omega
    · by_cases h0 : len = 0
      · subst h0; exact .inl rfl
      · obtain ⟨b, off, spot⟩ := x
        have hspot : spot = none := by simpa [Addr.add] using World.cell?_spot (hcell 0 (by omega))
        subst hspot
        refine .inr ⟨b, off, rfl, fun i hi => ?_⟩
        have hc := hcell i (by omega)
        have e : (⟨b, off, none⟩ : Addr).add i = ⟨b, off + i, none⟩ := by unfold Addr.add; split <;> simp_all
        rw [e] at hc
        rw [hc]
        have hi' : i < len := by omega
        simp [List.getD_eq_getElem?_getD, hi']
theorem bytes5 : Tryd.prog.bytesOf 5 = 1 := by kernel_rfl
end LW
end Go.Proofs.YtkgemkfajkcgcaaDoor
