/-
  How a []byte among a law's arguments is opened: its bytes, where they lie, and what the reading of it says of their number.
-/
import Derived.Test.YtecepllidmkmhaaDoorArgs
import Derived.Test.YtecepllidmkmhaaDoorLoad
import Derived.SizedLaws
namespace Go.Proofs.YtecepllidmkmhaaDoor
open Go.ChangeShapes Go.WideShapes Go.ChangeAt Go.RowKit
set_option linter.unusedVariables false
namespace MX
open Words
theorem open_bytes {H : Type} {enc : TypeId × Value → H} {W : World} {r : Reach} {b0 : Nat} {v : Value} {d : DataW H} {p : List MemPlace}
    (h : DataW.Trod enc Tryd.prog W 0 (fun _ => true) true 22 v d p) (hv : Value.okWide Tryd.prog W r b0 22 v) :
    ∃ (a : Option Addr) (cap : Nat) (zs : List Int), v = .slice a zs.length cap ∧ Byt zs ∧ LW.Row W a zs ∧ (a = none → cap = 0) ∧ zs.length ≤ maxLen ∧ zs.length ≤ cap ∧ ((d = .nil ∧ zs.length = 0) ∨ ∃ sp, d = .slice (lits .u8 zs) sp) := by
  obtain ⟨a, len, cap, rfl⟩ := okWide_slice Tryd.underlying22 hv
  obtain ⟨fuel, hf⟩ := h
  rcases open_ints Tryd.underlying22 Tryd.underlying5 (by kernel_rfl) hf with ⟨hcs, hx⟩ | ⟨x, l, c, zs, hcs, _, hl, hm, hz, hx, hcell, hwz⟩
  · simp [Value.cells] at hcs
    obtain ⟨rfl, rfl, rfl⟩ := hcs
    simp only [Prod.mk.injEq] at hx
    exact ⟨none, 0, [], rfl, Byt.nil, .inl rfl, fun _ => rfl, by simp [maxLen], Nat.zero_le _, .inl ⟨hx.1, rfl⟩⟩
  · simp [Value.cells] at hcs
    obtain ⟨rfl, rfl, rfl⟩ := hcs
    simp only [Prod.mk.injEq] at hx
    have hz' : zs.length = cap := by simpa using hz
    have hl' : (zs.take len).length = len := by simp; omega
    refine ⟨some x, cap, zs.take len, by rw [hl'], fun z hz => ?_, ?_, (fun h => by cases h), by rw [hl']; omega, by rw [hl']; omega, .inr ⟨_, hx.1⟩⟩
    · have := bounds_u8 (hwz z (List.mem_of_mem_take hz))
      omega
    · by_cases h0 : len = 0
      · subst h0; exact .inl rfl
      · obtain ⟨b, off, spot⟩ := x
        have hspot : spot = none := by simpa [Addr.add] using World.cell?_spot (hcell 0 (by omega))
        subst hspot
        refine .inr ⟨b, off, rfl, fun i hi => ?_⟩
        have hc := hcell i (by omega)
        have e : (⟨b, off, none⟩ : Addr).add i = ⟨b, off + i, none⟩ := by unfold Addr.add; split <;> simp_all
        rw [e] at hc
        rw [hc]
        have hi' : i < len := by omega
        simp [List.getD_eq_getElem?_getD, hi']
theorem bulk_lits {H : Type} (zs : List Int) : Rows.uptoBulkAll (lits (H := H) .u8 zs) = zs.length := by
  induction zs with
  | nil => simp [lits, Rows.uptoBulkAll]
  | cons z l ih => simp only [lits, List.map_cons, Rows.uptoBulkAll, Rows.uptoBulk] at *; simp only [ih, List.length_cons]; omega
theorem bulk_bytes {H : Type} (zs : List Int) (sp : List (DataW H)) : zs.length + 1 ≤ Rows.uptoBulk (.slice (lits (H := H) .u8 zs) sp) := by
  simp only [Rows.uptoBulk, bulk_lits]; omega
/-- What the bound says of a []byte among the arguments. -/
theorem bulk_of {H : Type} {d : DataW H} {zs : List Int} (hd : (d = .nil ∧ zs.length = 0) ∨ ∃ sp, d = .slice (lits .u8 zs) sp) : zs.length ≤ Rows.uptoBulk d := by
  rcases hd with ⟨_, h⟩ | ⟨sp, rfl⟩
  · omega
  · have := bulk_bytes (H := H) zs sp; omega
theorem bytes5 : Tryd.prog.bytesOf 5 = 1 := by kernel_rfl
end MX
end Go.Proofs.YtecepllidmkmhaaDoor
