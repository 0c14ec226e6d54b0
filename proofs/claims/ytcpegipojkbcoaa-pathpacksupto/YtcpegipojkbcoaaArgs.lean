/-
  How a Field among a law's arguments is opened: its numbers, its bytes, and where they lie.
-/
import Derived.Test.YtcpegipojkbcoaaRows
import Derived.Test.YtcpegipojkbcoaaBase
import Derived.ProofKit
import Derived.OpenShut
import Derived.SizedLaws
import Derived.Lib.SmallJoins
namespace Go.Proofs.Ytcpegipojkbcoaa
open Go.ChangeShapes Go.WideShapes Go.ChangeAt Go.RowKit Go.Joins
set_option linter.unusedVariables false
namespace LW
open Words
theorem open_bytes1 {H : Type} {enc : TypeId × Value → H} {W : World} {v : Value} {n : Nat} {y : DataW H × List MemPlace}
    (h : DataW.trod enc Try.prog W 0 (fun _ => true) true n 24 [v] = some y) :
    ∃ (a : Option Addr) (cap : Nat) (zs : List Int), v = .slice a zs.length cap ∧ Byt zs ∧ Row W a zs ∧ (a = none → cap = 0) ∧ zs.length ≤ maxLen ∧ ((y.1 = .nil ∧ zs.length = 0) ∨ ∃ sp, y.1 = .slice (lits .u8 zs) sp) := by
  rcases open_ints Try.underlying24 Try.underlying5 (by kernel_rfl) h with ⟨hcs, hx⟩ | ⟨x, l, c, zs, hcs, _, hl, hm, hz, hx, hcell, hwz⟩
  · simp at hcs
    exact ⟨none, 0, [], by rw [hcs]; rfl, Byt.nil, .inl rfl, fun _ => rfl, by simp [maxLen], .inl ⟨by rw [hx], rfl⟩⟩
  · simp at hcs
    have hz' : zs.length = c := by simpa using hz
    have hl' : (zs.take l).length = l := by simp; omega
    refine ⟨some x, c, zs.take l, by rw [hl', hcs], fun z hz => ?_, ?_, (fun h => by cases h), by rw [hl']; omega, .inr ⟨_, by rw [hx]⟩⟩
    · have := bounds_u8 (hwz z (List.mem_of_mem_take hz))
      omega
    · by_cases h0 : l = 0
      · subst h0; exact .inl rfl
      · obtain ⟨b, off, spot⟩ := x
        have hspot : spot = none := by simpa [Addr.add] using World.cell?_spot (hcell 0 (by omega))
        subst hspot
        refine .inr ⟨b, off, rfl, fun i hi => ?_⟩
        have hc := hcell i (by omega)
        have e : (⟨b, off, none⟩ : Addr).add i = ⟨b, off + i, none⟩ := by unfold Addr.add; split <;> simp_all
        rw [e] at hc
        rw [hc]
        have hi' : i < l := by omega
        simp [List.getD_eq_getElem?_getD, hi']
theorem array5 {α : Type} {cs : Array α} (h : cs.size = 5) : ∃ c0 c1 c2 c3 c4, cs = #[c0, c1, c2, c3, c4] := by
  obtain ⟨l⟩ := cs
  match l, h with
  | [c0, c1, c2, c3, c4], _ => exact ⟨c0, c1, c2, c3, c4, rfl⟩
theorem cells3 : Try.prog.cellsOf 3 = 1 := by kernel_rfl
theorem cells28 : Try.prog.cellsOf 27 = 1 := by kernel_rfl
theorem cells29 : Try.prog.cellsOf 24 = 1 := by kernel_rfl
theorem bytes5 : Try.prog.bytesOf 5 = 1 := by kernel_rfl
end LW
end Go.Proofs.Ytcpegipojkbcoaa
