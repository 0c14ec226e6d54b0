/-
  What the call bytes.Equal gives.
-/
import Derived.Test.YtomdplcmbcjkfaaBase
import Derived.Lib.Bytes
namespace Go.Proofs.Ytomdplcmbcjkfaa
open Go.RowKit
set_option linter.unusedVariables false
namespace LW
open Words
theorem str_inj {zs ys : List Int} (hz : Byt zs) (hy : Byt ys) (h : (strOfNums zs).toList = (strOfNums ys).toList) : zs = ys := by
  have h1 : zs.map (fun n => UInt8.ofNat n.toNat) = ys.map (fun n => UInt8.ofNat n.toNat) := by
    rw [Lib.strOfNums_toList, Lib.strOfNums_toList] at h; exact h
  have back : ∀ l : List Int, Byt l → (l.map (fun n => UInt8.ofNat n.toNat)).map (fun x => (x.toNat : Int)) = l := by
    intro l hl
    rw [List.map_map]
    conv => rhs; rw [← List.map_id l]
    apply List.map_congr_left
    intro x hx
    have := hl x hx
    simp [Nat.mod_eq_of_lt (show x.toNat < 256 by omega)]
    omega
  rw [← back zs hz, ← back ys hy, h1]
theorem conv_row (w : World) (a : Option Addr) (cap : Nat) (zs : List Int) (ha : ∀ ad, a = some ad → ∃ b off, ad = ⟨b, off, none⟩) (hr : Row w a zs) :
    (convert 24 9 (.slice a zs.length cap)).run Try.prog w = .ok (.string (strOfNums zs)) w := by
  cases a with
  | none =>
    have hz : zs = [] := by
      rcases hr with h | ⟨b, off, h, _⟩
      · exact h
      · cases h
    subst hz
    exact run_convert_bytes_nil w 24 5 Try.underlying24 Try.underlying5 _ _ 9 Try.underlying9
  | some ad =>
    obtain ⟨b, off, rfl⟩ := ha ad rfl
    refine run_convert_bytes_arg w 24 5 Try.underlying24 Try.underlying5 b off _ cap zs rfl (fun i hi => ?_) 9 Try.underlying9
    rcases hr with h | ⟨b', off', h, hc⟩
    · subst h; simp at hi
    · cases h
      exact hc i hi
end LW
end Go.Proofs.Ytomdplcmbcjkfaa
