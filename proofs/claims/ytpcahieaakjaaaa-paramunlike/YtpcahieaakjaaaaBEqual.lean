/-
  What the call bytes.Equal gives.
-/
import Derived.Test.YtpcahieaakjaaaaBase
import Derived.Lib.Bytes
namespace Go.Proofs.Ytpcahieaakjaaaa
open Go.RowKit
set_option linter.unusedVariables false
namespace LW
open Words
theorem str_inj {zs ys : List Int} (hz : Byt zs) (hy : Byt ys) (h : (strOfNums zs).toList = (strOfNums ys).toList) : zs = ys := by
  have h1 : zs.map (fun n => UInt8.ofNat n.toNat) = ys.map (fun n => UInt8.ofNat n.toNat) := by
    rw [Lib.strOfNums_toList, Lib.strOfNums_toList] at h; exact h
  have back : ∀ l : List Int, Byt l → (l.map (fun n => UInt8.ofNat n.toNat)).map (fun x => (x.toNat : Int)) = l := by
    intro l hl
    rw [List.map_map]
    conv => rhs; rw [← List.map_id l]
    apply List.map_congr_left
    intro x hx
    have := hl x hx
    simp [Nat.mod_eq_of_lt (show x.toNat < 256 by omega)]
    omega
  rw [← back zs hz, ← back ys hy, h1]
theorem conv_row (w : World) (a : Option Addr) (cap : Nat) (zs : List Int) (ha : ∀ ad, a = some ad → ∃ b off, ad = ⟨b, off, none⟩) (hr : Row w a zs) :
    (convert 24 9 (.slice a zs.length cap)).run Try.prog w = .ok (.string (strOfNums zs)) w := by
  cases a with
  | none =>
    have hz : zs = [] := by
      rcases hr with h | ⟨b, off, h, _⟩
      · exact h
      · cases h
    subst hz
    exact run_convert_bytes_nil w 24 5 Try.underlying24 Try.underlying5 _ _ 9 Try.underlying9
  | some ad =>
    obtain ⟨b, off, rfl⟩ := ha ad rfl
    refine run_convert_bytes_arg w 24 5 Try.underlying24 Try.underlying5 b off _ cap zs rfl (fun i hi => ?_) 9 Try.underlying9
    rcases hr with h | ⟨b', off', h, hc⟩
    · subst h; simp at hi
    · cases h
      exact hc i hi
theorem bEqual (a a' : Option Addr) (cap cap' : Nat) (zs ys : List Int) (w : World) (ha : ∀ ad, a = some ad → ∃ b off, ad = ⟨b, off, none⟩) (ha' : ∀ ad, a' = some ad → ∃ b off, ad = ⟨b, off, none⟩) (hr : Row w a zs) (hr' : Row w a' ys) (hz : Byt zs) (hy : Byt ys) :
    Calls Try.prog 39 #[.slice a zs.length cap, .slice a' ys.length cap'] w fun e w' => e = .returned (.bool (decide (zs = ys))) ∧ w = w' := by
  have h1 := conv_row w a cap zs ha hr
  have h2 := conv_row w a' cap' ys ha' hr'
  have hd : decide (zs = ys) = ((strOfNums zs).toList == (strOfNums ys).toList) := by
    rw [Bool.eq_iff_iff, decide_eq_true_iff, beq_iff_eq]
    exact ⟨fun h => by rw [h], fun h => str_inj hz hy h⟩
  rw [hd]
  clear hd hr hr' hz hy ha ha'
  generalize strOfNums zs = S1 at *
  generalize strOfNums ys = S2 at *
  generalize zs.length = n1 at *
  generalize ys.length = n2 at *
  go_enter Try.func39, Try.ntmps39
  go_wp2
  go_ret
  exact ⟨rfl, rfl⟩
end LW
end Go.Proofs.Ytpcahieaakjaaaa
