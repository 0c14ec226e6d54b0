/-
  Sizes of the rows of sixteen and of eight words.
-/
import Derived.Test.YtecepllidmkmhaaDoorRoundL
namespace Go.Proofs.YtecepllidmkmhaaDoor
open Go.RowKit
set_option linter.unusedVariables false
set_option linter.unusedSimpArgs false
namespace MX
theorem info16 (l : List Int) (h : l.length = 16) : (Tryd.prog.info? 26).map (·.size) = some (K .u32 l).size := by rw [K_size, h]; kernel_rfl
theorem size16 (l l' : List Int) (h : l.length = 16) (h' : l'.length = 16) : (K .u32 l).size = (K .u32 l').size := by rw [K_size, K_size, h, h']
theorem info8 (l : List Int) (h : l.length = 8) : (Tryd.prog.info? 24).map (·.size) = some (K .u32 l).size := by rw [K_size, h]; kernel_rfl
theorem size8 (l l' : List Int) (h : l.length = 8) (h' : l'.length = 8) : (K .u32 l).size = (K .u32 l').size := by rw [K_size, K_size, h, h']
theorem forthL_length (vs ms : List Int) (n : Nat) : (forthL vs ms n).length = vs.length := forthTo_length _ _ _ _
theorem backL_length (vs ms : List Int) (n : Nat) : (backL vs ms n).length = vs.length := backTo_length _ _ _ _
theorem forthL_Ws {vs : List Int} (ms : List Int) (n : Nat) (h : Ws vs) : Ws (forthL vs ms n) := forthTo_Ws _ _ _ h
theorem backL_Ws {vs : List Int} (ms : List Int) (n : Nat) (h : Ws vs) : Ws (backL vs ms n) := backTo_Ws _ _ _ h
end MX
end Go.Proofs.YtecepllidmkmhaaDoor
