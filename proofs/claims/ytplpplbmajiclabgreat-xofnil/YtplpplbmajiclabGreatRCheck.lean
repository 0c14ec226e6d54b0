/-
  What the call Check of the document gives.
-/
import Derived.Test.YtplpplbmajiclabGreatCheck
namespace Go.Proofs.YtplpplbmajiclabGreat
open Go.RowKit
set_option linter.unusedVariables false
namespace LW
open Words
def ckB (a0 a1 b1 a2 b2 a3 b3 a4 b4 c4 x a5 k2 b5 a6 a7 b7 a8 b8 a9 a10 : Bool) : Int :=
  if a0 then 1 else if a1 || b1 then 20 else if a2 || b2 then 8 else if a3 || b3 then 21 else if a4 || b4 || (c4 && x) then 22 else if (!x && a5) || (x && k2 && b5) then 23 else if k2 && a6 then 24 else if a7 || b7 then 25 else if a8 || b8 then 26 else if a9 then 27 else if a10 then 28 else 0
theorem ckB_1 (d k f dp off xof nd inn : Int) (sl tl : Nat) (o1 : off < 18446744073709551616) (x0 : 0 ≤ xof) (x1 : xof < 4294967296) :
    ckB ((64 : Int) == 0) (decide (d < 1)) (decide (64 < d)) (decide (k < 0)) (decide (64 < k)) (decide (f < 0)) (decide (255 < f)) (decide (dp < 0)) (decide (255 < dp)) (dp == 0) (xof == 0) (decide (4294967295 < off)) ((1 : Int) == 2) (decide (281474976710655 < off)) (decide (65535 < xof)) (decide (nd < 0)) (decide (255 < nd)) (decide (inn < 0)) (decide (64 < inn)) (decide (16 < (sl : Int))) (decide (16 < (tl : Int)))
      = ck 1 d k f dp off xof nd inn sl tl := by
  simp only [ck, ckB, ckG, if_true]
  by_cases hx : xof = 0
  · simp [hx]
    grind
  · simp [hx]
    grind
theorem ckB_2 (d k f dp off xof nd inn : Int) (sl tl : Nat) (o1 : off < 18446744073709551616) (x0 : 0 ≤ xof) (x1 : xof < 4294967296) :
    ckB ((32 : Int) == 0) (decide (d < 1)) (decide (32 < d)) (decide (k < 0)) (decide (32 < k)) (decide (f < 0)) (decide (255 < f)) (decide (dp < 0)) (decide (255 < dp)) (dp == 0) (xof == 0) (decide (4294967295 < off)) ((2 : Int) == 2) (decide (281474976710655 < off)) (decide (65535 < xof)) (decide (nd < 0)) (decide (255 < nd)) (decide (inn < 0)) (decide (32 < inn)) (decide (8 < (sl : Int))) (decide (8 < (tl : Int)))
      = ck 2 d k f dp off xof nd inn sl tl := by
  simp only [ck, ckB, ckG]
  by_cases hx : xof = 0
  · simp [hx]
    grind
  · simp [hx]
    grind
end LW
end Go.Proofs.YtplpplbmajiclabGreat
