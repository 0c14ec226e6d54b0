/-
  What the call Check of the document gives.
-/
import Derived.Test.YtomdplcmbcjkfaaCheck
namespace Go.Proofs.Ytomdplcmbcjkfaa
open Go.RowKit
set_option linter.unusedVariables false
namespace LW
open Words
def ckB (a0 a1 b1 a2 b2 a3 b3 a4 b4 c4 x a5 k2 b5 a6 a7 b7 a8 b8 a9 a10 : Bool) : Int :=
  if a0 then 1 else if a1 || b1 then 20 else if a2 || b2 then 8 else if a3 || b3 then 21 else if a4 || b4 || (c4 && x) then 22 else if (!x && a5) || (x && k2 && b5) then 23 else if k2 && a6 then 24 else if a7 || b7 then 25 else if a8 || b8 then 26 else if a9 then 27 else if a10 then 28 else 0
set_option maxHeartbeats 8000000 in
theorem rcheckB (a0 a1 b1 a2 b2 a3 b3 a4 b4 c4 x a5 k2 b5 a6 a7 b7 a8 b8 a9 a10 : Bool) (kd m m4 : Int) (h4 : m.tdiv 4 = m4) (h5 : wrap64 m4 = m4) (d k f dp lf off xof nd inn : Int) (sa ta : Option Addr) (sl sc tl tc : Nat) (w : World)
    (e0 : (m == 0) = a0) (e1 : decide (d < 1) = a1) (e1' : decide (m < d) = b1) (e2 : decide (k < 0) = a2) (e2' : decide (m < k) = b2) (e3 : decide (f < 0) = a3) (e3' : decide (255 < f) = b3)
    (e4 : decide (dp < 0) = a4) (e4' : decide (255 < dp) = b4) (e4'' : (dp == 0) = c4)
    (e5 : (xof != 0) = !x) (e5a : (xof == 0) = x) (e5' : decide (4294967295 < off) = a5) (e5b : decide (281474976710655 < off) = b5) (e5'' : (kd == 2) = k2) (e6 : decide (65535 < xof) = a6)
    (e7 : decide (nd < 0) = a7) (e7' : decide (255 < nd) = b7) (e8 : decide (inn < 0) = a8) (e8' : decide (m < inn) = b8) (e9 : decide (m4 < (sl : Int)) = a9) (e10 : decide (m4 < (tl : Int)) = a10)
    (H : Hid (∀ W : World, Calls Try.prog 36 #[.int .i64 kd] W fun e w' => e = .returned (.int .i64 m) ∧ W = w')) :
    Calls Try.prog 32 #[.int .i64 kd, .agg (pc d k f dp lf off xof nd inn (.slice sa sl sc) (.slice ta tl tc))] w fun e w' => e = .returned (.int .i64 (ckB a0 a1 b1 a2 b2 a3 b3 a4 b4 c4 x a5 k2 b5 a6 a7 b7 a8 b8 a9 a10)) ∧ Below w.heap.size w w' := by
  unfold pc
  go_enter Try.func32, Try.ntmps32
  go_wp2_with fail
  refine (H.out _).mono ?_
  rintro e w1 ⟨rfl, rfl⟩
  go_wp2_with fail
  all_goals go_ret
  all_goals refine ⟨TW.ret_int ?_, (Below.refl _ _).alloc (Nat.le_refl _) _⟩
  all_goals simp [ckB, *]
theorem ckB_1 (d k f dp off xof nd inn : Int) (sl tl : Nat) (o1 : off < 18446744073709551616) (x0 : 0 ≤ xof) (x1 : xof < 4294967296) :
    ckB ((64 : Int) == 0) (decide (d < 1)) (decide (64 < d)) (decide (k < 0)) (decide (64 < k)) (decide (f < 0)) (decide (255 < f)) (decide (dp < 0)) (decide (255 < dp)) (dp == 0) (xof == 0) (decide (4294967295 < off)) ((1 : Int) == 2) (decide (281474976710655 < off)) (decide (65535 < xof)) (decide (nd < 0)) (decide (255 < nd)) (decide (inn < 0)) (decide (64 < inn)) (decide (16 < (sl : Int))) (decide (16 < (tl : Int)))
      = ck 1 d k f dp off xof nd inn sl tl := by
  simp only [ck, ckB, ckG, if_true]
  by_cases hx : xof = 0
  · simp [hx]
    grind
  · simp [hx]
    grind
theorem ckB_2 (d k f dp off xof nd inn : Int) (sl tl : Nat) (o1 : off < 18446744073709551616) (x0 : 0 ≤ xof) (x1 : xof < 4294967296) :
    ckB ((32 : Int) == 0) (decide (d < 1)) (decide (32 < d)) (decide (k < 0)) (decide (32 < k)) (decide (f < 0)) (decide (255 < f)) (decide (dp < 0)) (decide (255 < dp)) (dp == 0) (xof == 0) (decide (4294967295 < off)) ((2 : Int) == 2) (decide (281474976710655 < off)) (decide (65535 < xof)) (decide (nd < 0)) (decide (255 < nd)) (decide (inn < 0)) (decide (32 < inn)) (decide (8 < (sl : Int))) (decide (8 < (tl : Int)))
      = ck 2 d k f dp off xof nd inn sl tl := by
  simp only [ck, ckB, ckG]
  by_cases hx : xof = 0
  · simp [hx]
    grind
  · simp [hx]
    grind
theorem rcheck (kd d k f dp lf off xof nd inn : Int) (sa ta : Option Addr) (sl sc tl tc : Nat) (w : World)
    (o1 : off < 18446744073709551616) (x0 : 0 ≤ xof) (x1 : xof < 4294967296) :
    Calls Try.prog 32 #[.int .i64 kd, .agg (pc d k f dp lf off xof nd inn (.slice sa sl sc) (.slice ta tl tc))] w fun e w' => e = .returned (.int .i64 (ck kd d k f dp off xof nd inn sl tl)) ∧ Below w.heap.size w w' := by
  have hx : (xof != 0) = !(xof == 0) := rfl
  rcases kinds kd with rfl | rfl | ⟨h1, h2⟩
  · rw [← ckB_1 d k f dp off xof nd inn sl tl o1 x0 x1]
    exact rcheckB _ _ _ _ _ _ _ _ _ _ _ _ _ _ _ _ _ _ _ _ _ 1 64 16 rfl (by simp [wrap64]) d k f dp lf off xof nd inn sa ta sl sc tl tc w rfl rfl rfl rfl rfl rfl rfl rfl rfl rfl hx rfl rfl rfl rfl rfl rfl rfl rfl rfl rfl rfl (fun W => rmost 1 W)
  · rw [← ckB_2 d k f dp off xof nd inn sl tl o1 x0 x1]
    exact rcheckB _ _ _ _ _ _ _ _ _ _ _ _ _ _ _ _ _ _ _ _ _ 2 32 8 rfl (by simp [wrap64]) d k f dp lf off xof nd inn sa ta sl sc tl tc w rfl rfl rfl rfl rfl rfl rfl rfl rfl rfl hx rfl rfl rfl rfl rfl rfl rfl rfl rfl rfl rfl (fun W => rmost 2 W)
  · have e0 : ck kd d k f dp off xof nd inn sl tl = 1 := by simp [ck, h1, h2]
    have em : mo kd = 0 := by simp [mo, h1, h2]
    have h := fun W => rmost kd W
    rw [em] at h
    rw [e0]
    exact rcheckB true _ _ _ _ _ _ _ _ _ _ _ _ _ _ _ _ _ _ _ _ kd 0 0 rfl (by simp [wrap64]) d k f dp lf off xof nd inn sa ta sl sc tl tc w rfl rfl rfl rfl rfl rfl rfl rfl rfl rfl hx rfl rfl rfl rfl rfl rfl rfl rfl rfl rfl rfl h
end LW
end Go.Proofs.Ytomdplcmbcjkfaa
