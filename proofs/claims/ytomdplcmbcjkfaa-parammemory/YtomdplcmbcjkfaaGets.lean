/-
  What the calls Get (the program, the document) give.
-/
import Derived.Test.YtomdplcmbcjkfaaLens
import Derived.Test.YtomdplcmbcjkfaaSpans
namespace Go.Proofs.Ytomdplcmbcjkfaa
open Go.RowKit
set_option linter.unusedVariables false
namespace LW
open Words
/-- A field's place and bytes, as numbers. -/
def fA (kd f : Int) : Nat := (rAt kd f).toNat
def fS (kd f : Int) : Nat := (rSz kd f).toNat
theorem fits (kd f : Int) (hk : kd = 1 ∨ kd = 2) (h1 : 1 ≤ f) (h9 : f ≤ 9) : rAt kd f = (fA kd f : Int) ∧ rSz kd f = (fS kd f : Int) ∧ 1 ≤ fS kd f ∧ fS kd f ≤ 8 ∧ ((fA kd f + fS kd f : Nat) : Int) ≤ mo kd := by
  have hf : f = 1 ∨ f = 2 ∨ f = 3 ∨ f = 4 ∨ f = 5 ∨ f = 6 ∨ f = 7 ∨ f = 8 ∨ f = 9 := by omega
  rcases hk with rfl | rfl <;> rcases hf with rfl | rfl | rfl | rfl | rfl | rfl | rfl | rfl | rfl <;> decide
/-- The number in a field. -/
def gv (kd f : Int) (zs : List Int) : Int := le ((zs.drop (fA kd f)).take (fS kd f))
theorem cf_zero {kd f : Int} {n : Nat} (h : cf kd n f = 0) : (kd = 1 ∨ kd = 2) ∧ (n : Int) = mo kd ∧ 1 ≤ f ∧ f ≤ 9 ∧ cl kd n = 0 := by
  unfold cf at h
  split at h
  · contradiction
  · rename_i hc
    split at h
    · omega
    · have hc' : cl kd n = 0 := by omega
      refine ⟨?_, ?_, by omega, by omega, hc'⟩
      · unfold cl at hc'
        split at hc'
        · omega
        · omega
      · unfold cl at hc'
        repeat' split at hc'
        all_goals omega
/-- What Get tells. -/
def gt (kd f : Int) (zs : List Int) : Int := if cf kd zs.length f = 0 then gv kd f zs else 0
theorem cf_cases {kd f : Int} {n : Nat} (h : ¬ cf kd n f = 0) : (¬ cl kd n = 0 ∧ cf kd n f = cl kd n) ∨ (cl kd n = 0 ∧ (kd = 1 ∨ kd = 2) ∧ (f < 1 ∨ 9 < f) ∧ cf kd n f = 1) := by
  unfold cf at *
  by_cases hc : cl kd n = 0
  · right
    have hk : kd = 1 ∨ kd = 2 := by
      unfold cl at hc
      split at hc
      · omega
      · omega
    simp only [hc, ne_eq, not_true_eq_false, if_false] at h ⊢
    by_cases hf : f < 1 ∨ 9 < f
    · simp [hf, hk]
    · simp [hf] at h
  · left; simp [hc]
set_option maxHeartbeats 1000000 in
theorem rget (kd f : Int) (a : Option Addr) (cap : Nat) (zs : List Int) (w : World) (hz : Byt zs) (hr : Row w a zs) :
    Calls Try.prog 40 #[.int .i64 kd, .slice a zs.length cap, .int .i64 f] w fun e w' =>
      e = .returned (.tuple #[.int .u64 (gt kd f zs), .int .i64 (cf kd zs.length f)]) ∧ w = w' := by
  have hcf := fun W => sized kd a zs.length cap W
  unfold gt
  by_cases hc : cf kd zs.length f = 0
  · obtain ⟨hk, hlen, h1, h9, hcl⟩ := cf_zero hc
    obtain ⟨eA, eS, s1, s8, hfit⟩ := fits kd f hk h1 h9
    have hm : zs.length ≤ maxLen := by
      have : mo kd ≤ 64 := by rcases hk with rfl | rfl <;> decide
      unfold maxLen; omega
    have hw := fun W => place kd f W hk
    rw [if_neg (by omega), if_neg (by omega), eA, eS] at hw
    have hl := fun W (h : Row W a zs) => rread a cap zs (fA kd f) (fS kd f) W hz h hm s1 s8 (by omega)
    rw [if_pos hc]
    rw [hc]
    rw [hcl] at hcf
    have hgv : le ((zs.drop (fA kd f)).take (fS kd f)) = gv kd f zs := rfl
    rw [hgv] at hl
    generalize gv kd f zs = V at *
    generalize fA kd f = A at *
    generalize fS kd f = S at *
    have hS0 : ((S : Int) == 0) = false := by simp; omega
    have H := TW.hide hcf
    have HW := TW.hide hw
    have HL := TW.hide hl
    have HR := TW.hide hr
    generalize zs.length = len at *
    clear hcf hw hl hr hz hfit hlen hk hm hc eA eS hgv hcl
    go_enter Try.func40, Try.ntmps40
    go_wp2_with fail
    refine (H.out _).mono ?_
    rintro e w1 ⟨rfl, rfl⟩
    go_wp2_with fail
    refine (HW.out _).mono ?_
    rintro e w1 ⟨rfl, rfl⟩
    go_wp2_with fail
    refine (HL.out _ HR.out).mono ?_
    rintro e w1 ⟨rfl, rfl⟩
    go_wp2_with fail
    go_ret2
    exact ⟨rfl, rfl⟩
  · rw [if_neg hc]
    rcases cf_cases hc with ⟨h0, e⟩ | ⟨h0, hk, hf, e⟩
    · rw [e]
      have hc' : (cl kd zs.length != 0) = true := by simp [h0]
      clear hc e
      generalize cl kd zs.length = c at *
      generalize zs.length = len at *
      have H := TW.hide hcf
      clear hcf hr hz
      go_enter Try.func40, Try.ntmps40
      go_wp2_with fail
      refine (H.out _).mono ?_
      rintro e w1 ⟨rfl, rfl⟩
      go_wp2_with fail
      go_ret2
      exact ⟨rfl, rfl⟩
    · rw [e]
      have hw := fun W => place kd f W hk
      rw [if_pos hf, if_pos hf] at hw
      rw [h0] at hcf
      clear hc e h0
      generalize zs.length = len at *
      have H := TW.hide hcf
      have HW := TW.hide hw
      clear hcf hr hz hw hk hf
      go_enter Try.func40, Try.ntmps40
      go_wp2_with fail
      refine (H.out _).mono ?_
      rintro e w1 ⟨rfl, rfl⟩
      go_wp2_with fail
      refine (HW.out _).mono ?_
      rintro e w1 ⟨rfl, rfl⟩
      go_wp2_with fail
      go_ret2
      exact ⟨rfl, rfl⟩
end LW
end Go.Proofs.Ytomdplcmbcjkfaa
