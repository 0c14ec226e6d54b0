/-
  What the calls Get (the program, the document) give.
-/
import Derived.Test.YtpcahieaakjaaaaLens
import Derived.Test.YtpcahieaakjaaaaSpans
namespace Go.Proofs.Ytpcahieaakjaaaa
open Go.RowKit
set_option linter.unusedVariables false
namespace LW
open Words
/-- A field's place and bytes, as numbers. -/
def fA (kd f : Int) : Nat := (rAt kd f).toNat
def fS (kd f : Int) : Nat := (rSz kd f).toNat
theorem fits (kd f : Int) (hk : kd = 1 ∨ kd = 2) (h1 : 1 ≤ f) (h9 : f ≤ 9) : rAt kd f = (fA kd f : Int) ∧ rSz kd f = (fS kd f : Int) ∧ 1 ≤ fS kd f ∧ fS kd f ≤ 8 ∧ ((fA kd f + fS kd f : Nat) : Int) ≤ mo kd := by
  have hf : f = 1 ∨ f = 2 ∨ f = 3 ∨ f = 4 ∨ f = 5 ∨ f = 6 ∨ f = 7 ∨ f = 8 ∨ f = 9 := by omega
  rcases hk with rfl | rfl <;> rcases hf with rfl | rfl | rfl | rfl | rfl | rfl | rfl | rfl | rfl <;> decide
/-- The number in a field. -/
def gv (kd f : Int) (zs : List Int) : Int := le ((zs.drop (fA kd f)).take (fS kd f))
theorem cf_zero {kd f : Int} {n : Nat} (h : cf kd n f = 0) : (kd = 1 ∨ kd = 2) ∧ (n : Int) = mo kd ∧ 1 ≤ f ∧ f ≤ 9 ∧ cl kd n = 0 := by
  unfold cf at h
  split at h
  · contradiction
  · rename_i hc
    split at h
    · omega
    · have hc' : cl kd n = 0 := by omega
      refine ⟨?_, ?_, by omega, by omega, hc'⟩
      · unfold cl at hc'
        split at hc'
        · omega
        · omega
      · unfold cl at hc'
        repeat' split at hc'
        all_goals omega
/-- What Get tells. -/
def gt (kd f : Int) (zs : List Int) : Int := if cf kd zs.length f = 0 then gv kd f zs else 0
set_option maxHeartbeats 1000000 in
theorem get (kd f : Int) (a : Option Addr) (cap : Nat) (zs : List Int) (w : World) (hz : Byt zs) (hr : Row w a zs) :
    Calls Try.prog 27 #[.int .i64 kd, .slice a zs.length cap, .int .i64 f] w fun e w' =>
      e = .returned (.tuple #[.int .u64 (gt kd f zs), .int .i64 (cf kd zs.length f)]) ∧ Below w.heap.size w w' := by
  have hcf := fun W => checkField kd a zs.length cap f W
  unfold gt
  by_cases hc : cf kd zs.length f = 0
  · obtain ⟨hk, hlen, h1, h9, _⟩ := cf_zero hc
    obtain ⟨eA, eS, s1, s8, hfit⟩ := fits kd f hk h1 h9
    have hm : zs.length ≤ maxLen := by
      have : mo kd ≤ 64 := by rcases hk with rfl | rfl <;> decide
      unfold maxLen; omega
    have hw := fun W => whole f kd W h1 (by omega)
    rw [eA, eS] at hw
    have hl := fun W (h : Row W a zs) => spanLoad a cap zs (fA kd f) (fS kd f) W hz h hm s1 s8 (by omega)
    rw [if_pos hc]
    rw [hc] at hcf ⊢
    have hgv : le ((zs.drop (fA kd f)).take (fS kd f)) = gv kd f zs := rfl
    rw [hgv] at hl
    generalize gv kd f zs = V at *
    generalize fA kd f = A at *
    generalize fS kd f = S at *
    have H := TW.hide hcf
    have HW := TW.hide hw
    have HL := TW.hide hl
    have HR := TW.hide hr
    generalize zs.length = len at *
    clear hcf hw hl hr hz hfit hlen hk hm hc eA eS hgv
    go_enter Try.func27, Try.ntmps27
    go_wp2_with fail
    refine (H.out _).mono ?_
    rintro e w1 ⟨rfl, hb1⟩
    have B1 := TW.hide hb1
    clear hb1
    go_wp2_with fail
    refine (HW.out _).mono ?_
    rintro e w2 ⟨rfl, hb2⟩
    have B2 : Hid (Below w.heap.size w w2) := B1.out.trans (hb2.mono B1.out.size)
    clear hb2 B1
    go_wp2_with fail
    refine (HL.out _ (HR.out.below B2.out)).mono ?_
    rintro e w3 ⟨rfl, hb3⟩
    have B3 : Hid (Below w.heap.size w w3) := B2.out.trans (hb3.mono B2.out.size)
    clear hb3 B2
    go_wp2_with fail
    go_ret2
    exact ⟨rfl, B3.out⟩
  · rw [if_neg hc]
    have hc' : (cf kd zs.length f != 0) = true := by simp [hc]
    generalize cf kd zs.length f = c at *
    generalize zs.length = len at *
    have H := TW.hide hcf
    clear hcf hr hz
    go_enter Try.func27, Try.ntmps27
    go_wp2_with fail
    refine (H.out _).mono ?_
    rintro e w1 ⟨rfl, hb1⟩
    have B1 := TW.hide hb1
    clear hb1
    go_wp2_with fail
    go_ret2
    exact ⟨rfl, B1.out⟩
theorem cf_cases {kd f : Int} {n : Nat} (h : ¬ cf kd n f = 0) : (¬ cl kd n = 0 ∧ cf kd n f = cl kd n) ∨ (cl kd n = 0 ∧ (kd = 1 ∨ kd = 2) ∧ (f < 1 ∨ 9 < f) ∧ cf kd n f = 1) := by
  unfold cf at *
  by_cases hc : cl kd n = 0
  · right
    have hk : kd = 1 ∨ kd = 2 := by
      unfold cl at hc
      split at hc
      · omega
      · omega
    simp only [hc, ne_eq, not_true_eq_false, if_false] at h ⊢
    by_cases hf : f < 1 ∨ 9 < f
    · simp [hf, hk]
    · simp [hf] at h
  · left; simp [hc]
end LW
end Go.Proofs.Ytpcahieaakjaaaa
