/-
  What Decode (the program, the document) tells, each in one word.
-/
import Derived.Test.YteakoajkmcbilabRDec
import Derived.Test.YteakoajkmcbilabDecU
namespace Go.Proofs.Yteakoajkmcbilab
open Go.RowKit
set_option linter.unusedVariables false
set_option linter.unusedSimpArgs false
namespace LW
open Words
theorem rdecP (kd : Int) (x : Bool) (a : Option Addr) (cap : Nat) (zs : List Int) (w : World) (h : Pb w a cap zs) :
    Calls Try.prog 19 #[.int .i64 kd, .slice a zs.length cap, .bool x] w (DecSays kd x zs w) := by
  by_cases hcl : cl kd zs.length = 0
  · obtain ⟨hk, hlen⟩ := cl_zero hcl
    have hm : (32 : Int) ≤ mo kd := by rcases hk with rfl | rfl <;> decide
    obtain ⟨b, off, rfl⟩ := h.row.some_of (by omega)
    by_cases hi : (tr (idl kd zs)).length = 0
    · have hid : kd = 1 → ∀ m, m < 14 → zs.getD (18 + m) 0 = 0 := fun e m hm14 => by
        subst e
        rw [← idl_getD zs m hm14]
        have hl := idl_len zs (by have : mo 1 = 64 := rfl; omega)
        rw [tr_length, hl] at hi
        exact (tn_zero (idl 1 zs) 14).1 hi m hm14
      by_cases hx : (x && ((dP kd x zs).xof == 0)) = true
      · have hE : dE kd x zs = 24 := by simp only [dE, hcl, hi, if_true, hx]
        have hx2 : x = true ∧ ((dP kd x zs).xof == 0) = true := by simpa only [Bool.and_eq_true] using hx
        rcases hk with rfl | rfl
        · exact (rdecXof1 x b off cap zs w hcl h.byt h.row h.cap (hid rfl) hx2).mono (says_err hE (by decide))
        · exact (rdecXof2 x b off cap zs w hcl h.byt h.row h.cap hx2).mono (says_err hE (by decide))
      · have hx' : (x && ((dP kd x zs).xof == 0)) = false := by simpa using hx
        have hE : dE kd x zs = (dP kd x zs).ck kd (mo kd / 4).toNat (mo kd / 4).toNat := by simp only [dE, hcl, hi, if_true, hx', Bool.false_eq_true, if_false]
        rcases hk with rfl | rfl
        · have := rdecOk1 x b off cap zs w hcl h.byt h.row h.cap (hid rfl) hx'
          rw [← hE] at this
          exact this
        · have := rdecOk2 x b off cap zs w hcl h.byt h.row h.cap hx'
          rw [← hE] at this
          exact this
    · have hE : dE kd x zs = 4 := by simp only [dE, hcl, hi, if_true, if_false]
      rcases hk with rfl | rfl
      · have hl := idl_len zs (by have : mo 1 = 64 := rfl; omega)
        rw [tr_length, hl, tn_zero] at hi
        have hex : ∃ m, m < 14 ∧ ¬ zs.getD (18 + m) 0 = 0 := by
          apply Classical.byContradiction
          intro hn
          refine hi fun i hi' => ?_
          rw [idl_getD zs i hi']
          apply Classical.byContradiction
          intro h'
          exact hn ⟨i, hi', h'⟩
        obtain ⟨m, hm14, hnz⟩ := hex
        exact (rdecIdle x b off cap zs w hcl h.byt h.row h.cap m hm14 hnz).mono (says_err hE (by decide))
      · exact absurd rfl hi
  · have hE : dE kd x zs = cl kd zs.length := by simp only [dE, hcl, if_false]
    exact (rdecLen kd x a cap zs.length w (bne0 hcl)).mono (says_err hE hcl)
end LW
end Go.Proofs.Yteakoajkmcbilab
