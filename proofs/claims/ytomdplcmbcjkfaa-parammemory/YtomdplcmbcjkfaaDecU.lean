/-
  What Decode (the program, the document) tells, each in one word.
-/
import Derived.Test.YtomdplcmbcjkfaaRDec
namespace Go.Proofs.Ytomdplcmbcjkfaa
open Go.RowKit
set_option linter.unusedVariables false
set_option linter.unusedSimpArgs false
namespace LW
open Words
/-- The error of Decode. -/
def dE (kd : Int) (x : Bool) (zs : List Int) : Int :=
  if cl kd zs.length = 0 then (if (tr (idl kd zs)).length = 0 then (if (x && ((dP kd x zs).xof == 0)) = true then 24 else (dP kd x zs).ck kd (mo kd / 4).toNat (mo kd / 4).toNat) else 4) else cl kd zs.length
theorem nP_err {E : Int} {p : Pm} (h : ¬ E = 0) : nP E p = Pm.zero := by simp [nP, h]
theorem nS_err {E : Int} {s : List Int} (h : ¬ E = 0) : nS E s = [] := by simp [nS, h]
/-- What both tell. -/
def DecSays (kd : Int) (x : Bool) (zs : List Int) (w : World) (e : Ending) (w' : World) : Prop :=
  ∃ u v, e = .returned (.tuple #[.agg (pcP (nP (dE kd x zs) (dP kd x zs)) u v), .int .i64 (dE kd x zs)]) ∧ w'.ownsRow w.heap.size 5 1 u (nS (dE kd x zs) (saL kd zs)).length (vs (nS (dE kd x zs) (saL kd zs))) ∧
    w'.ownsRow w.heap.size 5 1 v (nS (dE kd x zs) (peL kd zs)).length (vs (nS (dE kd x zs) (peL kd zs))) ∧ Below w.heap.size w w'
theorem says_err {kd : Int} {x : Bool} {zs : List Int} {w : World} {E : Int} (hE : dE kd x zs = E) (h0 : ¬ E = 0) (e : Ending) (w' : World)
    (h : e = .returned (.tuple #[.agg (pcP Pm.zero (.slice none 0 0) (.slice none 0 0)), .int .i64 E]) ∧ Below w.heap.size w w') : DecSays kd x zs w e w' := by
  obtain ⟨rfl, hb⟩ := h
  unfold DecSays
  rw [hE, nP_err h0, nS_err h0, nS_err h0]
  exact ⟨_, _, rfl, nil_own _ _, nil_own _ _, hb⟩
theorem Row.some_of {w : World} {a : Option Addr} {zs : List Int} (h : Row w a zs) (h0 : 0 < zs.length) : ∃ b off, a = some ⟨b, off, none⟩ := by
  rcases h with h | ⟨b, off, e, _⟩
  · subst h; simp at h0
  · exact ⟨b, off, e⟩
theorem idl_getD (zs : List Int) (i : Nat) (hi : i < 14) : (idl 1 zs).getD i 0 = zs.getD (18 + i) 0 := by
  simp [idl, List.getD_eq_getElem?_getD, List.getElem?_take, List.getElem?_drop, hi]
theorem idl_len (zs : List Int) (h : zs.length = 64) : (idl 1 zs).length = 14 := by simp [idl, h]
theorem decP (kd : Int) (x : Bool) (a : Option Addr) (cap : Nat) (zs : List Int) (w : World) (h : Pb w a cap zs) (hcm : cap ≤ maxLen) :
    Calls Try.prog 8 #[.int .i64 kd, .slice a zs.length cap, .bool x] w (DecSays kd x zs w) := by
  by_cases hcl : cl kd zs.length = 0
  · obtain ⟨hk, hlen⟩ := cl_zero hcl
    have hm : (32 : Int) ≤ mo kd := by rcases hk with rfl | rfl <;> decide
    obtain ⟨b, off, rfl⟩ := h.row.some_of (by omega)
    by_cases hi : (tr (idl kd zs)).length = 0
    · have hi' : (((tr (idl kd zs)).length : Int) != 0) = false := by simp [hi]
      by_cases hx : (x && ((dP kd x zs).xof == 0)) = true
      · have hE : dE kd x zs = 24 := by simp only [dE, hcl, hi, if_true, hx]
        have hx2 : x = true ∧ ((dP kd x zs).xof == 0) = true := by simpa only [Bool.and_eq_true] using hx
        exact (decXof kd x b off cap zs w hcl h.byt h.row h.cap hcm hi' hx2).mono (says_err hE (by decide))
      · have hx' : (x && ((dP kd x zs).xof == 0)) = false := by simpa using hx
        have hE : dE kd x zs = (dP kd x zs).ck kd (mo kd / 4).toNat (mo kd / 4).toNat := by simp only [dE, hcl, hi, if_true, hx', Bool.false_eq_true, if_false]
        have := decOk kd x b off cap zs w hcl h.byt h.row h.cap hcm hi' hx'
        rw [← hE] at this
        exact this
    · have hE : dE kd x zs = 4 := by simp only [dE, hcl, hi, if_true, if_false]
      have hi' : (((tr (idl kd zs)).length : Int) != 0) = true := by simp; exact fun e => hi (by rw [e]; rfl)
      exact (decIdle kd x b off cap zs w hcl h.byt h.row h.cap hcm hi').mono (says_err hE (by decide))
  · have hE : dE kd x zs = cl kd zs.length := by simp only [dE, hcl, if_false]
    exact (decLen kd x a cap zs.length w (bne0 hcl)).mono (says_err hE hcl)
theorem tr_nil : tr [] = [] := rfl
theorem rdecP (kd : Int) (x : Bool) (a : Option Addr) (cap : Nat) (zs : List Int) (w : World) (h : Pb w a cap zs) :
    Calls Try.prog 13 #[.int .i64 kd, .slice a zs.length cap, .bool x] w (DecSays kd x zs w) := by
  by_cases hcl : cl kd zs.length = 0
  · obtain ⟨hk, hlen⟩ := cl_zero hcl
    have hm : (32 : Int) ≤ mo kd := by rcases hk with rfl | rfl <;> decide
    obtain ⟨b, off, rfl⟩ := h.row.some_of (by omega)
    by_cases hi : (tr (idl kd zs)).length = 0
    · have hid : kd = 1 → ∀ m, m < 14 → zs.getD (18 + m) 0 = 0 := fun e m hm14 => by
        subst e
        rw [← idl_getD zs m hm14]
        have hl := idl_len zs (by have : mo 1 = 64 := rfl; omega)
        rw [tr_length, hl] at hi
        exact (tn_zero (idl 1 zs) 14).1 hi m hm14
      by_cases hx : (x && ((dP kd x zs).xof == 0)) = true
      · have hE : dE kd x zs = 24 := by simp only [dE, hcl, hi, if_true, hx]
        have hx2 : x = true ∧ ((dP kd x zs).xof == 0) = true := by simpa only [Bool.and_eq_true] using hx
        rcases hk with rfl | rfl
        · exact (rdecXof1 x b off cap zs w hcl h.byt h.row h.cap (hid rfl) hx2).mono (says_err hE (by decide))
        · exact (rdecXof2 x b off cap zs w hcl h.byt h.row h.cap hx2).mono (says_err hE (by decide))
      · have hx' : (x && ((dP kd x zs).xof == 0)) = false := by simpa using hx
        have hE : dE kd x zs = (dP kd x zs).ck kd (mo kd / 4).toNat (mo kd / 4).toNat := by simp only [dE, hcl, hi, if_true, hx', Bool.false_eq_true, if_false]
        rcases hk with rfl | rfl
        · have := rdecOk1 x b off cap zs w hcl h.byt h.row h.cap (hid rfl) hx'
          rw [← hE] at this
          exact this
        · have := rdecOk2 x b off cap zs w hcl h.byt h.row h.cap hx'
          rw [← hE] at this
          exact this
    · have hE : dE kd x zs = 4 := by simp only [dE, hcl, hi, if_true, if_false]
      rcases hk with rfl | rfl
      · have hl := idl_len zs (by have : mo 1 = 64 := rfl; omega)
        rw [tr_length, hl, tn_zero] at hi
        have hex : ∃ m, m < 14 ∧ ¬ zs.getD (18 + m) 0 = 0 := by
          apply Classical.byContradiction
          intro hn
          refine hi fun i hi' => ?_
          rw [idl_getD zs i hi']
          apply Classical.byContradiction
          intro h'
          exact hn ⟨i, hi', h'⟩
        obtain ⟨m, hm14, hnz⟩ := hex
        exact (rdecIdle x b off cap zs w hcl h.byt h.row h.cap m hm14 hnz).mono (says_err hE (by decide))
      · exact absurd rfl hi
  · have hE : dE kd x zs = cl kd zs.length := by simp only [dE, hcl, if_false]
    exact (rdecLen kd x a cap zs.length w (bne0 hcl)).mono (says_err hE hcl)
end LW
end Go.Proofs.Ytomdplcmbcjkfaa
