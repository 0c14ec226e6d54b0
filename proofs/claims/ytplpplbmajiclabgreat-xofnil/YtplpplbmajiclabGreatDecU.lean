/-
  What Decode (the program, the document) tells, each in one word.
-/
import Derived.Test.YtplpplbmajiclabGreatRDec
namespace Go.Proofs.YtplpplbmajiclabGreat
open Go.RowKit
set_option linter.unusedVariables false
set_option linter.unusedSimpArgs false
namespace LW
open Words
/-- The error of Decode. -/
def dE (kd : Int) (x : Bool) (zs : List Int) : Int :=
  if cl kd zs.length = 0 then (if (tr (idl kd zs)).length = 0 then (if (x && ((dP kd x zs).xof == 0)) = true then 24 else (dP kd x zs).ck kd (mo kd / 4).toNat (mo kd / 4).toNat) else 4) else cl kd zs.length
theorem nP_err {E : Int} {p : Pm} (h : ¬ E = 0) : nP E p = Pm.zero := by simp [nP, h]
theorem nS_err {E : Int} {s : List Int} (h : ¬ E = 0) : nS E s = [] := by simp [nS, h]
/-- What both tell. -/
def DecSays (kd : Int) (x : Bool) (zs : List Int) (w : World) (e : Ending) (w' : World) : Prop :=
  ∃ u v, e = .returned (.tuple #[.agg (pcP (nP (dE kd x zs) (dP kd x zs)) u v), .int .i64 (dE kd x zs)]) ∧ w'.ownsRow w.heap.size 5 1 u (nS (dE kd x zs) (saL kd zs)).length (vs (nS (dE kd x zs) (saL kd zs))) ∧
    w'.ownsRow w.heap.size 5 1 v (nS (dE kd x zs) (peL kd zs)).length (vs (nS (dE kd x zs) (peL kd zs))) ∧ Below w.heap.size w w'
theorem says_err {kd : Int} {x : Bool} {zs : List Int} {w : World} {E : Int} (hE : dE kd x zs = E) (h0 : ¬ E = 0) (e : Ending) (w' : World)
    (h : e = .returned (.tuple #[.agg (pcP Pm.zero (.slice none 0 0) (.slice none 0 0)), .int .i64 E]) ∧ Below w.heap.size w w') : DecSays kd x zs w e w' := by
  obtain ⟨rfl, hb⟩ := h
  unfold DecSays
  rw [hE, nP_err h0, nS_err h0, nS_err h0]
  exact ⟨_, _, rfl, nil_own _ _, nil_own _ _, hb⟩
theorem Row.some_of {w : World} {a : Option Addr} {zs : List Int} (h : Row w a zs) (h0 : 0 < zs.length) : ∃ b off, a = some ⟨b, off, none⟩ := by
  rcases h with h | ⟨b, off, e, _⟩
  · subst h; simp at h0
  · exact ⟨b, off, e⟩
theorem idl_getD (zs : List Int) (i : Nat) (hi : i < 14) : (idl 1 zs).getD i 0 = zs.getD (18 + i) 0 := by
  simp [idl, List.getD_eq_getElem?_getD, List.getElem?_take, List.getElem?_drop, hi]
theorem idl_len (zs : List Int) (h : zs.length = 64) : (idl 1 zs).length = 14 := by simp [idl, h]
theorem tr_nil : tr [] = [] := rfl
end LW
end Go.Proofs.YtplpplbmajiclabGreat
