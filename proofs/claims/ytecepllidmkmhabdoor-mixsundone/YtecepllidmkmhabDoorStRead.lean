/-
  How the states are read, and that unlike beginnings come to unlike states.
-/
import Derived.Test.YtecepllidmkmhabDoorStatesB
import Derived.Test.YtecepllidmkmhabDoorWhole
namespace Go.Proofs.YtecepllidmkmhabDoor
open Go.RowKit
set_option linter.unusedVariables false
set_option linter.unusedSimpArgs false
namespace MX
open Turn
attribute [local go_sem ↓] Go.wp_at_zero Go.wp_at_succ
theorem roundsL_step (v ms : List Int) (k : Nat) : roundsL v ms (k + 1) = forthL (roundsL v ms k) ms k := rfl
theorem roundsL_inj {ms : List Int} (hM : Ws ms) (k : Nat) {a b : List Int} (ha : a.length = 16) (hb : b.length = 16) (wa : Ws a) (wb : Ws b) (h : roundsL a ms k = roundsL b ms k) : a = b := by
  induction k with
  | zero => exact h
  | succ k ih =>
    rw [roundsL_step, roundsL_step] at h
    have h1 : backL (forthL (roundsL a ms k) ms k) ms k = backL (forthL (roundsL b ms k) ms k) ms k := by rw [h]
    rw [back_forth (roundsL a ms k) ms k (by rw [roundsL_length, ha]) (roundsL_Ws ms k wa) hM, back_forth (roundsL b ms k) ms k (by rw [roundsL_length, hb]) (roundsL_Ws ms k wb) hM] at h1
    exact ih h1
theorem beginL_inj {hs hs' : List Int} {n n' : Int} {la la' no no' : Bool} (h : hs.length = 8) (h' : hs'.length = 8) (wn : 0 ≤ n) (wm : n < 18446744073709551616) (wn' : 0 ≤ n') (wm' : n' < 18446744073709551616)
    (e : beginL hs n la no = beginL hs' n' la' no') : hs = hs' ∧ n = n' ∧ la = la' ∧ no = no' := by
  refine ⟨?_, ?_, ?_, ?_⟩
  · rw [← rdH_begin hs n la no h, e, rdH_begin _ _ _ _ h']
  · rw [← rdN_begin hs n la no h wn wm, e, rdN_begin _ _ _ _ h' wn' wm']
  · rw [← rdA_begin hs n la no h, e, rdA_begin _ _ _ _ h']
  · rw [← rdB_begin hs n la no h, e, rdB_begin _ _ _ _ h']
/-- Two runs come to one state just if all is the same. -/
theorem states_same {hs hs' ms : List Int} {n n' : Int} {la la' no no' : Bool} (h : hs.length = 8) (h' : hs'.length = 8) (wn : 0 ≤ n) (wm : n < 18446744073709551616) (wn' : 0 ≤ n') (wm' : n' < 18446744073709551616) (hw : Ws hs) (hw' : Ws hs') (hM : Ws ms) (k : Nat) :
    decide (roundsL (beginL hs n la no) ms k = roundsL (beginL hs' n' la' no') ms k) = decide (hs = hs' ∧ n = n' ∧ la = la' ∧ no = no') := by
  rw [decide_eq_decide]
  constructor
  · intro e
    exact beginL_inj h h' wn wm wn' wm' (roundsL_inj hM k (beginL_length _ _ _ _ h) (beginL_length _ _ _ _ h') (beginL_Ws _ _ hw wn wm) (beginL_Ws _ _ hw' wn' wm') e)
  · rintro ⟨rfl, rfl, rfl, rfl⟩; rfl
end MX
end Go.Proofs.YtecepllidmkmhabDoor
