/-
  Plain facts on all ten rounds (no Go in sight): they are undone, and a beginning says what it was made of.
-/
import Derived.Test.YtecepllidmkmhabDoorOpenL
import Derived.Test.YtecepllidmkmhabDoorInv
namespace Go.Proofs.YtecepllidmkmhabDoor
open Go.RowKit
set_option linter.unusedVariables false
set_option linter.unusedSimpArgs false
namespace MX
open Turn
attribute [local go_sem ↓] Go.wp_at_zero Go.wp_at_succ
theorem undo_rounds (v ms : List Int) (h : v.length = 16) (hV : Ws v) (hM : Ws ms) (k : Nat) (hk : k ≤ 10) : undoL (roundsL v ms 10) ms k = roundsL v ms (10 - k) := by
  induction k with
  | zero => rfl
  | succ k ih =>
    rw [undoL, ih (by omega), show 10 - k = (9 - k) + 1 by omega, roundsL, back_forth _ ms _ (by rw [roundsL_length, h]) (roundsL_Ws ms _ hV) hM, show 10 - (k + 1) = 9 - k by omega]
theorem undo_all (v ms : List Int) (h : v.length = 16) (hV : Ws v) (hM : Ws ms) : undoL (roundsL v ms 10) ms 10 = v := by
  rw [undo_rounds v ms h hV hM 10 (by omega)]; rfl
theorem take_set_ge (l : List Int) (i n : Nat) (x : Int) (h : n ≤ i) : (l.set i x).take n = l.take n := by
  rw [List.take_set, List.set_eq_of_length_le (by simp; omega)]
theorem rdH_begin (hs : List Int) (n : Int) (la no : Bool) (h : hs.length = 8) : rdH (beginL hs n la no) = hs := by
  have h2 : ∀ lo hi, (init2 hs lo hi).take 8 = hs := fun lo hi => by
    unfold init2
    rw [take_set_ge _ _ _ _ (by omega), take_set_ge _ _ _ _ (by omega), List.take_append_of_le_length (by omega), List.take_of_length_le (by omega)]
  have h3 : ∀ lo hi, (init3 hs lo hi la).take 8 = hs := fun lo hi => by
    unfold init3; split
    · rw [take_set_ge _ _ _ _ (by omega)]; exact h2 lo hi
    · exact h2 lo hi
  unfold rdH beginL initL
  split
  · rw [take_set_ge _ _ _ _ (by omega)]; exact h3 _ _
  · exact h3 _ _
theorem initL_get (hs : List Int) (lo hi : Int) (la no : Bool) (i : Nat) (hi4 : i < 14) : (initL hs lo hi la no).getD i 0 = (init2 hs lo hi).getD i 0 := by
  unfold initL init3
  split <;> split <;> simp only [getD_set_other _ 15 i _ (by omega), getD_set_other _ 14 i _ (by omega)]
theorem rdN_begin (hs : List Int) (n : Int) (la no : Bool) (h : hs.length = 8) (wn : 0 ≤ n) (wn' : n < 18446744073709551616) : rdN (beginL hs n la no) = n := by
  have hl : (hs ++ ivL).length = 16 := by rw [List.length_append, h]; rfl
  have g12 : (beginL hs n la no).getD 12 0 = xo (ivL.getD 4 0) (n % 4294967296) := by
    unfold beginL; rw [initL_get _ _ _ _ _ 12 (by omega)]; unfold init2
    rw [getD_set_other _ 13 12 _ (by omega), getD_set_same _ _ _ (by omega)]
  have g13 : (beginL hs n la no).getD 13 0 = xo (ivL.getD 5 0) (n / 4294967296) := by
    unfold beginL; rw [initL_get _ _ _ _ _ 13 (by omega)]; unfold init2
    rw [getD_set_same _ _ _ (by rw [List.length_set]; omega)]
  rw [rdN_eq, g12, g13, xo_comm (ivL.getD 4 0), xo_comm (ivL.getD 5 0), xo_xo _ _ (W_mod n) (ivL_Ws.get 4), xo_xo _ _ ⟨by omega, by omega⟩ (ivL_Ws.get 5)]
  omega
theorem rdA_begin (hs : List Int) (n : Int) (la no : Bool) (h : hs.length = 8) : rdA (beginL hs n la no) = la := by
  have g : (beginL hs n la no).getD 14 0 = if la then co (ivL.getD 6 0) else ivL.getD 6 0 := by
    unfold beginL initL
    have h3 : (init3 hs (n % 4294967296) (n / 4294967296) la).getD 14 0 = if la then co (ivL.getD 6 0) else ivL.getD 6 0 := by
      unfold init3; split
      · rw [getD_set_same _ _ _ (by rw [init2_length _ _ _ h]; omega)]
      · exact init2_get _ _ _ h
    split
    · rw [getD_set_other _ 15 14 _ (by omega)]; exact h3
    · exact h3
  rw [rdA_eq, g]
  cases la
  · simp
  · decide +kernel
theorem rdB_begin (hs : List Int) (n : Int) (la no : Bool) (h : hs.length = 8) : rdB (beginL hs n la no) = no := by
  have g : (beginL hs n la no).getD 15 0 = if no then co (ivL.getD 7 0) else ivL.getD 7 0 := by
    unfold beginL initL; split
    · rw [getD_set_same _ _ _ (by rw [init3_length _ _ _ _ h]; omega)]
    · exact init3_get _ _ _ _ h
  rw [rdB_eq, g]
  cases no
  · simp
  · decide +kernel
theorem opOk_begin (hs : List Int) (n : Int) (la no : Bool) (h : hs.length = 8) (wn : 0 ≤ n) (wn' : n < 18446744073709551616) : opOk (beginL hs n la no) = true := by
  rw [← opOk_eq, rdH_begin hs n la no h, rdN_begin hs n la no h wn wn', rdA_begin hs n la no h, rdB_begin hs n la no h]
  simp
end MX
end Go.Proofs.YtecepllidmkmhabDoor
