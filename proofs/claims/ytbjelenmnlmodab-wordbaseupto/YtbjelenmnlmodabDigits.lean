/-
  What the calls hexWorth, firstStranger (the program) and Digit (the document) give.
-/
import Derived.Test.YtbjelenmnlmodabHex
import Derived.Test.YtbjelenmnlmodabText
namespace Go.Proofs.Ytbjelenmnlmodab
open Go.RowKit
set_option linter.unusedVariables false
namespace LW
open Words Txt
theorem hexWorth (c : Int) (w : World) (h0 : 0 ≤ c) (h1 : c < 256) :
    Calls Try.prog 27 #[.int .u8 c] w fun e w' => e = .returned (.int .i64 (hw c)) ∧ w = w' := by
  unfold hw
  by_cases c1 : 48 ≤ c ∧ c ≤ 57
  · obtain ⟨c1, c2⟩ := c1
    rw [if_pos ⟨c1, c2⟩]
    go_enter Try.func27, Try.ntmps27
    go_wp2
    go_ret
    exact ⟨TW.ret_int (by omega), rfl⟩
  · rw [if_neg c1]
    by_cases d1 : 97 ≤ c ∧ c ≤ 102
    · obtain ⟨d1, d2⟩ := d1
      rw [if_pos ⟨d1, d2⟩]
      have e1 : ¬ c ≤ 57 := by omega
      clear c1
      go_enter Try.func27, Try.ntmps27
      go_wp2
      go_ret
      exact ⟨TW.ret_int (by omega), rfl⟩
    · rw [if_neg d1]
      by_cases f1 : 65 ≤ c ∧ c ≤ 70
      · obtain ⟨f1, f2⟩ := f1
        rw [if_pos ⟨f1, f2⟩]
        have e1 : ¬ c ≤ 57 := by omega
        have e2 : ¬ 97 ≤ c := by omega
        clear c1 d1
        go_enter Try.func27, Try.ntmps27
        go_wp2
        go_ret
        exact ⟨TW.ret_int (by omega), rfl⟩
      · rw [if_neg f1]
        go_enter Try.func27, Try.ntmps27
        go_wp2
        all_goals first | omega | (go_ret; exact ⟨rfl, rfl⟩)
theorem digitOf (c : Int) (w : World) (h0 : 0 ≤ c) (h1 : c < 256) :
    Calls Try.prog 28 #[.int .u8 c] w fun e w' => e = .returned (.int .i64 (hw c)) ∧ w = w' := by
  unfold hw
  by_cases c1 : 48 ≤ c ∧ c ≤ 57
  · obtain ⟨c1, c2⟩ := c1
    rw [if_pos ⟨c1, c2⟩]
    go_enter Try.func28, Try.ntmps28
    go_wp2
    go_ret
    exact ⟨TW.ret_int (by omega), rfl⟩
  · rw [if_neg c1]
    by_cases d1 : 97 ≤ c ∧ c ≤ 102
    · obtain ⟨d1, d2⟩ := d1
      rw [if_pos ⟨d1, d2⟩]
      have e1 : ¬ c ≤ 57 := by omega
      clear c1
      go_enter Try.func28, Try.ntmps28
      go_wp2
      go_ret
      exact ⟨TW.ret_int (by omega), rfl⟩
    · rw [if_neg d1]
      by_cases f1 : 65 ≤ c ∧ c ≤ 70
      · obtain ⟨f1, f2⟩ := f1
        rw [if_pos ⟨f1, f2⟩]
        have e1 : ¬ c ≤ 57 := by omega
        have e2 : ¬ 97 ≤ c := by omega
        clear c1 d1
        go_enter Try.func28, Try.ntmps28
        go_wp2
        go_ret
        exact ⟨TW.ret_int (by omega), rfl⟩
      · rw [if_neg f1]
        go_enter Try.func28, Try.ntmps28
        go_wp2
        all_goals first | omega | (go_ret; exact ⟨rfl, rfl⟩)
/-- A text's byte at a place. -/
theorem index_s (s : ByteArray) (k : Nat) (h : k < s.size) (hs : s.size ≤ 8388608) (w : World) :
    (Instr.index 9 (.string s) (.int .i64 (k : Int))).run Try.prog w = .ok (.int .u8 ((sb s).getD k 0)) w := by
  rw [sb_get s k h]
  have h1 : (0 : Int) ≤ (k : Int) := by omega
  have h2 : (k : Int) < (s.size : Int) := by omega
  simp [go_sem, h]
theorem stranger27 (g : Int → Int) (s : ByteArray) (w : World) (hs : s.size ≤ 8388608)
    (hf : ∀ c W, 0 ≤ c → c < 256 → Calls Try.prog 27 #[.int .u8 c] W fun e w' => e = .returned (.int .i64 (g c)) ∧ W = w') :
    Calls Try.prog 26 #[.string s, .func (.func 27) #[] #[]] w fun e w' => e = .returned (.int .i64 (bad g (sb s))) ∧ w = w' := by
  have hbt := sb_byt s
  have hix := fun k h => index_s s k h hs
  have hlen := sb_length s
  have hspec := bad_spec g (sb s)
  generalize sb s = l at *
  generalize hsz : s.size = n at *
  have HF := TW.hide hf
  have HB := TW.hide hbt
  have HI := TW.hide hix
  have HL := TW.hide hlen
  have HS := TW.hide hspec
  have HZ := TW.hide hsz
  clear hf hbt hix hlen hspec
  go_enter Try.func26, Try.ntmps26
  go_wp2
  go_loop [8] (fun i => ∃ k : Nat, k ≤ n ∧ i = .int .i64 k ∧ ∀ j, j < k → g (l.getD j 0) ≠ -1) (fun i => n - (intOf i).toNat)
  case atStart => exact ⟨0, Nat.zero_le _, rfl, fun j h => absurd h (Nat.not_lt_zero _)⟩
  case round =>
    obtain ⟨k, hk, rfl, hall⟩ := hrel
    have HA := TW.hide hall
    clear hall
    by_cases hlt : k < n
    · have hi := HI.out k hlt
      have hb := HB.out.get k
      have hsp := HS.out k (by rw [HL.out]; omega) HA.out
      have hfc := fun W => HF.out (l.getD k 0) W hb.1 hb.2
      have hstep : ∀ j, j < k + 1 → g (l.getD k 0) ≠ -1 → g (l.getD j 0) ≠ -1 := by
        intro j hj hg
        rcases Nat.lt_or_eq_of_le (Nat.lt_succ_iff.1 hj) with h' | rfl
        · exact HA.out j h'
        · exact hg
      generalize l.getD k 0 = c at *
      generalize hgc : g c = v at *
      have HFC := TW.hide hfc
      have HSP := TW.hide hsp
      have HST := TW.hide hstep
      clear hfc hsp hstep hgc
      by_cases hv : v = -1
      · have hvb : (v == -1) = true := by simp [hv]
        have HV := TW.hide hv
        clear hv
        go_wp2_with fail
        refine (HFC.out _).mono ?_
        rintro e w' ⟨rfl, rfl⟩
        go_wp2_with fail
        go_ret
        exact ⟨TW.ret_int (by rw [HSP.out fun _ => HV.out]), rfl⟩
      · have hvb : (v == -1) = false := by simp [hv]
        have HV := TW.hide hv
        clear hv
        go_wp2_with fail
        refine (HFC.out _).mono ?_
        rintro e w' ⟨rfl, rfl⟩
        go_wp2_with fail
        go_round
        case rel => exact ⟨k + 1, by omega, by go_num, fun j hj => HST.out j hj HV.out⟩
        case measure => simp [intOf]; omega
    · go_wp2_with fail
      go_ret
      refine ⟨TW.ret_int ?_, rfl⟩
      rw [HS.out k (by rw [HL.out]; omega) HA.out (fun h => absurd h (by rw [HL.out]; omega))]
      omega
end LW
end Go.Proofs.Ytbjelenmnlmodab
