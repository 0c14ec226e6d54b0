/-
  What the calls base64Worth, firstStranger (the program) and Letter (the document) give.
-/
import Derived.Test.YtbjelenmnlmodabDigits
import Derived.Test.YtbjelenmnlmodabB64
namespace Go.Proofs.Ytbjelenmnlmodab
open Go.RowKit
set_option linter.unusedVariables false
namespace LW
open Words Txt B64
theorem worth64 (c : Int) (w : World) (h0 : 0 ≤ c) (h1 : c < 256) :
    Calls Try.prog 29 #[.int .u8 c] w fun e w' => e = .returned (.int .i64 (bw c)) ∧ w = w' := by
  unfold bw
  by_cases c1 : 65 ≤ c ∧ c ≤ 90
  · obtain ⟨c1, c2⟩ := c1
    rw [if_pos ⟨c1, c2⟩]
    go_enter Try.func29, Try.ntmps29
    go_wp2
    go_ret
    exact ⟨TW.ret_int (by omega), rfl⟩
  · rw [if_neg c1]
    by_cases d1 : 97 ≤ c ∧ c ≤ 122
    · obtain ⟨d1, d2⟩ := d1
      rw [if_pos ⟨d1, d2⟩]
      have e1 : ¬ c ≤ 90 := by omega
      clear c1
      go_enter Try.func29, Try.ntmps29
      go_wp2
      go_ret
      exact ⟨TW.ret_int (by omega), rfl⟩
    · rw [if_neg d1]
      by_cases f1 : 48 ≤ c ∧ c ≤ 57
      · obtain ⟨f1, f2⟩ := f1
        rw [if_pos ⟨f1, f2⟩]
        have e1 : ¬ 65 ≤ c := by omega
        have e2 : ¬ 97 ≤ c := by omega
        clear c1 d1
        go_enter Try.func29, Try.ntmps29
        go_wp2
        go_ret
        exact ⟨TW.ret_int (by omega), rfl⟩
      · rw [if_neg f1]
        by_cases g1 : c = 43
        · subst g1
          rw [if_pos rfl]
          go_enter Try.func29, Try.ntmps29
          go_wp2
          go_ret
          exact ⟨rfl, rfl⟩
        · rw [if_neg g1]
          by_cases k1 : c = 47
          · subst k1
            rw [if_pos rfl]
            go_enter Try.func29, Try.ntmps29
            go_wp2
            go_ret
            exact ⟨rfl, rfl⟩
          · rw [if_neg k1]
            have g2 : (c == 43) = false := by simp [g1]
            have k2 : (c == 47) = false := by simp [k1]
            clear g1 k1
            go_enter Try.func29, Try.ntmps29
            go_wp2
            all_goals first | omega | (go_ret; exact ⟨rfl, rfl⟩)
theorem letter (k : IntKind) (n : Int) (h0 : 0 ≤ n) (h1 : n < 64) (w : World) :
    (Instr.index 9 (.string ⟨#[65, 66, 67, 68, 69, 70, 71, 72, 73, 74, 75, 76, 77, 78, 79, 80, 81, 82, 83, 84, 85, 86, 87, 88, 89, 90, 97, 98, 99, 100, 101, 102, 103, 104, 105, 106, 107, 108, 109, 110, 111, 112, 113, 114, 115, 116, 117, 118, 119, 120, 121, 122, 48, 49, 50, 51, 52, 53, 54, 55, 56, 57, 43, 47]⟩) (.int k n)).run Try.prog w = .ok (.int .u8 (let6 n)) w := by
  obtain ⟨m, rfl⟩ := Int.eq_ofNat_of_zero_le h0
  have hm : m < 64 := by omega
  clear h0 h1
  revert m
  have : ∀ m : Fin 64, (Instr.index 9 (.string ⟨#[65, 66, 67, 68, 69, 70, 71, 72, 73, 74, 75, 76, 77, 78, 79, 80, 81, 82, 83, 84, 85, 86, 87, 88, 89, 90, 97, 98, 99, 100, 101, 102, 103, 104, 105, 106, 107, 108, 109, 110, 111, 112, 113, 114, 115, 116, 117, 118, 119, 120, 121, 122, 48, 49, 50, 51, 52, 53, 54, 55, 56, 57, 43, 47]⟩) (.int k (m.val : Int))).run Try.prog w = .ok (.int .u8 (let6 (m.val : Int))) w := by
    intro m
    obtain ⟨m, hm⟩ := m
    have : m = 0 ∨ m = 1 ∨ m = 2 ∨ m = 3 ∨ m = 4 ∨ m = 5 ∨ m = 6 ∨ m = 7 ∨ m = 8 ∨ m = 9 ∨ m = 10 ∨ m = 11 ∨ m = 12 ∨ m = 13 ∨ m = 14 ∨ m = 15 ∨ m = 16 ∨ m = 17 ∨ m = 18 ∨ m = 19 ∨ m = 20 ∨ m = 21 ∨ m = 22 ∨ m = 23 ∨ m = 24 ∨ m = 25 ∨ m = 26 ∨ m = 27 ∨ m = 28 ∨ m = 29 ∨ m = 30 ∨ m = 31 ∨ m = 32 ∨ m = 33 ∨ m = 34 ∨ m = 35 ∨ m = 36 ∨ m = 37 ∨ m = 38 ∨ m = 39 ∨ m = 40 ∨ m = 41 ∨ m = 42 ∨ m = 43 ∨ m = 44 ∨ m = 45 ∨ m = 46 ∨ m = 47 ∨ m = 48 ∨ m = 49 ∨ m = 50 ∨ m = 51 ∨ m = 52 ∨ m = 53 ∨ m = 54 ∨ m = 55 ∨ m = 56 ∨ m = 57 ∨ m = 58 ∨ m = 59 ∨ m = 60 ∨ m = 61 ∨ m = 62 ∨ m = 63 := by omega
    rcases this with rfl | rfl | rfl | rfl | rfl | rfl | rfl | rfl | rfl | rfl | rfl | rfl | rfl | rfl | rfl | rfl | rfl | rfl | rfl | rfl | rfl | rfl | rfl | rfl | rfl | rfl | rfl | rfl | rfl | rfl | rfl | rfl | rfl | rfl | rfl | rfl | rfl | rfl | rfl | rfl | rfl | rfl | rfl | rfl | rfl | rfl | rfl | rfl | rfl | rfl | rfl | rfl | rfl | rfl | rfl | rfl | rfl | rfl | rfl | rfl | rfl | rfl | rfl | rfl <;> rfl
  exact fun m hm => this ⟨m, hm⟩
set_option maxHeartbeats 400000 in
theorem letterOf (c : Int) (w : World) (h0 : 0 ≤ c) (h1 : c < 256) :
    Calls Try.prog 30 #[.int .u8 c] w fun e w' => e = .returned (.int .i64 (bw c)) ∧ w = w' := by
  have hl := fun (k : Nat) (h : k < 64) => letter .i64 (k : Int) (by omega) (by omega)
  have hbw := fun (k : Nat) (h : k < 64) => bw_let6 (k : Int) (by omega) (by omega)
  have hbd := bw_bd c
  have hin := let6_bw c
  generalize hb : bw c = v at *
  have HL := TW.hide hl
  have HW := TW.hide hbw
  have HI := TW.hide hin
  have HB := TW.hide hb
  clear hl hbw hin hb
  go_enter Try.func30, Try.ntmps30
  go_wp2
  go_loop [3] (fun i => ∃ k : Nat, k ≤ 64 ∧ i = .int .i64 k ∧ ∀ j : Nat, j < k → let6 j ≠ c) (fun i => 64 - (intOf i).toNat)
  case atStart => exact ⟨0, Nat.zero_le _, rfl, fun j h => absurd h (Nat.not_lt_zero _)⟩
  case round =>
    obtain ⟨k, hk, rfl, hall⟩ := hrel
    have HA := TW.hide hall
    clear hall
    by_cases hlt : k < 64
    · have hix := HL.out k hlt
      have hw6 := HW.out k hlt
      have hstep : let6 (k : Int) ≠ c → ∀ j : Nat, j < k + 1 → let6 (j : Int) ≠ c := by
        intro hg j hj
        rcases Nat.lt_or_eq_of_le (Nat.lt_succ_iff.1 hj) with h' | rfl
        · exact HA.out j h'
        · exact hg
      generalize let6 (k : Int) = x at *
      have HW6 := TW.hide hw6
      have HST := TW.hide hstep
      clear hw6 hstep
      by_cases hx : x = c
      · have hxb : (x == c) = true := by simp [hx]
        have HX := TW.hide hx
        clear hx
        go_wp2
        go_ret
        refine ⟨TW.ret_int ?_, rfl⟩
        have := HW6.out
        rw [HX.out, HB.out] at this
        omega
      · have hxb : (x == c) = false := by simp [hx]
        have HX := TW.hide hx
        clear hx
        go_wp2
        go_round
        case rel => exact ⟨k + 1, by omega, by go_num, HST.out HX.out⟩
        case measure => simp [intOf]; omega
    · go_wp2
      go_ret
      refine ⟨TW.ret_int ?_, rfl⟩
      have h64 : k = 64 := by omega
      subst h64
      by_cases hv : v = -1
      · omega
      · exfalso
        have h1 := HI.out hv
        have h2 := HA.out v.toNat (by omega)
        rw [show ((v.toNat : Nat) : Int) = v by omega] at h2
        exact h2 h1
theorem stranger29 (g : Int → Int) (s : ByteArray) (w : World) (hs : s.size ≤ 8388608)
    (hf : ∀ c W, 0 ≤ c → c < 256 → Calls Try.prog 29 #[.int .u8 c] W fun e w' => e = .returned (.int .i64 (g c)) ∧ W = w') :
    Calls Try.prog 26 #[.string s, .func (.func 29) #[] #[]] w fun e w' => e = .returned (.int .i64 (bad g (sb s))) ∧ w = w' := by
  have hbt := sb_byt s
  have hix := fun k h => index_s s k h hs
  have hlen := sb_length s
  have hspec := bad_spec g (sb s)
  generalize sb s = l at *
  generalize hsz : s.size = n at *
  have HF := TW.hide hf
  have HB := TW.hide hbt
  have HI := TW.hide hix
  have HL := TW.hide hlen
  have HS := TW.hide hspec
  have HZ := TW.hide hsz
  clear hf hbt hix hlen hspec
  go_enter Try.func26, Try.ntmps26
  go_wp2
  go_loop [8] (fun i => ∃ k : Nat, k ≤ n ∧ i = .int .i64 k ∧ ∀ j, j < k → g (l.getD j 0) ≠ -1) (fun i => n - (intOf i).toNat)
  case atStart => exact ⟨0, Nat.zero_le _, rfl, fun j h => absurd h (Nat.not_lt_zero _)⟩
  case round =>
    obtain ⟨k, hk, rfl, hall⟩ := hrel
    have HA := TW.hide hall
    clear hall
    by_cases hlt : k < n
    · have hi := HI.out k hlt
      have hb := HB.out.get k
      have hsp := HS.out k (by rw [HL.out]; omega) HA.out
      have hfc := fun W => HF.out (l.getD k 0) W hb.1 hb.2
      have hstep : ∀ j, j < k + 1 → g (l.getD k 0) ≠ -1 → g (l.getD j 0) ≠ -1 := by
        intro j hj hg
        rcases Nat.lt_or_eq_of_le (Nat.lt_succ_iff.1 hj) with h' | rfl
        · exact HA.out j h'
        · exact hg
      generalize l.getD k 0 = c at *
      generalize hgc : g c = v at *
      have HFC := TW.hide hfc
      have HSP := TW.hide hsp
      have HST := TW.hide hstep
      clear hfc hsp hstep hgc
      by_cases hv : v = -1
      · have hvb : (v == -1) = true := by simp [hv]
        have HV := TW.hide hv
        clear hv
        go_wp2_with fail
        refine (HFC.out _).mono ?_
        rintro e w' ⟨rfl, rfl⟩
        go_wp2_with fail
        go_ret
        exact ⟨TW.ret_int (by rw [HSP.out fun _ => HV.out]), rfl⟩
      · have hvb : (v == -1) = false := by simp [hv]
        have HV := TW.hide hv
        clear hv
        go_wp2_with fail
        refine (HFC.out _).mono ?_
        rintro e w' ⟨rfl, rfl⟩
        go_wp2_with fail
        go_round
        case rel => exact ⟨k + 1, by omega, by go_num, fun j hj => HST.out j hj HV.out⟩
        case measure => simp [intOf]; omega
    · go_wp2_with fail
      go_ret
      refine ⟨TW.ret_int ?_, rfl⟩
      rw [HS.out k (by rw [HL.out]; omega) HA.out (fun h => absurd h (by rw [HL.out]; omega))]
      omega
end LW
end Go.Proofs.Ytbjelenmnlmodab
