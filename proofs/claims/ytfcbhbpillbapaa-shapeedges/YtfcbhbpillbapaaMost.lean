/-
  What Most gives, the program's and the document's.
-/
import Derived.Test.YtfcbhbpillbapaaMul
namespace Go.Proofs.Ytfcbhbpillbapaa
open Go.RowKit
set_option linter.unusedVariables false
set_option linter.unusedSimpArgs false
namespace LW
open Words
/-- The bytes that so many rows hold. -/
def msN (T : Tr) (r : Int) : Nat := T.lf.toNat * T.f.toNat ^ (r.toNat - 1)
def msE (T : Tr) (r : Int) : Int := if vd T ≠ 0 then vd T else if ou r 2 T.dp then 1 else 0
/-- Whether it is told. -/
def msO (T : Tr) (r : Int) : Bool := msE T r == 0 && T.f != 0 && r != T.dp && decide (msN T r < 18446744073709551616)
def msR (T : Tr) (r : Int) : Value := .tuple #[.int .u64 (if msO T r then msN T r else 0 : Nat), .bool (msO T r), .int .i64 (msE T r)]
theorem msR_E {T : Tr} {r : Int} (h : vd T ≠ 0) : msR T r = .tuple #[.int .u64 0, .bool false, .int .i64 (vd T)] := by
  have e : msE T r = vd T := by simp [msE, h]
  have o : msO T r = false := by simp [msO, e, h]
  simp [msR, e, o]
theorem msR_o {T : Tr} {r : Int} (h : vd T = 0) (ho : ou r 2 T.dp = true) : msR T r = .tuple #[.int .u64 0, .bool false, .int .i64 1] := by
  have e : msE T r = 1 := by simp [msE, h, ho]
  have o : msO T r = false := by simp [msO, e]
  simp [msR, e, o]
theorem msR_z {T : Tr} {r : Int} (h : vd T = 0) (ho : ou r 2 T.dp = false) (h0 : T.f = 0 ∨ r = T.dp ∨ 18446744073709551616 ≤ msN T r) : msR T r = .tuple #[.int .u64 0, .bool false, .int .i64 0] := by
  have e : msE T r = 0 := by simp [msE, h, ho]
  have o : msO T r = false := by
    rcases h0 with h0 | h0 | h0
    · simp [msO, h0]
    · simp [msO, h0]
    · simp [msO, h0]
  simp [msR, e, o]
theorem msR_y {T : Tr} {r : Int} (h : vd T = 0) (ho : ou r 2 T.dp = false) (h0 : T.f ≠ 0) (h1 : r ≠ T.dp) (h2 : msN T r < 18446744073709551616) : msR T r = .tuple #[.int .u64 (msN T r : Nat), .bool true, .int .i64 0] := by
  have e : msE T r = 0 := by simp [msE, h, ho]
  have o : msO T r = true := by simp [msO, e, h0, h1, h2]
  simp [msR, e, o]
theorem pow_up (L F i R : Nat) (hF : 1 ≤ F) (h : i ≤ R) : L * F ^ i ≤ L * F ^ R := Nat.mul_le_mul_left _ (Nat.pow_le_pow_right hF h)
set_option maxRecDepth 100000 in
set_option maxHeartbeats 2000000 in
theorem most_ (T : Tr) (hT : 0 ≤ T.lf ∧ T.lf < 4294967296) (r : Int) (w : World) : Calls Try.prog 25 #[.agg (trC T), .int .i64 r] w fun e w' => e = .returned (msR T r) ∧ Below w.heap.size w w' := by
  have HV := TW.hide (fun W => valid T W)
  have HO := TW.hide (fun W => outside r 2 T.dp W)
  obtain ⟨Rv, hRv⟩ : ∃ Rv, Rv = msR T r := ⟨_, rfl⟩
  rw [← hRv]
  have HR := TW.hide hRv
  clear hRv
  unfold trC at *
  have n0 := heap_alloc_new w (.cells #[.int .i64 T.k, .int .i64 T.d, .int .i64 T.f, .int .i64 T.dp, .int .u32 T.lf, .int .i64 T.inn, .slice T.ka T.kl T.kc, .slice T.sa T.sl T.sc, .slice T.pa T.pl T.pc] 26)
  have hb0 := (Below.refl w.heap.size w).alloc (Nat.le_refl _) (.cells #[.int .i64 T.k, .int .i64 T.d, .int .i64 T.f, .int .i64 T.dp, .int .u32 T.lf, .int .i64 T.inn, .slice T.ka T.kl T.kc, .slice T.sa T.sl T.sc, .slice T.pa T.pl T.pc] 26)
  have HB0 := TW.hide hb0
  have HN := TW.hide n0
  clear n0 hb0
  go_enter Try.func25, Try.ntmps25
  refine wp_seq_k fun K hK => ?_
  have HK := TW.hide hK
  clear hK
  go_wp2_with fail
  refine HK.out _ _ ?_
  clear HK K
  generalize w.alloc _ = X at *
  obtain ⟨c0, c1, c2, c3, c4, c5, c6, c7, c8⟩ := cells9 HN.out
  obtain ⟨v, hv⟩ : ∃ v, v = vd T := ⟨_, rfl⟩
  obtain ⟨q, hq⟩ : ∃ q, q = ou r 2 T.dp := ⟨_, rfl⟩
  rw [← hv] at HV
  rw [← hq] at HO
  have Hv := TW.hide hv
  have Hq := TW.hide hq
  clear hv hq
  refine wp_seq_k fun K hK => ?_
  have HK := TW.hide hK
  clear hK
  go_wp2_with fail
  refine (HV.out _).mono ?_
  rintro e1 w1 ⟨rfl, hb1⟩
  clear c0 c1 c2 c3 c4 c5 c6 c7 c8
  have hN1 := blk_keep HN.out hb1
  have HB1 : Hid (Below w.heap.size w w1) := HB0.out.trans (hb1.mono HB0.out.size)
  obtain ⟨c0, c1, c2, c3, c4, c5, c6, c7, c8⟩ := cells9 hN1
  clear hN1 hb1 HN HB0 HV
  by_cases h0 : v = 0
  · subst h0
    go_wp2
    refine HK.out _ _ ?_
    clear HK K
    refine wp_seq_k fun K hK => ?_
    have HK := TW.hide hK
    clear hK
    go_wp2_with fail
    refine (HO.out _).mono ?_
    rintro e2 w2 ⟨rfl, rfl⟩
    clear HO
    cases q with
    | true =>
      have hR := HR.out.trans (msR_o Hv.out.symm Hq.out.symm)
      subst hR
      go_wp2
      refine bodyPost_ret (results_tmp3 (by rfl) _ _ _) rfl ?_
      exact ⟨rfl, HB1.out⟩
    | false =>
      go_wp2
      refine HK.out _ _ ?_
      clear HK K
      refine wp_seq_k fun K hK => ?_
      have HK := TW.hide hK
      clear hK
      by_cases hf : T.f = 0
      · have hR := HR.out.trans (msR_z Hv.out.symm Hq.out.symm (.inl hf))
        subst hR
        go_wp2
        refine bodyPost_ret (results_tmp3 (by rfl) _ _ _) rfl ?_
        exact ⟨rfl, HB1.out⟩
      · by_cases hd : r = T.dp
        · have hR := HR.out.trans (msR_z Hv.out.symm Hq.out.symm (.inr (.inl hd)))
          subst hR
          go_wp2
          refine bodyPost_ret (results_tmp3 (by rfl) _ _ _) rfl ?_
          exact ⟨rfl, HB1.out⟩
        · have hf' : (T.f == 0) = false := by simp [hf]
          have hd' : (r == T.dp) = false := by simp [hd]
          go_wp2
          refine HK.out _ _ ?_
          clear HK K
          have hvo := vd_ok Hv.out.symm
          have hqo := Hq.out.symm
          simp only [ou, Bool.or_eq_false_iff, decide_eq_false_iff_not] at hqo
          obtain ⟨F, hF⟩ : ∃ F : Nat, T.f = (F : Int) := ⟨T.f.toNat, by omega⟩
          obtain ⟨L, hL⟩ : ∃ L : Nat, T.lf = (L : Int) := ⟨T.lf.toNat, by omega⟩
          obtain ⟨N, hN⟩ : ∃ N : Nat, r = (N : Int) + 1 := ⟨(r - 1).toNat, by omega⟩
          have hms : msN T r = L * F ^ N := by
            unfold msN
            rw [hF, hL, hN, Int.toNat_natCast, Int.toNat_natCast]
            rw [show ((N : Int) + 1).toNat - 1 = N by omega]
          have hF1 : 2 ≤ F ∧ F ≤ 255 := by omega
          have hL1 : 1 ≤ L ∧ L < 4294967296 := by omega
          have hN1 : N ≤ 255 := by omega
          have hrz := fun h => HR.out.trans (msR_z Hv.out.symm Hq.out.symm (.inr (.inr h)))
          have hry := fun h => HR.out.trans (msR_y Hv.out.symm Hq.out.symm hf hd h)
          rw [hms] at hrz hry
          have HZ := TW.hide hrz
          have HY := TW.hide hry
          rw [hF] at c2
          rw [hL] at c4
          have wL : IntKind.u64.wrap (L : Int) = (L : Int) := by rw [IntKind.wrap_u64]; omega
          have wF : IntKind.u64.wrap (F : Int) = (F : Int) := by rw [IntKind.wrap_u64]; omega
          have wN : IntKind.i64.wrap (r - 1) = (N : Int) := by rw [IntKind.wrap_i64]; omega
          clear hrz hry HR hms hqo hvo hF hL hN hf' hd' hf hd Hv Hq
          have HM := TW.hide (fun x hx W => mul64 x F hx hF1.2 W)
          go_wp2
          go_loop [8, 34] (fun v i => ∃ k : Nat, v = .int .u64 ((L * F ^ k : Nat) : Int) ∧ i = .int .i64 (k : Int) ∧ k ≤ N ∧ L * F ^ k < 18446744073709551616) (fun v i => N - (intOf i).toNat)
          case atStart => exact ⟨0, by simp, rfl, by omega, by simp; omega⟩
          case round =>
            obtain ⟨k, rfl, rfl, hk, hp⟩ := hrel
            have hpu := pow_up L F k N (by omega) hk
            have hpu' := pow_up L F (k + 1) N (by omega)
            have hps : L * F ^ (k + 1) = L * F ^ k * F := by rw [Nat.pow_succ, Nat.mul_assoc]
            have hHM := fun W => HM.out (L * F ^ k) hp W
            rw [← hps] at hHM
            rcases Nat.lt_or_ge k N with hlt | hge
            · have hlt' : (k : Int) < (N : Int) := by omega
              have hw1 : IntKind.i64.wrap ((k : Int) + 1) = ((k + 1 : Nat) : Int) := by rw [IntKind.wrap_i64]; omega
              replace hpu' := hpu' (by omega)
              have hnx : L * F ^ (k + 1) < 18446744073709551616 → ∃ j : Nat, Value.int .u64 ((L * F ^ (k + 1) : Nat) : Int) = .int .u64 ((L * F ^ j : Nat) : Int) ∧ Value.int .i64 ((k + 1 : Nat) : Int) = .int .i64 (j : Int) ∧ j ≤ N ∧ L * F ^ j < 18446744073709551616 := fun h => ⟨k + 1, rfl, rfl, by omega, h⟩
              have HX := TW.hide hnx
              clear hnx hps
              have HPU := TW.hide hpu'
              clear hpu' hpu
              have HH := TW.hide hHM
              clear hHM HM
              generalize L * F ^ k = p at *
              generalize L * F ^ (k + 1) = p2 at *
              rcases Nat.lt_or_ge p2 18446744073709551616 with h64 | h64
              · have hdv : p2 / 18446744073709551616 = 0 := by omega
                have hmd : p2 % 18446744073709551616 = p2 := by omega
                rw [hdv, hmd] at HH
                replace HX := TW.hide (HX.out h64)
                clear hdv hmd
                go_wp2_with fail
                refine (HH.out _).mono ?_
                rintro e3 w3 ⟨rfl, rfl⟩
                clear HH
                go_wp2
                go_round
                case rel => exact HX.out
                case measure => simp [intOf]; omega
              · have hdv : ¬ ((p2 / 18446744073709551616 : Nat) : Int) = 0 := by omega
                have HRv := TW.hide (HZ.out (by have := HPU.out; omega))
                generalize p2 / 18446744073709551616 = d at *
                generalize p2 % 18446744073709551616 = m at *
                go_wp2_with fail
                refine (HH.out _).mono ?_
                rintro e3 w3 ⟨rfl, rfl⟩
                clear HH
                go_wp2
                refine bodyPost_ret (results_tmp3 (by rfl) _ _ _) rfl ?_
                exact ⟨by rw [HRv.out]; rfl, HB1.out⟩
            · have hkN : k = N := by omega
              subst hkN
              have HRv := TW.hide (HY.out hp)
              clear hHM HM hps hpu hpu'
              generalize L * F ^ k = p at *
              go_wp2
              refine bodyPost_ret (results_tmp3 (by rfl) _ _ _) rfl ?_
              exact ⟨by rw [HRv.out]; rfl, HB1.out⟩
  · have hR := HR.out.trans (msR_E (by rw [← Hv.out]; exact h0))
    rw [← Hv.out] at hR
    subst hR
    go_wp2
    refine bodyPost_ret (results_tmp3 (by rfl) _ _ _) rfl ?_
    exact ⟨rfl, HB1.out⟩
end LW
end Go.Proofs.Ytfcbhbpillbapaa
