/-
  What Leaves gives, the program's and the document's.
-/
import Derived.Test.YtcpegipojkbcoaaSh5
namespace Go.Proofs.Ytcpegipojkbcoaa
open Go.RowKit
set_option linter.unusedVariables false
set_option linter.unusedSimpArgs false
namespace LW
open Words
/-- How many leaves are told. -/
def lvN (T : Tr) (n : Nat) : Nat := if lvE T n = 0 then lv T n else 0
set_option maxRecDepth 100000 in
set_option maxHeartbeats 2000000 in
theorem rleaves (T : Tr) (hT : 0 ≤ T.lf ∧ T.lf < 4294967296) (n : Nat) (hn : n < 18446744073709551616) (w : World) : Calls Try.prog 57 #[.agg (trC T), .int .u64 n] w fun e w' => e = .returned (.tuple #[.int .u64 (lvN T n : Nat), .int .i64 (lvE T n)]) ∧ Below w.heap.size w w' := by
  have HV := TW.hide (fun W => rvalid T W)
  have HL : Hid (vd T = 0 → ∀ W, Calls Try.prog 58 #[.int .u64 n, .int .u64 T.lf] W fun e w' => e = .returned (.int .u64 (up n T.lf.toNat : Nat)) ∧ w' = W) := by
    intro hv W
    have := vd_ok hv
    have h := rup n T.lf.toNat (by omega) hn W
    rwa [show ((T.lf.toNat : Nat) : Int) = T.lf by omega] at h
  obtain ⟨R, hR⟩ : ∃ R, R = Value.tuple #[.int .u64 (lvN T n : Nat), .int .i64 (lvE T n)] := ⟨_, rfl⟩
  rw [← hR]
  unfold lvN lvE lv at hR
  generalize vd T = v at *
  have HR := TW.hide hR
  clear hR
  have hu : IntKind.u64.wrap T.lf = T.lf := by rw [IntKind.wrap_u64]; omega
  unfold trC at *
  have n0 := heap_alloc_new w (.cells #[.int .i64 T.k, .int .i64 T.d, .int .i64 T.f, .int .i64 T.dp, .int .u32 T.lf, .int .i64 T.inn, .slice T.ka T.kl T.kc, .slice T.sa T.sl T.sc, .slice T.pa T.pl T.pc] 26)
  have hb0 := (Below.refl w.heap.size w).alloc (Nat.le_refl _) (.cells #[.int .i64 T.k, .int .i64 T.d, .int .i64 T.f, .int .i64 T.dp, .int .u32 T.lf, .int .i64 T.inn, .slice T.ka T.kl T.kc, .slice T.sa T.sl T.sc, .slice T.pa T.pl T.pc] 26)
  have HB0 := TW.hide hb0
  have HN0 := TW.hide n0
  clear n0 hb0
  go_enter Try.func57, Try.ntmps57
  refine wp_seq_k fun K hK => ?_
  have HK := TW.hide hK
  clear hK
  go_wp2_with fail
  refine HK.out _ _ ?_
  clear HK K
  generalize w.alloc _ = X at *
  obtain ⟨c0, c1, c2, c3, c4, c5, c6, c7, c8⟩ := cells9 HN0.out
  refine wp_seq_k fun K hK => ?_
  have HK := TW.hide hK
  clear hK
  go_wp2_with fail
  refine (HV.out _).mono ?_
  rintro e1 w1 ⟨rfl, hb⟩
  clear c0 c1 c2 c3 c4 c5 c6 c7 c8
  have HN1 := TW.hide (blk_keep HN0.out hb)
  have HB1 : Hid (Below w.heap.size w w1) := HB0.out.trans (hb.mono HB0.out.size)
  clear HN0 HB0 hb
  obtain ⟨c0, c1, c2, c3, c4, c5, c6, c7, c8⟩ := cells9 HN1.out
  go_wp2
  refine HK.out _ _ ?_
  clear HK K
  by_cases hv : v = 0
  · subst hv
    have HL2 := TW.hide (HL.out rfl)
    clear HL
    generalize up n T.lf.toNat = u at *
    refine wp_seq_k fun K hK => ?_
    have HK := TW.hide hK
    clear hK
    go_wp2_with fail
    refine HK.out _ _ ?_
    clear HK K
    refine wp_seq_k fun K hK => ?_
    have HK := TW.hide hK
    clear hK
    go_wp2_with fail
    refine (HL2.out _).mono ?_
    rintro e2 w2 ⟨rfl, rfl⟩
    clear HL2
    go_wp2
    refine HK.out _ _ ?_
    clear HK K
    refine wp_seq_k fun K hK => ?_
    have HK := TW.hide hK
    clear hK
    have hr := HR.out
    clear HR
    rcases Nat.eq_zero_or_pos u with hu0 | hu0
    · subst hu0
      simp at hr
      subst hr
      go_wp2
      refine HK.out _ _ ?_
      clear HK K
      refine wp_seq_k fun K hK => ?_
      have HK := TW.hide hK
      clear hK
      by_cases hk : T.k = 2
      · rw [hk] at c0
        go_wp2
        refine HK.out _ _ ?_
        clear HK K
        go_wp2
        go_ret2
        exact ⟨rfl, HB1.out⟩
      · have hk' : (T.k == 2) = false := by simp [hk]
        go_wp2
        refine HK.out _ _ ?_
        clear HK K
        go_wp2
        go_ret2
        exact ⟨rfl, HB1.out⟩
    · rw [show max 1 u = u by omega] at hr
      have hu1 : ((u : Int) == 0) = false := by simp; omega
      go_wp2
      refine HK.out _ _ ?_
      clear HK K
      refine wp_seq_k fun K hK => ?_
      have HK := TW.hide hK
      clear hK
      by_cases hk : T.k = 2
      · rw [hk] at c0
        by_cases hu2 : 281474976710656 < u
        · have hu3 : (281474976710656 : Int) < (u : Int) := by omega
          simp [hk, hu2] at hr
          subst hr
          clear hk
          go_wp2
          go_ret2
          exact ⟨rfl, HB1.out⟩
        · have hu3 : ¬ (281474976710656 : Int) < (u : Int) := by omega
          simp [hk, hu2] at hr
          subst hr
          clear hk
          go_wp2
          refine HK.out _ _ ?_
          clear HK K
          go_wp2
          go_ret2
          exact ⟨rfl, HB1.out⟩
      · have hk' : (T.k == 2) = false := by simp [hk]
        simp [hk] at hr
        subst hr
        go_wp2
        refine HK.out _ _ ?_
        clear HK K
        go_wp2
        go_ret2
        exact ⟨rfl, HB1.out⟩
  · have hr := HR.out
    simp [hv] at hr
    subst hr
    clear HL HR
    go_wp2
    go_ret2
    exact ⟨rfl, HB1.out⟩
end LW
end Go.Proofs.Ytcpegipojkbcoaa
