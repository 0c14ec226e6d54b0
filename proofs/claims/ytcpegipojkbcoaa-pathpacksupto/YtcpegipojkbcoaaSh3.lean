/-
  What lay, above and Leaves give: the leaves of so many bytes.
-/
import Derived.Test.YtcpegipojkbcoaaSh2
namespace Go.Proofs.Ytcpegipojkbcoaa
open Go.RowKit
set_option linter.unusedVariables false
set_option linter.unusedSimpArgs false
namespace LW
open Words
/-- How many leaves. -/
def lv (T : Tr) (n : Nat) : Nat := max 1 (up n T.lf.toNat)
/-- The error of so many bytes. -/
def lvE (T : Tr) (n : Nat) : Int := if vd T ≠ 0 then vd T else if T.k = 2 ∧ 281474976710656 < lv T n then 2 else 0
/-- A tree of noughts. -/
def T0 : Tr := ⟨0, 0, 0, 0, 0, 0, none, 0, 0, none, 0, 0, none, 0, 0⟩
/-- The cells of a message that lies in a tree. -/
def lyC (T : Tr) (n m : Nat) : Array Value := #[.int .i64 T.k, .int .i64 T.d, .int .i64 T.f, .int .i64 T.dp, .int .u32 T.lf, .int .i64 T.inn, .slice T.ka T.kl T.kc, .slice T.sa T.sl T.sc, .slice T.pa T.pl T.pc, .int .u64 n, .int .u64 m]
/-- What a tree that may be is. -/
theorem vd_ok {T : Tr} (h : vd T = 0) : T.lf ≠ 0 ∧ (T.f = 0 ∨ (2 ≤ T.f ∧ T.f ≤ 255)) ∧ 2 ≤ T.dp ∧ T.dp ≤ 255 ∧ (T.k = 1 ∨ T.k = 2) := by
  rcases kms T.k with ⟨h1, h2⟩ | ⟨h1, h2, h3⟩
  · rw [vd, if_pos h1] at h
    cases h
  · rw [vd_eq, if_neg (by rw [h1]; simp)] at h
    unfold rvd at h
    split at h
    · cases h
    · split at h
      · cases h
      · rename_i g1 g2
        simp only [Bool.or_eq_true, decide_eq_true_eq, beq_iff_eq, not_or] at g1 g2
        refine ⟨g1.2, by omega, by omega, by omega, ?_⟩
        unfold ke at h1
        rcases kinds T.k with h | h | ⟨h, h'⟩
        · exact .inl h
        · exact .inr h
        · simp [h, h'] at h1
theorem up_le (n b : Nat) (hb : 0 < b) : up n b ≤ n := by
  unfold up
  split
  · exact Nat.div_le_self _ _
  · rename_i h
    have h1 : n / b * b + n % b = n := Nat.div_add_mod' n b
    have h2 : n / b ≤ n / b * b := Nat.le_mul_of_pos_right _ hb
    omega
theorem lv_lt (T : Tr) (n : Nat) (hT : 0 < T.lf) (hn : n < 18446744073709551616) : lv T n < 18446744073709551616 := by
  unfold lv
  have := up_le n T.lf.toNat (by omega)
  omega
/-- The row above. -/
def nx (f dp : Int) (r : Int) (n : Nat) : Nat := if f = 0 ∨ r = dp - 1 then 1 else up n f.toNat
set_option maxHeartbeats 1000000 in
theorem above (T : Tr) (n m : Nat) (r : Int) (b : Nat) (hf : T.f = 0 ∨ (2 ≤ T.f ∧ T.f ≤ 255)) (hd : 2 ≤ T.dp ∧ T.dp ≤ 255) (hb : b < 18446744073709551616) (w : World) : Calls Try.prog 51 #[.agg (lyC T n m), .int .i64 r, .int .u64 b] w fun e w' => e = .returned (.int .u64 (nx T.f T.dp r b : Nat)) ∧ Below w.heap.size w w' := by
  obtain ⟨k, d, f, dp, lf, inn, ka, kl, kc, sa, sl, sc, pa, pl, pc⟩ := T
  unfold lyC nx
  dsimp only at hf hd ⊢
  have hw : IntKind.i64.wrap (dp - 1) = dp - 1 := by rw [IntKind.wrap_i64]; omega
  have n0 := heap_alloc_new w (.cells #[.int .i64 k, .int .i64 d, .int .i64 f, .int .i64 dp, .int .u32 lf, .int .i64 inn, .slice ka kl kc, .slice sa sl sc, .slice pa pl pc, .int .u64 n, .int .u64 m] 98)
  have hb0 := (Below.refl w.heap.size w).alloc (Nat.le_refl _) (.cells #[.int .i64 k, .int .i64 d, .int .i64 f, .int .i64 dp, .int .u32 lf, .int .i64 inn, .slice ka kl kc, .slice sa sl sc, .slice pa pl pc, .int .u64 n, .int .u64 m] 98)
  obtain ⟨c0, c1, c2, c3, c4, c5, c6, c7, c8, c9, c10⟩ := cells11 n0
  have HX := TW.hide hb0
  clear n0 hb0
  go_enter Try.func51, Try.ntmps51
  refine wp_seq_k fun K hK => ?_
  have HK := TW.hide hK
  clear hK
  go_wp2_with fail
  refine HK.out _ _ ?_
  clear HK
  generalize w.alloc _ = X at *
  by_cases h0 : f = 0
  · go_wp2
    go_ret
    exact ⟨by simp, HX.out⟩
  · by_cases h1 : r = dp - 1
    · go_wp2
      go_ret
      exact ⟨by simp, HX.out⟩
    · have HP := TW.hide (fun W => parts b f.toNat (by omega) hb W)
      have hc : ((f.toNat : Nat) : Int) = f := by omega
      have hu : IntKind.u64.wrap f = f := by rw [IntKind.wrap_u64]; omega
      rw [hc] at HP
      have g0 : (f == 0) = false := by simp [h0]
      have g1 : (r == dp - 1) = false := by simp [h1]
      rw [if_neg (by simp [h0, h1])]
      generalize up b f.toNat = q at *
      go_wp2_with fail
      refine (HP.out _).mono ?_
      rintro e2 w2 ⟨rfl, rfl⟩
      go_wp2
      go_ret
      exact ⟨rfl, HX.out⟩
theorem ly0 : lyC T0 0 0 = #[.int .i64 0, .int .i64 0, .int .i64 0, .int .i64 0, .int .u32 0, .int .i64 0, .slice none 0 0, .slice none 0 0, .slice none 0 0, .int .u64 0, .int .u64 0] := rfl
/-- What lay hands back. -/
def lyR (T : Tr) (n : Nat) : Value := if lvE T n = 0 then .tuple #[.agg (lyC T n (lv T n)), .int .i64 0] else .tuple #[.agg (lyC T0 0 0), .int .i64 (lvE T n)]
set_option maxHeartbeats 2000000 in
theorem lay (T : Tr) (hT : 0 ≤ T.lf ∧ T.lf < 4294967296) (n : Nat) (hn : n < 18446744073709551616) (w : World) : Calls Try.prog 54 #[.agg (trC T), .int .u64 n] w fun e w' => e = .returned (lyR T n) ∧ Below w.heap.size w w' := by
  have HV := TW.hide (fun W => valid T W)
  have HL : Hid (vd T = 0 → ∀ W, Calls Try.prog 56 #[.int .u64 n, .int .u64 T.lf] W fun e w' => e = .returned (.int .u64 (up n T.lf.toNat : Nat)) ∧ w' = W) := by
    intro hv W
    have := vd_ok hv
    have h := parts n T.lf.toNat (by omega) hn W
    rwa [show ((T.lf.toNat : Nat) : Int) = T.lf by omega] at h
  obtain ⟨R, hR⟩ : ∃ R, R = lyR T n := ⟨_, rfl⟩
  rw [← hR]
  unfold lyR lvE lv at hR
  rw [ly0] at hR
  generalize vd T = v at *
  obtain ⟨k, d, f, dp, lf, inn, ka, kl, kc, sa, sl, sc, pa, pl, pc⟩ := T
  unfold trC at HV ⊢
  unfold lyC at hR
  dsimp only at hT HV HL hR ⊢
  have HR := TW.hide hR
  clear hR
  have hu : IntKind.u64.wrap lf = lf := by rw [IntKind.wrap_u64]; omega
  have n0 := heap_alloc_new w (.cells #[.int .i64 k, .int .i64 d, .int .i64 f, .int .i64 dp, .int .u32 lf, .int .i64 inn, .slice ka kl kc, .slice sa sl sc, .slice pa pl pc] 26)
  have hb := (Below.refl w.heap.size w).alloc (Nat.le_refl _) (.cells #[.int .i64 k, .int .i64 d, .int .i64 f, .int .i64 dp, .int .u32 lf, .int .i64 inn, .slice ka kl kc, .slice sa sl sc, .slice pa pl pc] 26)
  have l0 := blk_lt n0
  generalize hW : w.alloc (.cells #[.int .i64 k, .int .i64 d, .int .i64 f, .int .i64 dp, .int .u32 lf, .int .i64 inn, .slice ka kl kc, .slice sa sl sc, .slice pa pl pc] 26) = X at *
  have m0 := heap_alloc_new X (.cells #[.int .i64 0, .int .i64 0, .int .i64 0, .int .i64 0, .int .u32 0, .int .i64 0, .slice none 0 0, .slice none 0 0, .slice none 0 0, .int .u64 0, .int .u64 0] 98)
  have n1 := blk_alloc (o' := .cells #[.int .i64 0, .int .i64 0, .int .i64 0, .int .i64 0, .int .u32 0, .int .i64 0, .slice none 0 0, .slice none 0 0, .slice none 0 0, .int .u64 0, .int .u64 0] 98) n0
  have hb2 := hb.alloc hb.size (.cells #[.int .i64 0, .int .i64 0, .int .i64 0, .int .i64 0, .int .u32 0, .int .i64 0, .slice none 0 0, .slice none 0 0, .slice none 0 0, .int .u64 0, .int .u64 0] 98)
  go_enter Try.func54, Try.ntmps54
  refine wp_seq_k fun K hK => ?_
  have HK := TW.hide hK
  clear hK
  go_wp2_with fail
  refine HK.out _ _ ?_
  clear HK
  have hg := hb.size
  clear hW hb n0
  generalize X.alloc _ = Y at *
  generalize X.heap.size = g at *
  obtain ⟨c0, c1, c2, c3, c4, c5, c6, c7, c8⟩ := cells9 n1
  have HN := TW.hide n1
  have HM := TW.hide m0
  have HB := TW.hide hb2
  clear n1 m0 hb2
  refine wp_seq_k fun K hK => ?_
  have HK := TW.hide hK
  clear hK
  go_wp2_with fail
  refine (HV.out _).mono ?_
  rintro e1 w1 ⟨rfl, hb1⟩
  clear c0 c1 c2 c3 c4 c5 c6 c7 c8
  have n1 := blk_keep HN.out hb1
  have m1 := blk_keep HM.out hb1
  have b1 : Below w.heap.size w w1 := HB.out.trans (hb1.mono HB.out.size)
  clear HN HM HB hb1
  obtain ⟨c0, c1, c2, c3, c4, c5, c6, c7, c8⟩ := cells9 n1
  have HN := TW.hide n1
  have HM := TW.hide m1
  have HB := TW.hide b1
  clear n1 m1 b1
  by_cases hv : v = 0
  · subst hv
    have HL2 := TW.hide (HL.out rfl)
    clear HL
    go_wp2_with fail
    refine HK.out _ _ ?_
    clear HK
    generalize up n lf.toNat = u at *
    refine wp_seq_k fun K hK => ?_
    have HK := TW.hide hK
    clear hK
    go_wp2_with fail
    refine (HL2.out _).mono ?_
    rintro e2 w2 ⟨rfl, rfl⟩
    clear HL2
    have hr := HR.out
    clear HR
    rcases Nat.lt_or_ge 1 u with hu0 | hu0
    case inr =>
      rw [show max 1 u = 1 by omega] at hr
      have hu1 : (u : Int) ≤ 1 := by omega
      go_wp2
      refine HK.out _ _ ?_
      clear HK
      by_cases hk : k = 2
      · subst hk
        simp at hr
        subst hr
        go_wp2_with (refine wpList_store_row (by rfl) 98 _ _ (by rfl) g #[.int .i64 2, .int .i64 d, .int .i64 f, .int .i64 dp, .int .u32 lf, .int .i64 inn, .slice ka kl kc, .slice sa sl sc, .slice pa pl pc, .int .u64 n, .int .u64 1] (by rfl) (by rfl) 98 _ HM.out (by kernel_rfl) (by rfl) (by simp [Value.oneCell']) ?_)
        refine bodyPost_ret (v := .tuple #[.agg #[.int .i64 2, .int .i64 d, .int .i64 f, .int .i64 dp, .int .u32 lf, .int .i64 inn, .slice ka kl kc, .slice sa sl sc, .slice pa pl pc, .int .u64 n, .int .u64 1], .int .i64 0]) (results_row_tmp (P := Try.prog) Try.results54 _ _ g 98 _ (0, 0) _ _ (by rfl) (by rfl) (setRow_heap _ _ _ _ _ _ HM.out) Try.underlying98 rfl (by kernel_rfl)) rfl ?_
        exact ⟨rfl, below_setRow HB.out hg⟩
      · have hk' : (k == 2) = false := by simp [hk]
        simp [hk] at hr
        subst hr
        go_wp2_with (refine wpList_store_row (by rfl) 98 _ _ (by rfl) g #[.int .i64 k, .int .i64 d, .int .i64 f, .int .i64 dp, .int .u32 lf, .int .i64 inn, .slice ka kl kc, .slice sa sl sc, .slice pa pl pc, .int .u64 n, .int .u64 1] (by rfl) (by rfl) 98 _ HM.out (by kernel_rfl) (by rfl) (by simp [Value.oneCell']) ?_)
        refine bodyPost_ret (v := .tuple #[.agg #[.int .i64 k, .int .i64 d, .int .i64 f, .int .i64 dp, .int .u32 lf, .int .i64 inn, .slice ka kl kc, .slice sa sl sc, .slice pa pl pc, .int .u64 n, .int .u64 1], .int .i64 0]) (results_row_tmp (P := Try.prog) Try.results54 _ _ g 98 _ (0, 0) _ _ (by rfl) (by rfl) (setRow_heap _ _ _ _ _ _ HM.out) Try.underlying98 rfl (by kernel_rfl)) rfl ?_
        exact ⟨rfl, below_setRow HB.out hg⟩
    case inl =>
      rw [show max 1 u = u by omega] at hr
      have hu1 : (1 : Int) < (u : Int) := by omega
      go_wp2
      refine HK.out _ _ ?_
      clear HK
      by_cases hk : k = 2
      · subst hk
        by_cases hu2 : 281474976710656 < u
        · have hu3 : (281474976710656 : Int) < (u : Int) := by omega
          simp [hu2] at hr
          subst hr
          go_wp2_with (refine wpList_store_row (by rfl) 98 _ _ (by rfl) g #[.int .i64 0, .int .i64 0, .int .i64 0, .int .i64 0, .int .u32 0, .int .i64 0, .slice none 0 0, .slice none 0 0, .slice none 0 0, .int .u64 0, .int .u64 0] (by rfl) (by rfl) 98 _ HM.out (by kernel_rfl) (by rfl) (by simp [Value.oneCell']) ?_)
          refine bodyPost_ret (v := .tuple #[.agg #[.int .i64 0, .int .i64 0, .int .i64 0, .int .i64 0, .int .u32 0, .int .i64 0, .slice none 0 0, .slice none 0 0, .slice none 0 0, .int .u64 0, .int .u64 0], .int .i64 2]) (results_row_tmp (P := Try.prog) Try.results54 _ _ g 98 _ (0, 0) _ _ (by rfl) (by rfl) (setRow_heap _ _ _ _ _ _ HM.out) Try.underlying98 rfl (by kernel_rfl)) rfl ?_
          exact ⟨rfl, below_setRow HB.out hg⟩
        · have hu3 : ¬ (281474976710656 : Int) < (u : Int) := by omega
          simp [hu2] at hr
          subst hr
          go_wp2_with (refine wpList_store_row (by rfl) 98 _ _ (by rfl) g #[.int .i64 2, .int .i64 d, .int .i64 f, .int .i64 dp, .int .u32 lf, .int .i64 inn, .slice ka kl kc, .slice sa sl sc, .slice pa pl pc, .int .u64 n, .int .u64 u] (by rfl) (by rfl) 98 _ HM.out (by kernel_rfl) (by rfl) (by simp [Value.oneCell']) ?_)
          refine bodyPost_ret (v := .tuple #[.agg #[.int .i64 2, .int .i64 d, .int .i64 f, .int .i64 dp, .int .u32 lf, .int .i64 inn, .slice ka kl kc, .slice sa sl sc, .slice pa pl pc, .int .u64 n, .int .u64 u], .int .i64 0]) (results_row_tmp (P := Try.prog) Try.results54 _ _ g 98 _ (0, 0) _ _ (by rfl) (by rfl) (setRow_heap _ _ _ _ _ _ HM.out) Try.underlying98 rfl (by kernel_rfl)) rfl ?_
          exact ⟨rfl, below_setRow HB.out hg⟩
      · have hk' : (k == 2) = false := by simp [hk]
        simp [hk] at hr
        subst hr
        go_wp2_with (refine wpList_store_row (by rfl) 98 _ _ (by rfl) g #[.int .i64 k, .int .i64 d, .int .i64 f, .int .i64 dp, .int .u32 lf, .int .i64 inn, .slice ka kl kc, .slice sa sl sc, .slice pa pl pc, .int .u64 n, .int .u64 u] (by rfl) (by rfl) 98 _ HM.out (by kernel_rfl) (by rfl) (by simp [Value.oneCell']) ?_)
        refine bodyPost_ret (v := .tuple #[.agg #[.int .i64 k, .int .i64 d, .int .i64 f, .int .i64 dp, .int .u32 lf, .int .i64 inn, .slice ka kl kc, .slice sa sl sc, .slice pa pl pc, .int .u64 n, .int .u64 u], .int .i64 0]) (results_row_tmp (P := Try.prog) Try.results54 _ _ g 98 _ (0, 0) _ _ (by rfl) (by rfl) (setRow_heap _ _ _ _ _ _ HM.out) Try.underlying98 rfl (by kernel_rfl)) rfl ?_
        exact ⟨rfl, below_setRow HB.out hg⟩
  · have hr := HR.out
    rw [if_pos hv, if_neg hv] at hr
    subst hr
    clear HR
    go_wp2_with (refine wpList_store_row (by rfl) 98 _ _ (by rfl) g #[.int .i64 0, .int .i64 0, .int .i64 0, .int .i64 0, .int .u32 0, .int .i64 0, .slice none 0 0, .slice none 0 0, .slice none 0 0, .int .u64 0, .int .u64 0] (by rfl) (by rfl) 98 _ HM.out (by kernel_rfl) (by rfl) (by simp [Value.oneCell']) ?_)
    refine bodyPost_ret (v := .tuple #[.agg #[.int .i64 0, .int .i64 0, .int .i64 0, .int .i64 0, .int .u32 0, .int .i64 0, .slice none 0 0, .slice none 0 0, .slice none 0 0, .int .u64 0, .int .u64 0], .int .i64 v]) (results_row_tmp (P := Try.prog) Try.results54 _ _ g 98 _ (0, 0) _ _ (by rfl) (by rfl) (setRow_heap _ _ _ _ _ _ HM.out) Try.underlying98 rfl (by kernel_rfl)) rfl ?_
    exact ⟨rfl, below_setRow HB.out hg⟩
end LW
end Go.Proofs.Ytcpegipojkbcoaa
