/-
  The law on how places lie side by side.
-/
import Derived.Test.YtahmjdnnkifmnaaHand
namespace Go.Proofs.Ytahmjdnnkifmnaa
open Go.ChangeShapes Go.WideShapes Go.ChangeAt Go.RowKit Go.Joins
set_option linter.unusedVariables false
set_option linter.unusedSimpArgs false
namespace LW
open Words
theorem u16_nat {n0 : Int} (hr : (Lit.int .u16 n0).wf = true) : ∃ n : Nat, n0 = (n : Int) ∧ n < 65536 := by
  have h := bounds_u16 hr
  exact ⟨n0.toNat, by omega, by omega⟩
theorem lvE_small {T : Tr} {n : Nat} (hT : 0 ≤ T.lf) (hn : n < 65536) : lvE T n = vd T := by
  unfold lvE
  split
  · rfl
  · rename_i h
    have hv : vd T = 0 := by simpa using h
    rw [if_neg, hv]
    rintro ⟨_, h2⟩
    have := up_le n T.lf.toNat (by have := vd_ok hv; omega)
    unfold lv at h2
    omega
theorem roL_dp {T : Tr} {n : Nat} (hv : vd T = 0) : ((roL T n).length : Int) ≤ T.dp := by
  have := ab_len T.f T.dp (T.dp.toNat - 1) 1 (lv T n)
  have h := vd_ok hv
  unfold roL
  rw [List.length_cons]
  omega
set_option maxRecDepth 100000 in
set_option maxHeartbeats 8000000 in
theorem tilesW (T : Tr) (s t : List Int) (n0 : Int) (a : Int) (m0 : Int) (w : World) (hT : 0 ≤ T.lf ∧ T.lf < 4294967296) (hx1 : T.sl = s.length) (hx2 : Lies w T.sa T.sc s) (hx3 : T.pl = t.length) (hx4 : Lies w T.pa T.pc t) (hr : (Lit.int .u16 n0).wf = true) (hr1 : (Lit.int .i64 a).wf = true) (hr2 : (Lit.int .u16 m0).wf = true) : Calls Try.prog 5 #[.agg (trC T), .int .u16 n0, .int .i64 a, .int .u16 m0] w fun e w' => e = .returned (.bool true) ∧ Below w.heap.size w w' := by
  clear hx1 hx2 hx3 hx4
  obtain ⟨n, rfl, hn⟩ := u16_nat hr
  obtain ⟨near, rfl, hne⟩ := u16_nat hr2
  clear hr hr2
  have HA := TW.hide (fun W => awake W)
  have wn : IntKind.u64.wrap (n : Int) = (n : Int) := by rw [IntKind.wrap_u64]; omega
  have wm : IntKind.u64.wrap (near : Int) = (near : Int) := by rw [IntKind.wrap_u64]; omega
  by_cases hE : lvE T n = 0
  case neg =>
    have H1 := TW.hide (fun W => srowsE T hT n (by omega) hE W)
    have hv := fun W => rvalid T W
    rw [← lvE_small hT.1 hn] at hv
    have H2 := TW.hide hv
    clear hv
    generalize lvE T n = v at *
    have hE' : (v != 0) = true := by simp [hE]
    unfold trC at *
    have n0 := heap_alloc_new w (.cells #[.int .i64 T.k, .int .i64 T.d, .int .i64 T.f, .int .i64 T.dp, .int .u32 T.lf, .int .i64 T.inn, .slice T.ka T.kl T.kc, .slice T.sa T.sl T.sc, .slice T.pa T.pl T.pc] 26)
    have hb0 := (Below.refl w.heap.size w).alloc (Nat.le_refl _) (.cells #[.int .i64 T.k, .int .i64 T.d, .int .i64 T.f, .int .i64 T.dp, .int .u32 T.lf, .int .i64 T.inn, .slice T.ka T.kl T.kc, .slice T.sa T.sl T.sc, .slice T.pa T.pl T.pc] 26)
    have HB0 := TW.hide hb0
    have HN0 := TW.hide n0
    clear n0 hb0
    go_enter Try.func5, Try.ntmps5
    refine wp_seq_k fun K hK => ?_
    have HK := TW.hide hK
    clear hK
    go_wp2_with fail
    refine HK.out _ _ ?_
    clear HK K
    generalize w.alloc _ = X at *
    obtain ⟨c0, c1, c2, c3, c4, c5, c6, c7, c8⟩ := cells9 HN0.out
    clear c0 c1 c2 c3 c4 c5 c6 c7 c8
    go_wp2_with fail
    refine (HA.out _).mono ?_
    rintro e1 w1 ⟨rfl, hb⟩
    have HN1 := TW.hide (blk_keep HN0.out hb)
    have HB1 : Hid (Below w.heap.size w w1) := HB0.out.trans (hb.mono HB0.out.size)
    clear HN0 HB0 hb
    obtain ⟨c0, c1, c2, c3, c4, c5, c6, c7, c8⟩ := cells9 HN1.out
    go_wp2_with fail
    refine (H1.out _).mono ?_
    rintro e2 w2 ⟨rfl, hb⟩
    clear c0 c1 c2 c3 c4 c5 c6 c7 c8
    have HN2 := TW.hide (blk_keep HN1.out hb)
    have HB2 : Hid (Below w.heap.size w w2) := HB1.out.trans (hb.mono HB1.out.size)
    clear HN1 HB1 hb
    obtain ⟨c0, c1, c2, c3, c4, c5, c6, c7, c8⟩ := cells9 HN2.out
    go_wp2_with fail
    refine (H2.out _).mono ?_
    rintro e3 w3 ⟨rfl, hb⟩
    clear c0 c1 c2 c3 c4 c5 c6 c7 c8
    have HN3 := TW.hide (blk_keep HN2.out hb)
    have HB3 : Hid (Below w.heap.size w w3) := HB2.out.trans (hb.mono HB2.out.size)
    clear HN2 HB2 hb
    obtain ⟨c0, c1, c2, c3, c4, c5, c6, c7, c8⟩ := cells9 HN3.out
    go_wp2
    go_ret
    exact ⟨rfl, HB3.out⟩
  case pos =>
    have hv := lvE_ok hE
    have hvo := vd_ok hv
    have hRw := rwsT (n := n) hT (by omega) hE
    have hdp := roL_dp (n := n) hv
    have hlast := hRw.one ((roL T n).length - 2) (by have := hRw.two; omega)
    have H1 := TW.hide (fun W => srowsOk T hT n (by omega) hE W)
    have H2 := TW.hide (fun W => rest a hr1 (roL T n).length (by have := hRw.two; omega) hRw.most W)
    have hne0 : roL T n ≠ [] := by unfold roL; simp
    unfold RoP at H1
    have HOW : Hid (∀ (W : World) (B : Nat) (v : Value), W.ownsRow B 27 1 v (roL T n).length (us (roL T n)) → ∃ a cap, v = .slice a (roL T n).length cap ∧ UR W a (roL T n)) := fun W B v h => ur_own hne0 h
    unfold trC at *
    have n0 := heap_alloc_new w (.cells #[.int .i64 T.k, .int .i64 T.d, .int .i64 T.f, .int .i64 T.dp, .int .u32 T.lf, .int .i64 T.inn, .slice T.ka T.kl T.kc, .slice T.sa T.sl T.sc, .slice T.pa T.pl T.pc] 26)
    have hb0 := (Below.refl w.heap.size w).alloc (Nat.le_refl _) (.cells #[.int .i64 T.k, .int .i64 T.d, .int .i64 T.f, .int .i64 T.dp, .int .u32 T.lf, .int .i64 T.inn, .slice T.ka T.kl T.kc, .slice T.sa T.sl T.sc, .slice T.pa T.pl T.pc] 26)
    have HB0 := TW.hide hb0
    have HN0 := TW.hide n0
    clear n0 hb0
    go_enter Try.func5, Try.ntmps5
    refine wp_seq_k fun K hK => ?_
    have HK := TW.hide hK
    clear hK
    go_wp2_with fail
    refine HK.out _ _ ?_
    clear HK K
    generalize w.alloc _ = X at *
    obtain ⟨c0, c1, c2, c3, c4, c5, c6, c7, c8⟩ := cells9 HN0.out
    clear c0 c1 c2 c3 c4 c5 c6 c7 c8
    refine wp_seq_k fun K hK => ?_
    have HK := TW.hide hK
    clear hK
    go_wp2_with fail
    refine (HA.out _).mono ?_
    rintro e1 w1 ⟨rfl, hb⟩
    have HN1 := TW.hide (blk_keep HN0.out hb)
    have HB1 : Hid (Below w.heap.size w w1) := HB0.out.trans (hb.mono HB0.out.size)
    clear HN0 HB0 hb
    go_wp2
    refine HK.out _ _ ?_
    clear HK K
    refine wp_seq_k fun K hK => ?_
    have HK := TW.hide hK
    clear hK
    go_wp2
    refine HK.out _ _ ?_
    clear HK K
    refine wp_seq_k fun K hK => ?_
    have HK := TW.hide hK
    clear hK
    obtain ⟨c0, c1, c2, c3, c4, c5, c6, c7, c8⟩ := cells9 HN1.out
    go_wp2_with fail
    refine (H1.out _).mono ?_
    rintro e2 w2 ⟨v1, rfl, hown, hb⟩
    clear c0 c1 c2 c3 c4 c5 c6 c7 c8
    have HN2 := TW.hide (blk_keep HN1.out hb)
    have HB2 : Hid (Below w.heap.size w w2) := HB1.out.trans (hb.mono HB1.out.size)
    clear HN1 HB1 hb
    obtain ⟨c0, c1, c2, c3, c4, c5, c6, c7, c8⟩ := cells9 HN2.out
    obtain ⟨a1, cap1, rfl, hur⟩ := HOW.out _ _ _ hown
    obtain ⟨b1, rfl, _, hcell⟩ := hur
    have HC := TW.hide hcell
    clear hown hcell HOW
    have htwo := hRw.two
    have hm255 := hRw.most
    have hlen1 : (roL T n).getD ((roL T n).length - 2 + 1) 0 = 1 := hlast.2 (by omega)
    have FT := TW.hide (fun (i at_ : Nat) (h : i < (roL T n).length) (h3 : at_ < (roL T n).getD i 0) => tile_facts (n := n) (by omega) hv hT.1 hRw h h3)
    have FS : Hid (∀ (i at_ : Nat), i < (roL T n).length → at_ < (roL T n).getD i 0 → ∀ W, Calls Try.prog 6 #[.agg (trC T), .int .u64 n, .int .i64 (i : Int), .int .u64 at_] W fun e w' => e = .returned (.tuple #[.agg (spC (i : Int) at_ (frN T (roL T n) (i : Int) at_) (toN T n (roL T n) (i : Int) at_) (laB (roL T n) (i : Int) at_) (rtB (roL T n) (i : Int))), .int .i64 0]) ∧ Below W.heap.size W w') := by
      intro i at_ h h3 W
      have hs := spot_ T hT n (by omega) (i : Int) at_ W
      unfold spF at hs
      rw [if_pos hE, if_pos ⟨by omega, by omega, by rw [Int.toNat_natCast]; exact h3⟩] at hs
      exact hs
    have FH := TW.hide (fun (i at_ : Nat) (h : i < (roL T n).length) (h3 : at_ < (roL T n).getD i 0) (h4 : at_ < 18446744073709551616) (fr tt : Nat) (la ro : Bool) (hro : rtB (roL T n) (i : Int) = ro) => hand_ T hT n (by omega) hE i at_ h h3 h4 fr tt la ro hro)
    have FP := TW.hide (fun i (h : i < (roL T n).length) => hRw.pos i h)
    have FM := TW.hide (fun i (h : i < (roL T n).length) => hRw.small i h)
    have FB_ : Hid (∀ i : Nat, blw n (roL T n) (i : Int) = if i = 0 then n else (roL T n).getD (i - 1) 0) := by
      intro i
      unfold blw
      rw [Int.toNat_natCast]
      by_cases h : i = 0
      · subst h; simp
      · rw [if_neg h, if_neg (by omega)]
    have FL : Hid (∀ i at_ : Nat, laB (roL T n) (i : Int) at_ = decide (at_ + 1 = (roL T n).getD i 0)) := fun i at_ => by show _ = _; unfold laB; rw [Int.toNat_natCast]
    have FR : Hid (∀ i : Nat, rtB (roL T n) (i : Int) = decide (i + 1 = (roL T n).length)) := fun i => by show _ = _; unfold rtB; rw [Int.toNat_natCast]
    unfold trC spC at FS FH
    clear hRw hlast hne0 hv hE hr1
    generalize roL T n = R at *
    generalize hlen : R.length = len at *
    clear hlen
    obtain ⟨j, rfl⟩ : ∃ j, len = j + 1 := ⟨len - 1, by omega⟩
    rw [show j + 1 - 2 + 1 = j by omega] at hlen1
    have dl := HC.out j (by omega)
    rw [hlen1] at dl
    have wj : IntKind.i64.wrap (((j + 1 : Nat) : Int) - 1) = (j : Int) := by rw [IntKind.wrap_i64]; omega
    have hj0 : (0 : Int) ≤ (j : Int) := by omega
    have hj1 : (j : Int) < ((j + 1 : Nat) : Int) := by omega
    have hj2 : ¬ ((j + 1 : Nat) : Int) < 2 := by omega
    have hj3 : ¬ T.dp < ((j + 1 : Nat) : Int) := by omega
    have HLL := TW.hide hlen1
    clear hlen1
    go_wp2
    refine HK.out _ _ ?_
    clear HK K
    refine wp_seq_k fun K hK => ?_
    have HK := TW.hide hK
    clear hK
    go_wp2
    refine HK.out _ _ ?_
    clear HK K
    refine wp_seq_k fun K hK => ?_
    have HK := TW.hide hK
    clear hK
    go_wp2
    refine HK.out _ _ ?_
    clear HK K
    have h2 := H2.out
    simp only [natCast_succ] at h2
    have H2b := TW.hide h2
    clear h2 H2 dl wj hj0 hj1 hj2 hj3
    refine wp_seq_k fun K hK => ?_
    have HK := TW.hide hK
    clear hK
    go_wp2_with fail
    refine (H2b.out _).mono ?_
    rintro e3 w3 ⟨⟨i, hi, rfl⟩, rfl⟩
    clear H2b
    go_wp2
    refine HK.out _ _ ?_
    clear HK K
    refine wp_seq_k fun K hK => ?_
    have HK := TW.hide hK
    clear hK
    go_wp2
    refine HK.out _ _ ?_
    clear HK K
    refine wp_seq_k fun K hK => ?_
    have HK := TW.hide hK
    clear hK
    have hbl := FB_.out i
    have hq0 := FP.out i hi
    have hqs := FM.out i hi
    have dq := HC.out i hi
    have hi0 : (0 : Int) ≤ (i : Int) := by omega
    have hi1 : (i : Int) < (j : Int) + 1 := by omega
    rcases Nat.eq_zero_or_pos i with hiz | hiz
    · rw [if_pos hiz] at hbl
      have HBL := TW.hide hbl
      subst hiz
      have HIZ := TW.hide (rfl : (0 : Nat) = 0)
      clear hbl
      go_wp2
      refine HK.out _ _ ?_
      clear HK K
      refine wp_seq_k fun K hK => ?_
      have HK := TW.hide hK
      clear hK
      generalize hq : R.getD 0 0 = q at *
      have HQ := TW.hide hq
      clear hq
      have hqz : ((q : Int) == 0) = false := by simp; omega
      have hqn : ¬ (q : Int) = 0 := by omega
      go_wp2
      refine HK.out _ _ ?_
      clear HK K
      refine wp_seq_k fun K hK => ?_
      have HK := TW.hide hK
      clear hK
      have hat : (near : Int) % (q : Int) = ((near % q : Nat) : Int) := by rw [Int.natCast_emod]
      have hatl : near % q < q := Nat.mod_lt _ hq0
      have hat2 : near % q ≤ near := Nat.mod_le _ _
      generalize near % q = at_ at *
      have HAT := TW.hide hat
      clear hat
      go_wp2
      rw [HAT.out]
      refine HK.out _ _ ?_
      clear HK K
      refine wp_seq_k fun K hK => ?_
      have HK := TW.hide hK
      clear hK
      have FT1 := FT.out 0 at_ hi (by rw [HQ.out]; exact hatl)
      have HS1 := TW.hide (FS.out 0 at_ hi (by rw [HQ.out]; exact hatl))
      have HH := TW.hide (FH.out 0 at_ hi (by rw [HQ.out]; exact hatl) (by omega) (frN T R ((0 : Nat) : Int) at_) (toN T n R ((0 : Nat) : Int) at_) (laB R ((0 : Nat) : Int) at_) (rtB R ((0 : Nat) : Int)) rfl)
      have hlaq := FL.out 0 at_
      rw [HQ.out] at hlaq
      have hla : ((at_ : Int) == IntKind.u64.wrap ((q : Int) - 1)) = laB R ((0 : Nat) : Int) at_ := by
        rw [show IntKind.u64.wrap ((q : Int) - 1) = (q : Int) - 1 by rw [IntKind.wrap_u64]; omega, hlaq, Bool.eq_iff_iff]
        simp only [beq_iff_eq, decide_eq_true_eq]
        omega
      have hro : (((0 : Nat) : Int) == (j : Int)) = rtB R ((0 : Nat) : Int) := by
        rw [FR.out 0, Bool.eq_iff_iff]
        simp only [beq_iff_eq, decide_eq_true_eq]
        omega
      have FN := TW.hide (fun h => FS.out 0 (at_ + 1) hi h)
      have FT1H := TW.hide FT1
      clear FT1 hlaq FT FS FH FP FM FL FR FB_
      obtain ⟨c0, c1, c2, c3, c4, c5, c6, c7, c8⟩ := cells9 HN2.out
      have HBY : Hid (byN T ((0 : Nat) : Int) = T.lf.toNat) := by have := HIZ.out; show _ = _; unfold byN; rw [if_pos (by omega)]
      rw [HBY.out] at FT1H
      have dqx := dq
      have HAB : Hid (at_ < q) := hatl
      clear HBY HC HLL HAT hatl hat2 dq hqz hqn hq0 hi0 
      generalize hfr : frN T R ((0 : Nat) : Int) at_ = fr at *
      generalize htt : toN T n R ((0 : Nat) : Int) at_ = tt at *
      generalize hlb : laB R ((0 : Nat) : Int) at_ = la at *
      generalize rtB R ((0 : Nat) : Int) = ro at *
      generalize blw n R ((0 : Nat) : Int) = bl0 at *
      generalize frN T R ((0 : Nat) : Int) (at_ + 1) = fr3 at *
      generalize toN T n R ((0 : Nat) : Int) (at_ + 1) = tt2 at *
      generalize laB R ((0 : Nat) : Int) (at_ + 1) = la2 at *
      clear hfr htt hlb
      go_wp2_with fail
      refine (HS1.out _).mono ?_
      rintro e4 w4 ⟨rfl, hb⟩
      clear HS1 c0 c1 c2 c3 c4 c5 c6 c7 c8
      have HNa := TW.hide (blk_alloc (o' := .cells #[.int .i64 ((0 : Nat) : Int), .int .u64 at_, .int .u64 fr, .int .u64 tt, .bool la, .bool ro] 29) (blk_keep HN2.out hb))
      have HBa : Hid (Below w.heap.size w (w4.alloc (.cells #[.int .i64 ((0 : Nat) : Int), .int .u64 at_, .int .u64 fr, .int .u64 tt, .bool la, .bool ro] 29))) := (HB2.out.trans (hb.mono HB2.out.size)).alloc (by have := (HB2.out.trans (hb.mono HB2.out.size)).size; omega) _
      have G5 := TW.hide (heap_alloc_new w4 (.cells #[.int .i64 ((0 : Nat) : Int), .int .u64 at_, .int .u64 fr, .int .u64 tt, .bool la, .bool ro] 29))
      have HCV : Hid ((w4.alloc (.cells #[.int .i64 ((0 : Nat) : Int), .int .u64 at_, .int .u64 fr, .int .u64 tt, .bool la, .bool ro] 29)).cell? ⟨b1, 0, none⟩ = some (.int .u64 (q : Nat))) := (((Below.refl _ w4).alloc (Nat.le_refl _) _).cell (p := ⟨b1, 0, none⟩) (Nat.lt_of_lt_of_le (lt_of_cell dqx) hb.size)).trans ((hb.cell (p := ⟨b1, 0, none⟩) (lt_of_cell dqx)).trans dqx)
      clear hb HN2 HB2 dqx
      go_wp2
      refine HK.out _ _ ?_
      clear HK K
      generalize w4.alloc _ = V at *
      generalize w4.heap.size = g at *
      have HT0 : Hid (Below V.heap.size V V) := Below.refl _ _
      have wj2 : IntKind.i64.wrap (j : Int) = (j : Int) := by rw [IntKind.wrap_i64]; omega
      have hiz0 : (0 : Int) ≤ ((0 : Nat) : Int) := by omega
      refine wp_seq_k fun KQ hK => ?_
      have HQ1 := TW.hide hK
      clear hK
      refine wp_seq_k fun KR hK => ?_
      have HR1 := TW.hide hK
      clear hK
      refine wp_region_noPanic ?_
      refine RG.wp_region_L (fun Z => True) (fun Z => Below V.heap.size V Z) [] (by kernel_rfl) ?_
      refine RG.wpL_any fun Ytx hY => ?_
      have HTtx : Hid (Below V.heap.size V Ytx) := by rw [hY]; exact below_drewN HT0.out 1
      clear hY
      refine RG.wpL_take (fuel := 3) (a' := ?Atx) [0, 1, 2, 3, 4, 5, 6, 7, 8, 9, 10, 11, 12, 13, 14, 15, 16, 17, 18, 19, 20, 21, 22, 23, 24, 25, 26, 27, 28, 29, 30, 31, 32, 33, 34, 35, 36, 37, 38, 39] (by kernel_rfl) (by kernel_rfl) (fun _ _ _ _ _ h => h) HTtx.out (fun _ => trivial) ?rtx ?_
      case rtx =>
        refine RG.RunsIf.weak (v := ?_) (by rfl) (by rfl) (fun Z hT => ?_) ?_
        rotate_left
        · go_simp
          rfl
        simp only [Act.put, List.setIfInBounds_toArray, List.set_cons_zero, List.set_cons_succ, List.getElem_toArray, List.getElem_cons_zero, List.getElem_cons_succ]
        refine RG.RunsIf.weak (v := .bool false) (by rfl) (by rfl) (fun Z hT => ?_) ?_
        · go_simp
        simp only [Act.put, List.setIfInBounds_toArray, List.set_cons_zero, List.set_cons_succ, List.getElem_toArray, List.getElem_cons_zero, List.getElem_cons_succ]
        refine RG.RunsIf.weak (v := ?_) (by rfl) (by rfl) (fun Z hT => ?_) ?_
        rotate_left
        · go_simp
          rfl
        simp only [Act.put, List.setIfInBounds_toArray, List.set_cons_zero, List.set_cons_succ, List.getElem_toArray, List.getElem_cons_zero, List.getElem_cons_succ]
        refine RG.RunsIf.weak (v := ?_) (by rfl) (by rfl) (fun Z hT => ?_) ?_
        rotate_left
        · go_simp
          rfl
        simp only [Act.put, List.setIfInBounds_toArray, List.set_cons_zero, List.set_cons_succ, List.getElem_toArray, List.getElem_cons_zero, List.getElem_cons_succ]
        refine RG.RunsIf.weak (v := .int .i64 ((0 : Nat) : Int)) (by rfl) (by rfl) (fun Z hT => ?_) ?_
        · obtain ⟨⟨s0, s1, s2, s3, s4, s5⟩, _⟩ := cells6f (blk_keep G5.out hT)
          go_simp
        simp only [Act.put, List.setIfInBounds_toArray, List.set_cons_zero, List.set_cons_succ, List.getElem_toArray, List.getElem_cons_zero, List.getElem_cons_succ]
        refine RG.RunsIf.weak (v := ?_) (by rfl) (by rfl) (fun Z hT => ?_) ?_
        rotate_left
        · go_simp
          rfl
        simp only [Act.put, List.setIfInBounds_toArray, List.set_cons_zero, List.set_cons_succ, List.getElem_toArray, List.getElem_cons_zero, List.getElem_cons_succ]
        refine RG.RunsIf.weak (v := .bool false) (by rfl) (by rfl) (fun Z hT => ?_) ?_
        · go_simp
        simp only [Act.put, List.setIfInBounds_toArray, List.set_cons_zero, List.set_cons_succ, List.getElem_toArray, List.getElem_cons_zero, List.getElem_cons_succ]
        refine RG.RunsIf.weak (v := .bool false) (by rfl) (by rfl) (fun Z hT => ?_) ?_
        · go_simp
        simp only [Act.put, List.setIfInBounds_toArray, List.set_cons_zero, List.set_cons_succ, List.getElem_toArray, List.getElem_cons_zero, List.getElem_cons_succ]
        refine RG.RunsIf.weak (v := ?_) (by rfl) (by rfl) (fun Z hT => ?_) ?_
        rotate_left
        · go_simp
          rfl
        simp only [Act.put, List.setIfInBounds_toArray, List.set_cons_zero, List.set_cons_succ, List.getElem_toArray, List.getElem_cons_zero, List.getElem_cons_succ]
        refine RG.RunsIf.weak (v := ?_) (by rfl) (by rfl) (fun Z hT => ?_) ?_
        rotate_left
        · go_simp
          rfl
        simp only [Act.put, List.setIfInBounds_toArray, List.set_cons_zero, List.set_cons_succ, List.getElem_toArray, List.getElem_cons_zero, List.getElem_cons_succ]
        refine RG.RunsIf.weak (v := .int .u64 at_) (by rfl) (by rfl) (fun Z hT => ?_) ?_
        · obtain ⟨⟨s0, s1, s2, s3, s4, s5⟩, _⟩ := cells6f (blk_keep G5.out hT)
          go_simp
        simp only [Act.put, List.setIfInBounds_toArray, List.set_cons_zero, List.set_cons_succ, List.getElem_toArray, List.getElem_cons_zero, List.getElem_cons_succ]
        refine RG.RunsIf.weak (v := ?_) (by rfl) (by rfl) (fun Z hT => ?_) ?_
        rotate_left
        · go_simp
          rfl
        simp only [Act.put, List.setIfInBounds_toArray, List.set_cons_zero, List.set_cons_succ, List.getElem_toArray, List.getElem_cons_zero, List.getElem_cons_succ]
        refine RG.RunsIf.weak (v := .bool false) (by rfl) (by rfl) (fun Z hT => ?_) ?_
        · go_simp
        simp only [Act.put, List.setIfInBounds_toArray, List.set_cons_zero, List.set_cons_succ, List.getElem_toArray, List.getElem_cons_zero, List.getElem_cons_succ]
        refine RG.RunsIf.weak (v := .bool false) (by rfl) (by rfl) (fun Z hT => ?_) ?_
        · go_simp
        simp only [Act.put, List.setIfInBounds_toArray, List.set_cons_zero, List.set_cons_succ, List.getElem_toArray, List.getElem_cons_zero, List.getElem_cons_succ]
        refine RG.RunsIf.weak (v := ?_) (by rfl) (by rfl) (fun Z hT => ?_) ?_
        rotate_left
        · go_simp
          rfl
        simp only [Act.put, List.setIfInBounds_toArray, List.set_cons_zero, List.set_cons_succ, List.getElem_toArray, List.getElem_cons_zero, List.getElem_cons_succ]
        refine RG.RunsIf.weak (v := ?_) (by rfl) (by rfl) (fun Z hT => ?_) ?_
        rotate_left
        · go_simp
          rfl
        simp only [Act.put, List.setIfInBounds_toArray, List.set_cons_zero, List.set_cons_succ, List.getElem_toArray, List.getElem_cons_zero, List.getElem_cons_succ]
        refine RG.RunsIf.weak (v := .bool la) (by rfl) (by rfl) (fun Z hT => ?_) ?_
        · obtain ⟨⟨s0, s1, s2, s3, s4, s5⟩, _⟩ := cells6f (blk_keep G5.out hT)
          go_simp
        simp only [Act.put, List.setIfInBounds_toArray, List.set_cons_zero, List.set_cons_succ, List.getElem_toArray, List.getElem_cons_zero, List.getElem_cons_succ]
        refine RG.RunsIf.weak (v := ?_) (by rfl) (by rfl) (fun Z hT => ?_) ?_
        rotate_left
        · go_simp
          rfl
        simp only [Act.put, List.setIfInBounds_toArray, List.set_cons_zero, List.set_cons_succ, List.getElem_toArray, List.getElem_cons_zero, List.getElem_cons_succ]
        refine RG.RunsIf.weak (v := ?_) (by rfl) (by rfl) (fun Z hT => ?_) ?_
        rotate_left
        · go_simp
          rfl
        simp only [Act.put, List.setIfInBounds_toArray, List.set_cons_zero, List.set_cons_succ, List.getElem_toArray, List.getElem_cons_zero, List.getElem_cons_succ]
        refine RG.RunsIf.weak (v := ?_) (by rfl) (by rfl) (fun Z hT => ?_) ?_
        rotate_left
        · go_simp
          rfl
        simp only [Act.put, List.setIfInBounds_toArray, List.set_cons_zero, List.set_cons_succ, List.getElem_toArray, List.getElem_cons_zero, List.getElem_cons_succ]
        refine RG.RunsIf.weak (v := .pointer (some ⟨b1, 0, none⟩)) (by rfl) (by rfl) (fun Z hT => ?_) ?_
        · go_simp
        simp only [Act.put, List.setIfInBounds_toArray, List.set_cons_zero, List.set_cons_succ, List.getElem_toArray, List.getElem_cons_zero, List.getElem_cons_succ]
        refine RG.RunsIf.weak (v := .int .u64 q) (by rfl) (by rfl) (fun Z hT => ?_) ?_
        · have d := (hT.cell (p := ⟨b1, 0, none⟩) (lt_of_cell HCV.out)).trans HCV.out
          go_simp
        simp only [Act.put, List.setIfInBounds_toArray, List.set_cons_zero, List.set_cons_succ, List.getElem_toArray, List.getElem_cons_zero, List.getElem_cons_succ]
        refine RG.RunsIf.weak (v := ?_) (by rfl) (by rfl) (fun Z hT => ?_) ?_
        rotate_left
        · go_simp
          rfl
        simp only [Act.put, List.setIfInBounds_toArray, List.set_cons_zero, List.set_cons_succ, List.getElem_toArray, List.getElem_cons_zero, List.getElem_cons_succ]
        refine RG.RunsIf.weak (v := .bool la) (by rfl) (by rfl) (fun Z hT => ?_) ?_
        · go_simp
          try rw [hla]
          try rfl
          try exact hla
        simp only [Act.put, List.setIfInBounds_toArray, List.set_cons_zero, List.set_cons_succ, List.getElem_toArray, List.getElem_cons_zero, List.getElem_cons_succ]
        refine RG.RunsIf.weak (v := .bool false) (by rfl) (by rfl) (fun Z hT => ?_) ?_
        · go_simp
        simp only [Act.put, List.setIfInBounds_toArray, List.set_cons_zero, List.set_cons_succ, List.getElem_toArray, List.getElem_cons_zero, List.getElem_cons_succ]
        refine RG.RunsIf.weak (v := .bool false) (by rfl) (by rfl) (fun Z hT => ?_) ?_
        · go_simp
        simp only [Act.put, List.setIfInBounds_toArray, List.set_cons_zero, List.set_cons_succ, List.getElem_toArray, List.getElem_cons_zero, List.getElem_cons_succ]
        refine RG.RunsIf.weak (v := ?_) (by rfl) (by rfl) (fun Z hT => ?_) ?_
        rotate_left
        · go_simp
          rfl
        simp only [Act.put, List.setIfInBounds_toArray, List.set_cons_zero, List.set_cons_succ, List.getElem_toArray, List.getElem_cons_zero, List.getElem_cons_succ]
        refine RG.RunsIf.weak (v := ?_) (by rfl) (by rfl) (fun Z hT => ?_) ?_
        rotate_left
        · go_simp
          rfl
        simp only [Act.put, List.setIfInBounds_toArray, List.set_cons_zero, List.set_cons_succ, List.getElem_toArray, List.getElem_cons_zero, List.getElem_cons_succ]
        refine RG.RunsIf.weak (v := .bool ro) (by rfl) (by rfl) (fun Z hT => ?_) ?_
        · obtain ⟨⟨s0, s1, s2, s3, s4, s5⟩, _⟩ := cells6f (blk_keep G5.out hT)
          go_simp
        simp only [Act.put, List.setIfInBounds_toArray, List.set_cons_zero, List.set_cons_succ, List.getElem_toArray, List.getElem_cons_zero, List.getElem_cons_succ]
        refine RG.RunsIf.weak (v := ?_) (by rfl) (by rfl) (fun Z hT => ?_) ?_
        rotate_left
        · go_simp
          rfl
        simp only [Act.put, List.setIfInBounds_toArray, List.set_cons_zero, List.set_cons_succ, List.getElem_toArray, List.getElem_cons_zero, List.getElem_cons_succ]
        refine RG.RunsIf.weak (v := ?_) (by rfl) (by rfl) (fun Z hT => ?_) ?_
        rotate_left
        · go_simp
          rfl
        simp only [Act.put, List.setIfInBounds_toArray, List.set_cons_zero, List.set_cons_succ, List.getElem_toArray, List.getElem_cons_zero, List.getElem_cons_succ]
        refine RG.RunsIf.weak (v := ?_) (by rfl) (by rfl) (fun Z hT => ?_) ?_
        rotate_left
        · go_simp
          rfl
        simp only [Act.put, List.setIfInBounds_toArray, List.set_cons_zero, List.set_cons_succ, List.getElem_toArray, List.getElem_cons_zero, List.getElem_cons_succ]
        refine RG.RunsIf.weak (v := .int .i64 (j : Int)) (by rfl) (by rfl) (fun Z hT => ?_) ?_
        · go_simp
          try rw [wj2]
          try rfl
          try exact wj2
        simp only [Act.put, List.setIfInBounds_toArray, List.set_cons_zero, List.set_cons_succ, List.getElem_toArray, List.getElem_cons_zero, List.getElem_cons_succ]
        refine RG.RunsIf.weak (v := .bool ro) (by rfl) (by rfl) (fun Z hT => ?_) ?_
        · go_simp
          try rw [hro]
          try rfl
          try exact hro
        simp only [Act.put, List.setIfInBounds_toArray, List.set_cons_zero, List.set_cons_succ, List.getElem_toArray, List.getElem_cons_zero, List.getElem_cons_succ]
        refine RG.RunsIf.weak (v := .bool false) (by rfl) (by rfl) (fun Z hT => ?_) ?_
        · go_simp
        simp only [Act.put, List.setIfInBounds_toArray, List.set_cons_zero, List.set_cons_succ, List.getElem_toArray, List.getElem_cons_zero, List.getElem_cons_succ]
        refine RG.RunsIf.weak (v := .bool false) (by rfl) (by rfl) (fun Z hT => ?_) ?_
        · go_simp
        simp only [Act.put, List.setIfInBounds_toArray, List.set_cons_zero, List.set_cons_succ, List.getElem_toArray, List.getElem_cons_zero, List.getElem_cons_succ]
        refine RG.RunsIf.weak (v := ?_) (by rfl) (by rfl) (fun Z hT => ?_) ?_
        rotate_left
        · go_simp
          rfl
        simp only [Act.put, List.setIfInBounds_toArray, List.set_cons_zero, List.set_cons_succ, List.getElem_toArray, List.getElem_cons_zero, List.getElem_cons_succ]
        refine RG.RunsIf.weak (v := .agg #[.int .i64 T.k, .int .i64 T.d, .int .i64 T.f, .int .i64 T.dp, .int .u32 T.lf, .int .i64 T.inn, .slice T.ka T.kl T.kc, .slice T.sa T.sl T.sc, .slice T.pa T.pl T.pc]) (by rfl) (by rfl) (fun Z hT => exec_load_row' 26 _ (by rfl) w.heap.size (by rfl) 26 #[.int .i64 T.k, .int .i64 T.d, .int .i64 T.f, .int .i64 T.dp, .int .u32 T.lf, .int .i64 T.inn, .slice T.ka T.kl T.kc, .slice T.sa T.sl T.sc, .slice T.pa T.pl T.pc] (0, 0) _ (blk_keep HNa.out hT) Try.underlying26 rfl (by kernel_rfl)) ?_
        simp only [Act.put, List.setIfInBounds_toArray, List.set_cons_zero, List.set_cons_succ, List.getElem_toArray, List.getElem_cons_zero, List.getElem_cons_succ]
        refine RG.RunsIf.weak (v := ?_) (by rfl) (by rfl) (fun Z hT => ?_) ?_
        rotate_left
        · go_simp
          rfl
        simp only [Act.put, List.setIfInBounds_toArray, List.set_cons_zero, List.set_cons_succ, List.getElem_toArray, List.getElem_cons_zero, List.getElem_cons_succ]
        refine RG.RunsIf.weak (v := .agg #[.int .i64 ((0 : Nat) : Int), .int .u64 at_, .int .u64 fr, .int .u64 tt, .bool la, .bool ro]) (by rfl) (by rfl) (fun Z hT => exec_load_row' 29 _ (by rfl) g (by rfl) 29 #[.int .i64 ((0 : Nat) : Int), .int .u64 at_, .int .u64 fr, .int .u64 tt, .bool la, .bool ro] (0, 0) _ (blk_keep G5.out hT) Try.underlying29 rfl (by kernel_rfl)) ?_
        simp only [Act.put, List.setIfInBounds_toArray, List.set_cons_zero, List.set_cons_succ, List.getElem_toArray, List.getElem_cons_zero, List.getElem_cons_succ]
        exact RG.RunsIf.nil
      refine RG.wpL_stepw (i := 40) (by kernel_rfl) (by rfl) (by rfl) (fun KX hK => ?_)
      have HK := TW.hide hK
      clear hK
      go_simp
      refine (HH.out _).mono ?_
      rintro e6 w6 ⟨rfl, hb⟩
      have HT6 : Hid (Below V.heap.size V w6) := below_row HTtx.out hb HTtx.out.size
      refine HK.out _ _ HT6.out (fun _ => trivial) ?_
      clear HK KX HTtx hb
      try simp only [Act.put, List.setIfInBounds_toArray, List.set_cons_zero, List.set_cons_succ, List.getElem_toArray, List.getElem_cons_zero, List.getElem_cons_succ]
      refine RG.wpL_take (fuel := 0) (a' := ?Aux) [41, 42] (by kernel_rfl) (by kernel_rfl) (fun _ _ _ _ _ h => h) HT6.out (fun _ => trivial) ?rux ?_
      case rux =>
        refine RG.RunsIf.weak (v := ?_) (by rfl) (by rfl) (fun Z hT => ?_) ?_
        rotate_left
        · go_simp
          rfl
        simp only [Act.put, List.setIfInBounds_toArray, List.set_cons_zero, List.set_cons_succ, List.getElem_toArray, List.getElem_cons_zero, List.getElem_cons_succ]
        refine RG.RunsIf.weak (v := .bool false) (by rfl) (by rfl) (fun Z hT => ?_) ?_
        · go_simp
        simp only [Act.put, List.setIfInBounds_toArray, List.set_cons_zero, List.set_cons_succ, List.getElem_toArray, List.getElem_cons_zero, List.getElem_cons_succ]
        exact RG.RunsIf.nil
      refine RG.wpL_done (by kernel_rfl) ?_ _
      refine NoPanic.normal ?_
      refine HR1.out _ _ ?_
      clear HR1 KR
      go_wp2
      refine HQ1.out _ _ ?_
      clear HQ1
      have HN6 := TW.hide (blk_keep HNa.out HT6.out)
      have G6 := TW.hide (blk_keep G5.out HT6.out)
      have HB6 : Hid (Below w.heap.size w w6) := HBa.out.trans (HT6.out.mono HBa.out.size)
      obtain ⟨q1, q2, q3, q4, q5⟩ := FT1H.out
      rw [show bl0 = n from HBL.out] at q2
      have Q5 := TW.hide q5
      have Q2 := TW.hide q2
      have Q4 := TW.hide q4
      have hlt : ¬ (tt : Int) < (fr : Int) := by omega
      clear HT6 HNa G5 HBa FT1H HBL HT0 wj2 HCV q2 q4 q5 hla hro HH HA wn wm H1 q3
      obtain ⟨⟨s0, s1, s2, s3, s4, s5⟩, _⟩ := cells6f G6.out
      refine wp_seq_k fun K hK => ?_
      have HK := TW.hide hK
      clear hK
      by_cases hA : at_ = 0
      · have hfr0 := q1 hA
        subst hfr0
        subst hA
        have hlt2 : ¬ (tt : Int) < 0 := by omega
        clear q1 hlt
        cases la with
        | true =>
          have htt : tt = n := Q2.out (by simp)
          subst htt
          by_cases hF : tt = 0
          · have hn0 : ¬ (0 : Int) < (tt : Int) := by have := Q4.out; omega
            have hF' : ((tt : Int) == 0) = true := by simp; omega
            clear hF
            go_wp2
            all_goals
              refine HK.out _ _ ?_
              clear HK
              go_wp2
              go_ret
              exact ⟨rfl, HB6.out⟩
          · have hF' : ((tt : Int) == 0) = false := by simp; omega
            go_wp2
            all_goals
              refine HK.out _ _ ?_
              clear HK
              go_wp2
              go_ret
              exact ⟨rfl, HB6.out⟩
        | false =>
          obtain ⟨k1, k2, k3, k4⟩ := Q5.out (by simp)
          have hs2 := FN.out k1
          rw [show ((0 + 1 : Nat) : Int) = 1 from rfl] at hs2
          have HS2 := TW.hide hs2
          clear hs2
          have hF' : ((tt : Int) == 0) = false := by simp; omega
          have WD : Hid (IntKind.u64.wrap (tt : Int) = T.lf ∧ ((tt : Int) == T.lf) = true) := by refine ⟨by rw [IntKind.wrap_u64]; omega, by first | trivial | (simp; omega)⟩
          have HIZ2 : Hid (True) := trivial
          have hat64 : 0 < 18446744073709551615 := by have := HAB.out; omega
          subst k2
          clear k1 k3 k4 FN Q5 Q4 Q2
          go_wp2
          refine HK.out _ _ ?_
          clear HK K
          refine wp_seq_k fun K hK => ?_
          have HK := TW.hide hK
          clear hK
          go_wp2
          refine HK.out _ _ ?_
          clear HK K
          have wa : IntKind.u64.wrap (((0 : Nat) : Int) + 1) = (((0 : Nat) : Int) + 1) := by rw [IntKind.wrap_u64]; omega
          have wby : IntKind.u64.wrap T.lf = T.lf := by rw [IntKind.wrap_u64]; omega
          obtain ⟨c0, c1, c2, c3, c4, c5, c6, c7, c8⟩ := cells9 HN6.out
          clear s0 s1 s2 s3 s4 s5
          refine wp_seq_k fun K hK => ?_
          have HK := TW.hide hK
          clear hK
          go_wp2_with fail
          refine (HS2.out _).mono ?_
          rintro e7 w7 ⟨rfl, hb⟩
          clear c0 c1 c2 c3 c4 c5 c6 c7 c8
          have G7 := TW.hide (heap_alloc_new w7 (.cells #[.int .i64 0, .int .u64 1, .int .u64 fr3, .int .u64 tt2, .bool la2, .bool ro] 29))
          have G8 := TW.hide (blk_alloc (o' := .cells #[.int .i64 0, .int .u64 1, .int .u64 fr3, .int .u64 tt2, .bool la2, .bool ro] 29) (blk_keep G6.out hb))
          have HN7 := TW.hide (blk_alloc (o' := .cells #[.int .i64 0, .int .u64 1, .int .u64 fr3, .int .u64 tt2, .bool la2, .bool ro] 29) (blk_keep HN6.out hb))
          have HB7 : Hid (Below w.heap.size w (w7.alloc (.cells #[.int .i64 0, .int .u64 1, .int .u64 fr3, .int .u64 tt2, .bool la2, .bool ro] 29))) := (HB6.out.trans (hb.mono HB6.out.size)).alloc (by have := (HB6.out.trans (hb.mono HB6.out.size)).size; omega) _
          clear hb HN6 G6 HB6
          go_wp2
          refine HK.out _ _ ?_
          clear HK K
          generalize w7.alloc _ = V7 at *
          generalize w7.heap.size = g7 at *
          obtain ⟨c0, c1, c2, c3, c4, c5, c6, c7, c8⟩ := cells9 HN7.out
          obtain ⟨⟨s0, s1, s2, s3, s4, s5⟩, _⟩ := cells6f G8.out
          obtain ⟨⟨t0, t1, t2, t3, t4, t5⟩, _⟩ := cells6f G7.out
          obtain ⟨wd, wd2⟩ := WD.out
          have hizz := HIZ2.out
          go_wp2
          go_ret
          exact ⟨rfl, HB7.out⟩

      · have hA' : ((at_ : Int) == 0) = false := by simp; omega
        clear q1 hA
        cases la with
        | true =>
          have htt : tt = n := Q2.out (by simp)
          subst htt
          by_cases hF : tt = fr
          · have hn0 : ¬ (0 : Int) < (tt : Int) := by have := Q4.out; omega
            have hF' : ((tt : Int) == (fr : Int)) = true := by simp; omega
            clear hF
            go_wp2
            all_goals
              refine HK.out _ _ ?_
              clear HK
              go_wp2
              go_ret
              exact ⟨rfl, HB6.out⟩
          · have hF' : ((tt : Int) == (fr : Int)) = false := by simp; omega
            go_wp2
            all_goals
              refine HK.out _ _ ?_
              clear HK
              go_wp2
              go_ret
              exact ⟨rfl, HB6.out⟩
        | false =>
          obtain ⟨k1, k2, k3, k4⟩ := Q5.out (by simp)
          have hs2 := FN.out k1
          rw [show ((at_ + 1 : Nat) : Int) = (at_ : Int) + 1 from rfl] at hs2
          have HS2 := TW.hide hs2
          clear hs2
          have hF' : ((tt : Int) == (fr : Int)) = false := by simp; omega
          have WD : Hid (IntKind.u64.wrap ((tt : Int) - (fr : Int)) = T.lf ∧ True) := by refine ⟨by rw [IntKind.wrap_u64]; omega, by first | trivial | (simp; omega)⟩
          have HIZ2 : Hid (True) := trivial
          have hat64 : at_ < 18446744073709551615 := by have := HAB.out; omega
          subst k2
          clear k1 k3 k4 FN Q5 Q4 Q2
          go_wp2
          refine HK.out _ _ ?_
          clear HK K
          refine wp_seq_k fun K hK => ?_
          have HK := TW.hide hK
          clear hK
          go_wp2
          refine HK.out _ _ ?_
          clear HK K
          have wa : IntKind.u64.wrap (((at_ : Nat) : Int) + 1) = (((at_ : Nat) : Int) + 1) := by rw [IntKind.wrap_u64]; omega
          have wby : IntKind.u64.wrap T.lf = T.lf := by rw [IntKind.wrap_u64]; omega
          obtain ⟨c0, c1, c2, c3, c4, c5, c6, c7, c8⟩ := cells9 HN6.out
          clear s0 s1 s2 s3 s4 s5
          refine wp_seq_k fun K hK => ?_
          have HK := TW.hide hK
          clear hK
          go_wp2_with fail
          refine (HS2.out _).mono ?_
          rintro e7 w7 ⟨rfl, hb⟩
          clear c0 c1 c2 c3 c4 c5 c6 c7 c8
          have G7 := TW.hide (heap_alloc_new w7 (.cells #[.int .i64 0, .int .u64 ((at_ : Int) + 1), .int .u64 fr3, .int .u64 tt2, .bool la2, .bool ro] 29))
          have G8 := TW.hide (blk_alloc (o' := .cells #[.int .i64 0, .int .u64 ((at_ : Int) + 1), .int .u64 fr3, .int .u64 tt2, .bool la2, .bool ro] 29) (blk_keep G6.out hb))
          have HN7 := TW.hide (blk_alloc (o' := .cells #[.int .i64 0, .int .u64 ((at_ : Int) + 1), .int .u64 fr3, .int .u64 tt2, .bool la2, .bool ro] 29) (blk_keep HN6.out hb))
          have HB7 : Hid (Below w.heap.size w (w7.alloc (.cells #[.int .i64 0, .int .u64 ((at_ : Int) + 1), .int .u64 fr3, .int .u64 tt2, .bool la2, .bool ro] 29))) := (HB6.out.trans (hb.mono HB6.out.size)).alloc (by have := (HB6.out.trans (hb.mono HB6.out.size)).size; omega) _
          clear hb HN6 G6 HB6
          go_wp2
          refine HK.out _ _ ?_
          clear HK K
          generalize w7.alloc _ = V7 at *
          generalize w7.heap.size = g7 at *
          obtain ⟨c0, c1, c2, c3, c4, c5, c6, c7, c8⟩ := cells9 HN7.out
          obtain ⟨⟨s0, s1, s2, s3, s4, s5⟩, _⟩ := cells6f G8.out
          obtain ⟨⟨t0, t1, t2, t3, t4, t5⟩, _⟩ := cells6f G7.out
          obtain ⟨wd, wd2⟩ := WD.out
          have hizz := HIZ2.out
          go_wp2
          go_ret
          exact ⟨rfl, HB7.out⟩
    · rw [if_neg (by omega)] at hbl
      have hi2 : (0 : Int) < (i : Int) := by omega
      have hw1 : IntKind.i64.wrap ((i : Int) - 1) = ((i - 1 : Nat) : Int) := by rw [IntKind.wrap_i64]; omega
      have dp := HC.out (i - 1) (by omega)
      rw [← hbl] at dp
      have hw2 : (0 : Int) ≤ ((i - 1 : Nat) : Int) := by omega
      have hw3 : ((i - 1 : Nat) : Int) < (j : Int) + 1 := by omega
      have HBL := TW.hide (rfl : blw n R (i : Int) = blw n R (i : Int))
      have HIZ := TW.hide hiz
      clear hbl hiz
      generalize i - 1 = i' at *
      go_wp2
      refine HK.out _ _ ?_
      clear HK K
      refine wp_seq_k fun K hK => ?_
      have HK := TW.hide hK
      clear hK
      generalize hq : R.getD i 0 = q at *
      have HQ := TW.hide hq
      clear hq
      have hqz : ((q : Int) == 0) = false := by simp; omega
      have hqn : ¬ (q : Int) = 0 := by omega
      go_wp2
      refine HK.out _ _ ?_
      clear HK K
      refine wp_seq_k fun K hK => ?_
      have HK := TW.hide hK
      clear hK
      have hat : (near : Int) % (q : Int) = ((near % q : Nat) : Int) := by rw [Int.natCast_emod]
      have hatl : near % q < q := Nat.mod_lt _ hq0
      have hat2 : near % q ≤ near := Nat.mod_le _ _
      generalize near % q = at_ at *
      have HAT := TW.hide hat
      clear hat
      go_wp2
      rw [HAT.out]
      refine HK.out _ _ ?_
      clear HK K
      refine wp_seq_k fun K hK => ?_
      have HK := TW.hide hK
      clear hK
      have FT1 := FT.out i at_ hi (by rw [HQ.out]; exact hatl)
      have HS1 := TW.hide (FS.out i at_ hi (by rw [HQ.out]; exact hatl))
      have HH := TW.hide (FH.out i at_ hi (by rw [HQ.out]; exact hatl) (by omega) (frN T R (i : Int) at_) (toN T n R (i : Int) at_) (laB R (i : Int) at_) (rtB R (i : Int)) rfl)
      have hlaq := FL.out i at_
      rw [HQ.out] at hlaq
      have hla : ((at_ : Int) == IntKind.u64.wrap ((q : Int) - 1)) = laB R (i : Int) at_ := by
        rw [show IntKind.u64.wrap ((q : Int) - 1) = (q : Int) - 1 by rw [IntKind.wrap_u64]; omega, hlaq, Bool.eq_iff_iff]
        simp only [beq_iff_eq, decide_eq_true_eq]
        omega
      have hro : ((i : Int) == (j : Int)) = rtB R (i : Int) := by
        rw [FR.out i, Bool.eq_iff_iff]
        simp only [beq_iff_eq, decide_eq_true_eq]
        omega
      have FN := TW.hide (fun h => FS.out i (at_ + 1) hi h)
      have FT1H := TW.hide FT1
      clear FT1 hlaq FT FS FH FP FM FL FR FB_
      obtain ⟨c0, c1, c2, c3, c4, c5, c6, c7, c8⟩ := cells9 HN2.out
      have HBY : Hid (byN T (i : Int) = T.f.toNat) := by have := HIZ.out; show _ = _; unfold byN; rw [if_neg (by omega)]
      rw [HBY.out] at FT1H
      have dqx := dq
      have HAB : Hid (at_ < q) := hatl
      clear HBY HC HLL HAT hatl hat2 dq hqz hqn hq0 hi0 dp hw1 hw2 hw3
      generalize hfr : frN T R (i : Int) at_ = fr at *
      generalize htt : toN T n R (i : Int) at_ = tt at *
      generalize hlb : laB R (i : Int) at_ = la at *
      generalize rtB R (i : Int) = ro at *
      generalize blw n R (i : Int) = bl at *
      generalize frN T R (i : Int) (at_ + 1) = fr3 at *
      generalize toN T n R (i : Int) (at_ + 1) = tt2 at *
      generalize laB R (i : Int) (at_ + 1) = la2 at *
      clear hfr htt hlb
      go_wp2_with fail
      refine (HS1.out _).mono ?_
      rintro e4 w4 ⟨rfl, hb⟩
      clear HS1 c0 c1 c2 c3 c4 c5 c6 c7 c8
      have HNa := TW.hide (blk_alloc (o' := .cells #[.int .i64 (i : Int), .int .u64 at_, .int .u64 fr, .int .u64 tt, .bool la, .bool ro] 29) (blk_keep HN2.out hb))
      have HBa : Hid (Below w.heap.size w (w4.alloc (.cells #[.int .i64 (i : Int), .int .u64 at_, .int .u64 fr, .int .u64 tt, .bool la, .bool ro] 29))) := (HB2.out.trans (hb.mono HB2.out.size)).alloc (by have := (HB2.out.trans (hb.mono HB2.out.size)).size; omega) _
      have G5 := TW.hide (heap_alloc_new w4 (.cells #[.int .i64 (i : Int), .int .u64 at_, .int .u64 fr, .int .u64 tt, .bool la, .bool ro] 29))
      have HCV : Hid ((w4.alloc (.cells #[.int .i64 (i : Int), .int .u64 at_, .int .u64 fr, .int .u64 tt, .bool la, .bool ro] 29)).cell? ⟨b1, i, none⟩ = some (.int .u64 (q : Nat))) := (((Below.refl _ w4).alloc (Nat.le_refl _) _).cell (p := ⟨b1, i, none⟩) (Nat.lt_of_lt_of_le (lt_of_cell dqx) hb.size)).trans ((hb.cell (p := ⟨b1, i, none⟩) (lt_of_cell dqx)).trans dqx)
      clear hb HN2 HB2 dqx
      go_wp2
      refine HK.out _ _ ?_
      clear HK K
      generalize w4.alloc _ = V at *
      generalize w4.heap.size = g at *
      have HT0 : Hid (Below V.heap.size V V) := Below.refl _ _
      have wj2 : IntKind.i64.wrap (j : Int) = (j : Int) := by rw [IntKind.wrap_i64]; omega
      have hiz0 : (0 : Int) ≤ (i : Int) := by omega
      refine wp_seq_k fun KQ hK => ?_
      have HQ1 := TW.hide hK
      clear hK
      refine wp_seq_k fun KR hK => ?_
      have HR1 := TW.hide hK
      clear hK
      refine wp_region_noPanic ?_
      refine RG.wp_region_L (fun Z => True) (fun Z => Below V.heap.size V Z) [] (by kernel_rfl) ?_
      refine RG.wpL_any fun Yty hY => ?_
      have HTty : Hid (Below V.heap.size V Yty) := by rw [hY]; exact below_drewN HT0.out 1
      clear hY
      refine RG.wpL_take (fuel := 3) (a' := ?Aty) [0, 1, 2, 3, 4, 5, 6, 7, 8, 9, 10, 11, 12, 13, 14, 15, 16, 17, 18, 19, 20, 21, 22, 23, 24, 25, 26, 27, 28, 29, 30, 31, 32, 33, 34, 35, 36, 37, 38, 39] (by kernel_rfl) (by kernel_rfl) (fun _ _ _ _ _ h => h) HTty.out (fun _ => trivial) ?rty ?_
      case rty =>
        refine RG.RunsIf.weak (v := ?_) (by rfl) (by rfl) (fun Z hT => ?_) ?_
        rotate_left
        · go_simp
          rfl
        simp only [Act.put, List.setIfInBounds_toArray, List.set_cons_zero, List.set_cons_succ, List.getElem_toArray, List.getElem_cons_zero, List.getElem_cons_succ]
        refine RG.RunsIf.weak (v := .bool false) (by rfl) (by rfl) (fun Z hT => ?_) ?_
        · go_simp
        simp only [Act.put, List.setIfInBounds_toArray, List.set_cons_zero, List.set_cons_succ, List.getElem_toArray, List.getElem_cons_zero, List.getElem_cons_succ]
        refine RG.RunsIf.weak (v := ?_) (by rfl) (by rfl) (fun Z hT => ?_) ?_
        rotate_left
        · go_simp
          rfl
        simp only [Act.put, List.setIfInBounds_toArray, List.set_cons_zero, List.set_cons_succ, List.getElem_toArray, List.getElem_cons_zero, List.getElem_cons_succ]
        refine RG.RunsIf.weak (v := ?_) (by rfl) (by rfl) (fun Z hT => ?_) ?_
        rotate_left
        · go_simp
          rfl
        simp only [Act.put, List.setIfInBounds_toArray, List.set_cons_zero, List.set_cons_succ, List.getElem_toArray, List.getElem_cons_zero, List.getElem_cons_succ]
        refine RG.RunsIf.weak (v := .int .i64 (i : Int)) (by rfl) (by rfl) (fun Z hT => ?_) ?_
        · obtain ⟨⟨s0, s1, s2, s3, s4, s5⟩, _⟩ := cells6f (blk_keep G5.out hT)
          go_simp
        simp only [Act.put, List.setIfInBounds_toArray, List.set_cons_zero, List.set_cons_succ, List.getElem_toArray, List.getElem_cons_zero, List.getElem_cons_succ]
        refine RG.RunsIf.weak (v := ?_) (by rfl) (by rfl) (fun Z hT => ?_) ?_
        rotate_left
        · go_simp
          rfl
        simp only [Act.put, List.setIfInBounds_toArray, List.set_cons_zero, List.set_cons_succ, List.getElem_toArray, List.getElem_cons_zero, List.getElem_cons_succ]
        refine RG.RunsIf.weak (v := .bool false) (by rfl) (by rfl) (fun Z hT => ?_) ?_
        · go_simp
        simp only [Act.put, List.setIfInBounds_toArray, List.set_cons_zero, List.set_cons_succ, List.getElem_toArray, List.getElem_cons_zero, List.getElem_cons_succ]
        refine RG.RunsIf.weak (v := .bool false) (by rfl) (by rfl) (fun Z hT => ?_) ?_
        · go_simp
        simp only [Act.put, List.setIfInBounds_toArray, List.set_cons_zero, List.set_cons_succ, List.getElem_toArray, List.getElem_cons_zero, List.getElem_cons_succ]
        refine RG.RunsIf.weak (v := ?_) (by rfl) (by rfl) (fun Z hT => ?_) ?_
        rotate_left
        · go_simp
          rfl
        simp only [Act.put, List.setIfInBounds_toArray, List.set_cons_zero, List.set_cons_succ, List.getElem_toArray, List.getElem_cons_zero, List.getElem_cons_succ]
        refine RG.RunsIf.weak (v := ?_) (by rfl) (by rfl) (fun Z hT => ?_) ?_
        rotate_left
        · go_simp
          rfl
        simp only [Act.put, List.setIfInBounds_toArray, List.set_cons_zero, List.set_cons_succ, List.getElem_toArray, List.getElem_cons_zero, List.getElem_cons_succ]
        refine RG.RunsIf.weak (v := .int .u64 at_) (by rfl) (by rfl) (fun Z hT => ?_) ?_
        · obtain ⟨⟨s0, s1, s2, s3, s4, s5⟩, _⟩ := cells6f (blk_keep G5.out hT)
          go_simp
        simp only [Act.put, List.setIfInBounds_toArray, List.set_cons_zero, List.set_cons_succ, List.getElem_toArray, List.getElem_cons_zero, List.getElem_cons_succ]
        refine RG.RunsIf.weak (v := ?_) (by rfl) (by rfl) (fun Z hT => ?_) ?_
        rotate_left
        · go_simp
          rfl
        simp only [Act.put, List.setIfInBounds_toArray, List.set_cons_zero, List.set_cons_succ, List.getElem_toArray, List.getElem_cons_zero, List.getElem_cons_succ]
        refine RG.RunsIf.weak (v := .bool false) (by rfl) (by rfl) (fun Z hT => ?_) ?_
        · go_simp
        simp only [Act.put, List.setIfInBounds_toArray, List.set_cons_zero, List.set_cons_succ, List.getElem_toArray, List.getElem_cons_zero, List.getElem_cons_succ]
        refine RG.RunsIf.weak (v := .bool false) (by rfl) (by rfl) (fun Z hT => ?_) ?_
        · go_simp
        simp only [Act.put, List.setIfInBounds_toArray, List.set_cons_zero, List.set_cons_succ, List.getElem_toArray, List.getElem_cons_zero, List.getElem_cons_succ]
        refine RG.RunsIf.weak (v := ?_) (by rfl) (by rfl) (fun Z hT => ?_) ?_
        rotate_left
        · go_simp
          rfl
        simp only [Act.put, List.setIfInBounds_toArray, List.set_cons_zero, List.set_cons_succ, List.getElem_toArray, List.getElem_cons_zero, List.getElem_cons_succ]
        refine RG.RunsIf.weak (v := ?_) (by rfl) (by rfl) (fun Z hT => ?_) ?_
        rotate_left
        · go_simp
          rfl
        simp only [Act.put, List.setIfInBounds_toArray, List.set_cons_zero, List.set_cons_succ, List.getElem_toArray, List.getElem_cons_zero, List.getElem_cons_succ]
        refine RG.RunsIf.weak (v := .bool la) (by rfl) (by rfl) (fun Z hT => ?_) ?_
        · obtain ⟨⟨s0, s1, s2, s3, s4, s5⟩, _⟩ := cells6f (blk_keep G5.out hT)
          go_simp
        simp only [Act.put, List.setIfInBounds_toArray, List.set_cons_zero, List.set_cons_succ, List.getElem_toArray, List.getElem_cons_zero, List.getElem_cons_succ]
        refine RG.RunsIf.weak (v := ?_) (by rfl) (by rfl) (fun Z hT => ?_) ?_
        rotate_left
        · go_simp
          rfl
        simp only [Act.put, List.setIfInBounds_toArray, List.set_cons_zero, List.set_cons_succ, List.getElem_toArray, List.getElem_cons_zero, List.getElem_cons_succ]
        refine RG.RunsIf.weak (v := ?_) (by rfl) (by rfl) (fun Z hT => ?_) ?_
        rotate_left
        · go_simp
          rfl
        simp only [Act.put, List.setIfInBounds_toArray, List.set_cons_zero, List.set_cons_succ, List.getElem_toArray, List.getElem_cons_zero, List.getElem_cons_succ]
        refine RG.RunsIf.weak (v := ?_) (by rfl) (by rfl) (fun Z hT => ?_) ?_
        rotate_left
        · go_simp
          rfl
        simp only [Act.put, List.setIfInBounds_toArray, List.set_cons_zero, List.set_cons_succ, List.getElem_toArray, List.getElem_cons_zero, List.getElem_cons_succ]
        refine RG.RunsIf.weak (v := .pointer (some ⟨b1, i, none⟩)) (by rfl) (by rfl) (fun Z hT => ?_) ?_
        · go_simp
        simp only [Act.put, List.setIfInBounds_toArray, List.set_cons_zero, List.set_cons_succ, List.getElem_toArray, List.getElem_cons_zero, List.getElem_cons_succ]
        refine RG.RunsIf.weak (v := .int .u64 q) (by rfl) (by rfl) (fun Z hT => ?_) ?_
        · have d := (hT.cell (p := ⟨b1, i, none⟩) (lt_of_cell HCV.out)).trans HCV.out
          go_simp
        simp only [Act.put, List.setIfInBounds_toArray, List.set_cons_zero, List.set_cons_succ, List.getElem_toArray, List.getElem_cons_zero, List.getElem_cons_succ]
        refine RG.RunsIf.weak (v := ?_) (by rfl) (by rfl) (fun Z hT => ?_) ?_
        rotate_left
        · go_simp
          rfl
        simp only [Act.put, List.setIfInBounds_toArray, List.set_cons_zero, List.set_cons_succ, List.getElem_toArray, List.getElem_cons_zero, List.getElem_cons_succ]
        refine RG.RunsIf.weak (v := .bool la) (by rfl) (by rfl) (fun Z hT => ?_) ?_
        · go_simp
          try rw [hla]
          try rfl
          try exact hla
        simp only [Act.put, List.setIfInBounds_toArray, List.set_cons_zero, List.set_cons_succ, List.getElem_toArray, List.getElem_cons_zero, List.getElem_cons_succ]
        refine RG.RunsIf.weak (v := .bool false) (by rfl) (by rfl) (fun Z hT => ?_) ?_
        · go_simp
        simp only [Act.put, List.setIfInBounds_toArray, List.set_cons_zero, List.set_cons_succ, List.getElem_toArray, List.getElem_cons_zero, List.getElem_cons_succ]
        refine RG.RunsIf.weak (v := .bool false) (by rfl) (by rfl) (fun Z hT => ?_) ?_
        · go_simp
        simp only [Act.put, List.setIfInBounds_toArray, List.set_cons_zero, List.set_cons_succ, List.getElem_toArray, List.getElem_cons_zero, List.getElem_cons_succ]
        refine RG.RunsIf.weak (v := ?_) (by rfl) (by rfl) (fun Z hT => ?_) ?_
        rotate_left
        · go_simp
          rfl
        simp only [Act.put, List.setIfInBounds_toArray, List.set_cons_zero, List.set_cons_succ, List.getElem_toArray, List.getElem_cons_zero, List.getElem_cons_succ]
        refine RG.RunsIf.weak (v := ?_) (by rfl) (by rfl) (fun Z hT => ?_) ?_
        rotate_left
        · go_simp
          rfl
        simp only [Act.put, List.setIfInBounds_toArray, List.set_cons_zero, List.set_cons_succ, List.getElem_toArray, List.getElem_cons_zero, List.getElem_cons_succ]
        refine RG.RunsIf.weak (v := .bool ro) (by rfl) (by rfl) (fun Z hT => ?_) ?_
        · obtain ⟨⟨s0, s1, s2, s3, s4, s5⟩, _⟩ := cells6f (blk_keep G5.out hT)
          go_simp
        simp only [Act.put, List.setIfInBounds_toArray, List.set_cons_zero, List.set_cons_succ, List.getElem_toArray, List.getElem_cons_zero, List.getElem_cons_succ]
        refine RG.RunsIf.weak (v := ?_) (by rfl) (by rfl) (fun Z hT => ?_) ?_
        rotate_left
        · go_simp
          rfl
        simp only [Act.put, List.setIfInBounds_toArray, List.set_cons_zero, List.set_cons_succ, List.getElem_toArray, List.getElem_cons_zero, List.getElem_cons_succ]
        refine RG.RunsIf.weak (v := ?_) (by rfl) (by rfl) (fun Z hT => ?_) ?_
        rotate_left
        · go_simp
          rfl
        simp only [Act.put, List.setIfInBounds_toArray, List.set_cons_zero, List.set_cons_succ, List.getElem_toArray, List.getElem_cons_zero, List.getElem_cons_succ]
        refine RG.RunsIf.weak (v := ?_) (by rfl) (by rfl) (fun Z hT => ?_) ?_
        rotate_left
        · go_simp
          rfl
        simp only [Act.put, List.setIfInBounds_toArray, List.set_cons_zero, List.set_cons_succ, List.getElem_toArray, List.getElem_cons_zero, List.getElem_cons_succ]
        refine RG.RunsIf.weak (v := .int .i64 (j : Int)) (by rfl) (by rfl) (fun Z hT => ?_) ?_
        · go_simp
          try rw [wj2]
          try rfl
          try exact wj2
        simp only [Act.put, List.setIfInBounds_toArray, List.set_cons_zero, List.set_cons_succ, List.getElem_toArray, List.getElem_cons_zero, List.getElem_cons_succ]
        refine RG.RunsIf.weak (v := .bool ro) (by rfl) (by rfl) (fun Z hT => ?_) ?_
        · go_simp
          try rw [hro]
          try rfl
          try exact hro
        simp only [Act.put, List.setIfInBounds_toArray, List.set_cons_zero, List.set_cons_succ, List.getElem_toArray, List.getElem_cons_zero, List.getElem_cons_succ]
        refine RG.RunsIf.weak (v := .bool false) (by rfl) (by rfl) (fun Z hT => ?_) ?_
        · go_simp
        simp only [Act.put, List.setIfInBounds_toArray, List.set_cons_zero, List.set_cons_succ, List.getElem_toArray, List.getElem_cons_zero, List.getElem_cons_succ]
        refine RG.RunsIf.weak (v := .bool false) (by rfl) (by rfl) (fun Z hT => ?_) ?_
        · go_simp
        simp only [Act.put, List.setIfInBounds_toArray, List.set_cons_zero, List.set_cons_succ, List.getElem_toArray, List.getElem_cons_zero, List.getElem_cons_succ]
        refine RG.RunsIf.weak (v := ?_) (by rfl) (by rfl) (fun Z hT => ?_) ?_
        rotate_left
        · go_simp
          rfl
        simp only [Act.put, List.setIfInBounds_toArray, List.set_cons_zero, List.set_cons_succ, List.getElem_toArray, List.getElem_cons_zero, List.getElem_cons_succ]
        refine RG.RunsIf.weak (v := .agg #[.int .i64 T.k, .int .i64 T.d, .int .i64 T.f, .int .i64 T.dp, .int .u32 T.lf, .int .i64 T.inn, .slice T.ka T.kl T.kc, .slice T.sa T.sl T.sc, .slice T.pa T.pl T.pc]) (by rfl) (by rfl) (fun Z hT => exec_load_row' 26 _ (by rfl) w.heap.size (by rfl) 26 #[.int .i64 T.k, .int .i64 T.d, .int .i64 T.f, .int .i64 T.dp, .int .u32 T.lf, .int .i64 T.inn, .slice T.ka T.kl T.kc, .slice T.sa T.sl T.sc, .slice T.pa T.pl T.pc] (0, 0) _ (blk_keep HNa.out hT) Try.underlying26 rfl (by kernel_rfl)) ?_
        simp only [Act.put, List.setIfInBounds_toArray, List.set_cons_zero, List.set_cons_succ, List.getElem_toArray, List.getElem_cons_zero, List.getElem_cons_succ]
        refine RG.RunsIf.weak (v := ?_) (by rfl) (by rfl) (fun Z hT => ?_) ?_
        rotate_left
        · go_simp
          rfl
        simp only [Act.put, List.setIfInBounds_toArray, List.set_cons_zero, List.set_cons_succ, List.getElem_toArray, List.getElem_cons_zero, List.getElem_cons_succ]
        refine RG.RunsIf.weak (v := .agg #[.int .i64 (i : Int), .int .u64 at_, .int .u64 fr, .int .u64 tt, .bool la, .bool ro]) (by rfl) (by rfl) (fun Z hT => exec_load_row' 29 _ (by rfl) g (by rfl) 29 #[.int .i64 (i : Int), .int .u64 at_, .int .u64 fr, .int .u64 tt, .bool la, .bool ro] (0, 0) _ (blk_keep G5.out hT) Try.underlying29 rfl (by kernel_rfl)) ?_
        simp only [Act.put, List.setIfInBounds_toArray, List.set_cons_zero, List.set_cons_succ, List.getElem_toArray, List.getElem_cons_zero, List.getElem_cons_succ]
        exact RG.RunsIf.nil
      refine RG.wpL_stepw (i := 40) (by kernel_rfl) (by rfl) (by rfl) (fun KX hK => ?_)
      have HK := TW.hide hK
      clear hK
      go_simp
      refine (HH.out _).mono ?_
      rintro e6 w6 ⟨rfl, hb⟩
      have HT6 : Hid (Below V.heap.size V w6) := below_row HTty.out hb HTty.out.size
      refine HK.out _ _ HT6.out (fun _ => trivial) ?_
      clear HK KX HTty hb
      try simp only [Act.put, List.setIfInBounds_toArray, List.set_cons_zero, List.set_cons_succ, List.getElem_toArray, List.getElem_cons_zero, List.getElem_cons_succ]
      refine RG.wpL_take (fuel := 0) (a' := ?Auy) [41, 42] (by kernel_rfl) (by kernel_rfl) (fun _ _ _ _ _ h => h) HT6.out (fun _ => trivial) ?ruy ?_
      case ruy =>
        refine RG.RunsIf.weak (v := ?_) (by rfl) (by rfl) (fun Z hT => ?_) ?_
        rotate_left
        · go_simp
          rfl
        simp only [Act.put, List.setIfInBounds_toArray, List.set_cons_zero, List.set_cons_succ, List.getElem_toArray, List.getElem_cons_zero, List.getElem_cons_succ]
        refine RG.RunsIf.weak (v := .bool false) (by rfl) (by rfl) (fun Z hT => ?_) ?_
        · go_simp
        simp only [Act.put, List.setIfInBounds_toArray, List.set_cons_zero, List.set_cons_succ, List.getElem_toArray, List.getElem_cons_zero, List.getElem_cons_succ]
        exact RG.RunsIf.nil
      refine RG.wpL_done (by kernel_rfl) ?_ _
      refine NoPanic.normal ?_
      refine HR1.out _ _ ?_
      clear HR1 KR
      go_wp2
      refine HQ1.out _ _ ?_
      clear HQ1
      have HN6 := TW.hide (blk_keep HNa.out HT6.out)
      have G6 := TW.hide (blk_keep G5.out HT6.out)
      have HB6 : Hid (Below w.heap.size w w6) := HBa.out.trans (HT6.out.mono HBa.out.size)
      obtain ⟨q1, q2, q3, q4, q5⟩ := FT1H.out

      have Q5 := TW.hide q5
      have Q2 := TW.hide q2
      have Q4 := TW.hide q4
      have hlt : ¬ (tt : Int) < (fr : Int) := by omega
      clear HT6 HNa G5 HBa FT1H HBL HT0 wj2 HCV q2 q4 q5 hla hro HH HA wn wm H1 q3
      obtain ⟨⟨s0, s1, s2, s3, s4, s5⟩, _⟩ := cells6f G6.out
      refine wp_seq_k fun K hK => ?_
      have HK := TW.hide hK
      clear hK
      by_cases hA : at_ = 0
      · have hfr0 := q1 hA
        subst hfr0
        subst hA
        have hlt2 : ¬ (tt : Int) < 0 := by omega
        clear q1 hlt
        cases la with
        | true =>
          have htt : tt = bl := Q2.out (by simp)
          subst htt
          by_cases hF : tt = 0
          · have hn0 : ¬ (0 : Int) < (n : Int) := by have := Q4.out; omega
            have hF' : ((tt : Int) == 0) = true := by simp; omega
            clear hF
            go_wp2
            all_goals
              refine HK.out _ _ ?_
              clear HK
              go_wp2
              go_ret
              exact ⟨rfl, HB6.out⟩
          · have hF' : ((tt : Int) == 0) = false := by simp; omega
            go_wp2
            all_goals
              refine HK.out _ _ ?_
              clear HK
              go_wp2
              go_ret
              exact ⟨rfl, HB6.out⟩
        | false =>
          obtain ⟨k1, k2, k3, k4⟩ := Q5.out (by simp)
          have hs2 := FN.out k1
          rw [show ((0 + 1 : Nat) : Int) = 1 from rfl] at hs2
          have HS2 := TW.hide hs2
          clear hs2
          have hF' : ((tt : Int) == 0) = false := by simp; omega
          have WD : Hid (IntKind.u64.wrap (tt : Int) = T.f ∧ ((tt : Int) == T.f) = true) := by refine ⟨by rw [IntKind.wrap_u64]; omega, by first | trivial | (simp; omega)⟩
          have HIZ2 : Hid (((i : Int) == 0) = false ∧ (0 : Int) < (i : Int)) := by have := HIZ.out; exact ⟨by simp; omega, by omega⟩
          have hat64 : 0 < 18446744073709551615 := by have := HAB.out; omega
          subst k2
          clear k1 k3 k4 FN Q5 Q4 Q2
          go_wp2
          refine HK.out _ _ ?_
          clear HK K
          refine wp_seq_k fun K hK => ?_
          have HK := TW.hide hK
          clear hK
          go_wp2
          refine HK.out _ _ ?_
          clear HK K
          have wa : IntKind.u64.wrap (((0 : Nat) : Int) + 1) = (((0 : Nat) : Int) + 1) := by rw [IntKind.wrap_u64]; omega
          have wby : IntKind.u64.wrap T.f = T.f := by rw [IntKind.wrap_u64]; omega
          obtain ⟨c0, c1, c2, c3, c4, c5, c6, c7, c8⟩ := cells9 HN6.out
          clear s0 s1 s2 s3 s4 s5
          refine wp_seq_k fun K hK => ?_
          have HK := TW.hide hK
          clear hK
          go_wp2_with fail
          refine (HS2.out _).mono ?_
          rintro e7 w7 ⟨rfl, hb⟩
          clear c0 c1 c2 c3 c4 c5 c6 c7 c8
          have G7 := TW.hide (heap_alloc_new w7 (.cells #[.int .i64 (i : Int), .int .u64 1, .int .u64 fr3, .int .u64 tt2, .bool la2, .bool ro] 29))
          have G8 := TW.hide (blk_alloc (o' := .cells #[.int .i64 (i : Int), .int .u64 1, .int .u64 fr3, .int .u64 tt2, .bool la2, .bool ro] 29) (blk_keep G6.out hb))
          have HN7 := TW.hide (blk_alloc (o' := .cells #[.int .i64 (i : Int), .int .u64 1, .int .u64 fr3, .int .u64 tt2, .bool la2, .bool ro] 29) (blk_keep HN6.out hb))
          have HB7 : Hid (Below w.heap.size w (w7.alloc (.cells #[.int .i64 (i : Int), .int .u64 1, .int .u64 fr3, .int .u64 tt2, .bool la2, .bool ro] 29))) := (HB6.out.trans (hb.mono HB6.out.size)).alloc (by have := (HB6.out.trans (hb.mono HB6.out.size)).size; omega) _
          clear hb HN6 G6 HB6
          go_wp2
          refine HK.out _ _ ?_
          clear HK K
          generalize w7.alloc _ = V7 at *
          generalize w7.heap.size = g7 at *
          obtain ⟨c0, c1, c2, c3, c4, c5, c6, c7, c8⟩ := cells9 HN7.out
          obtain ⟨⟨s0, s1, s2, s3, s4, s5⟩, _⟩ := cells6f G8.out
          obtain ⟨⟨t0, t1, t2, t3, t4, t5⟩, _⟩ := cells6f G7.out
          obtain ⟨wd, wd2⟩ := WD.out
          have hizz := HIZ2.out
          go_wp2
          go_ret
          exact ⟨rfl, HB7.out⟩

      · have hA' : ((at_ : Int) == 0) = false := by simp; omega
        clear q1 hA
        cases la with
        | true =>
          have htt : tt = bl := Q2.out (by simp)
          subst htt
          by_cases hF : tt = fr
          · have hn0 : ¬ (0 : Int) < (n : Int) := by have := Q4.out; omega
            have hF' : ((tt : Int) == (fr : Int)) = true := by simp; omega
            clear hF
            go_wp2
            all_goals
              refine HK.out _ _ ?_
              clear HK
              go_wp2
              go_ret
              exact ⟨rfl, HB6.out⟩
          · have hF' : ((tt : Int) == (fr : Int)) = false := by simp; omega
            go_wp2
            all_goals
              refine HK.out _ _ ?_
              clear HK
              go_wp2
              go_ret
              exact ⟨rfl, HB6.out⟩
        | false =>
          obtain ⟨k1, k2, k3, k4⟩ := Q5.out (by simp)
          have hs2 := FN.out k1
          rw [show ((at_ + 1 : Nat) : Int) = (at_ : Int) + 1 from rfl] at hs2
          have HS2 := TW.hide hs2
          clear hs2
          have hF' : ((tt : Int) == (fr : Int)) = false := by simp; omega
          have WD : Hid (IntKind.u64.wrap ((tt : Int) - (fr : Int)) = T.f ∧ True) := by refine ⟨by rw [IntKind.wrap_u64]; omega, by first | trivial | (simp; omega)⟩
          have HIZ2 : Hid (((i : Int) == 0) = false ∧ (0 : Int) < (i : Int)) := by have := HIZ.out; exact ⟨by simp; omega, by omega⟩
          have hat64 : at_ < 18446744073709551615 := by have := HAB.out; omega
          subst k2
          clear k1 k3 k4 FN Q5 Q4 Q2
          go_wp2
          refine HK.out _ _ ?_
          clear HK K
          refine wp_seq_k fun K hK => ?_
          have HK := TW.hide hK
          clear hK
          go_wp2
          refine HK.out _ _ ?_
          clear HK K
          have wa : IntKind.u64.wrap (((at_ : Nat) : Int) + 1) = (((at_ : Nat) : Int) + 1) := by rw [IntKind.wrap_u64]; omega
          have wby : IntKind.u64.wrap T.f = T.f := by rw [IntKind.wrap_u64]; omega
          obtain ⟨c0, c1, c2, c3, c4, c5, c6, c7, c8⟩ := cells9 HN6.out
          clear s0 s1 s2 s3 s4 s5
          refine wp_seq_k fun K hK => ?_
          have HK := TW.hide hK
          clear hK
          go_wp2_with fail
          refine (HS2.out _).mono ?_
          rintro e7 w7 ⟨rfl, hb⟩
          clear c0 c1 c2 c3 c4 c5 c6 c7 c8
          have G7 := TW.hide (heap_alloc_new w7 (.cells #[.int .i64 (i : Int), .int .u64 ((at_ : Int) + 1), .int .u64 fr3, .int .u64 tt2, .bool la2, .bool ro] 29))
          have G8 := TW.hide (blk_alloc (o' := .cells #[.int .i64 (i : Int), .int .u64 ((at_ : Int) + 1), .int .u64 fr3, .int .u64 tt2, .bool la2, .bool ro] 29) (blk_keep G6.out hb))
          have HN7 := TW.hide (blk_alloc (o' := .cells #[.int .i64 (i : Int), .int .u64 ((at_ : Int) + 1), .int .u64 fr3, .int .u64 tt2, .bool la2, .bool ro] 29) (blk_keep HN6.out hb))
          have HB7 : Hid (Below w.heap.size w (w7.alloc (.cells #[.int .i64 (i : Int), .int .u64 ((at_ : Int) + 1), .int .u64 fr3, .int .u64 tt2, .bool la2, .bool ro] 29))) := (HB6.out.trans (hb.mono HB6.out.size)).alloc (by have := (HB6.out.trans (hb.mono HB6.out.size)).size; omega) _
          clear hb HN6 G6 HB6
          go_wp2
          refine HK.out _ _ ?_
          clear HK K
          generalize w7.alloc _ = V7 at *
          generalize w7.heap.size = g7 at *
          obtain ⟨c0, c1, c2, c3, c4, c5, c6, c7, c8⟩ := cells9 HN7.out
          obtain ⟨⟨s0, s1, s2, s3, s4, s5⟩, _⟩ := cells6f G8.out
          obtain ⟨⟨t0, t1, t2, t3, t4, t5⟩, _⟩ := cells6f G7.out
          obtain ⟨wd, wd2⟩ := WD.out
          have hizz := HIZ2.out
          go_wp2
          go_ret
          exact ⟨rfl, HB7.out⟩
end LW
end Go.Proofs.Ytahmjdnnkifmnaa
