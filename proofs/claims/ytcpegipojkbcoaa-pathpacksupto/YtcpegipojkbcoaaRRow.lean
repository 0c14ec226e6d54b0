/-
  What Rows of the document gives.
-/
import Derived.Test.YtcpegipojkbcoaaLeav
import Derived.Test.YtcpegipojkbcoaaSh6
namespace Go.Proofs.Ytcpegipojkbcoaa
open Go.RowKit
set_option linter.unusedVariables false
set_option linter.unusedSimpArgs false
namespace LW
open Words
theorem app_below {W w5 : World} {tmp : Obj} {B k : Nat} {v : Value} {xs : List Value} (hr : W.ownsRow B 27 1 v k xs) (hB : B ≤ W.heap.size) (hgrow : (W.alloc tmp).grownBy w5 v.ownBlock) : Below B W w5 := by
  refine ((Below.refl B W).alloc hB tmp).grown hgrow (by simp; omega) fun j ej => ?_
  rcases hr.2 with ⟨rfl, _⟩ | ⟨g, cap, cur, rfl, hb, _, _⟩
  · simp [Value.ownBlock] at ej
  · obtain rfl : g = j := by simpa [Value.ownBlock] using ej
    exact hb
theorem app_blk {W w5 : World} {z : Nat} {t e : TypeId} {cs : Array Value} {tmp : Obj} {base size k : Nat} {v : Value} {xs : List Value} (hz : W.heap[z]? = some (.cells cs t (0, 0))) (hte : t ≠ e) (hr : W.ownsRow base e size v k xs) (hgrow : (W.alloc tmp).grownBy w5 v.ownBlock) : w5.heap[z]? = some (.cells cs t (0, 0)) := by
  rw [hgrow.block z (by have := blk_lt hz; simp; omega) (row_ne hz hte hr)]
  exact (Below.heap_alloc _ _ _ (blk_lt hz)).trans hz
set_option maxRecDepth 100000 in
set_option maxHeartbeats 2000000 in
theorem rrowsE (T : Tr) (hT : 0 ≤ T.lf ∧ T.lf < 4294967296) (n : Nat) (hn : n < 18446744073709551616) (hE : lvE T n ≠ 0) (w : World) : Calls Try.prog 52 #[.agg (trC T), .int .u64 n] w fun e w' => e = .returned (.tuple #[.slice none 0 0, .int .i64 (lvE T n)]) ∧ Below w.heap.size w w' := by
  have HL := TW.hide (fun W => rleaves T hT n hn W)
  generalize lvN T n = m at *
  generalize lvE T n = v at *
  unfold trC at *
  have n0 := heap_alloc_new w (.cells #[.int .i64 T.k, .int .i64 T.d, .int .i64 T.f, .int .i64 T.dp, .int .u32 T.lf, .int .i64 T.inn, .slice T.ka T.kl T.kc, .slice T.sa T.sl T.sc, .slice T.pa T.pl T.pc] 26)
  have hb0 := (Below.refl w.heap.size w).alloc (Nat.le_refl _) (.cells #[.int .i64 T.k, .int .i64 T.d, .int .i64 T.f, .int .i64 T.dp, .int .u32 T.lf, .int .i64 T.inn, .slice T.ka T.kl T.kc, .slice T.sa T.sl T.sc, .slice T.pa T.pl T.pc] 26)
  have HB0 := TW.hide hb0
  have HN0 := TW.hide n0
  clear n0 hb0
  go_enter Try.func52, Try.ntmps52
  refine wp_seq_k fun K hK => ?_
  have HK := TW.hide hK
  clear hK
  go_wp2_with fail
  refine HK.out _ _ ?_
  clear HK K
  generalize w.alloc _ = X at *
  obtain ⟨c0, c1, c2, c3, c4, c5, c6, c7, c8⟩ := cells9 HN0.out
  go_wp2_with fail
  refine (HL.out _).mono ?_
  rintro e1 w1 ⟨rfl, hb⟩
  clear c0 c1 c2 c3 c4 c5 c6 c7 c8
  have HN1 := TW.hide (blk_keep HN0.out hb)
  have HB1 : Hid (Below w.heap.size w w1) := HB0.out.trans (hb.mono HB0.out.size)
  clear HN0 HB0 hb
  obtain ⟨c0, c1, c2, c3, c4, c5, c6, c7, c8⟩ := cells9 HN1.out
  go_wp2
  go_ret2
  exact ⟨rfl, HB1.out⟩
set_option maxRecDepth 100000 in
set_option maxHeartbeats 2000000 in
theorem rrowsOk (T : Tr) (hT : 0 ≤ T.lf ∧ T.lf < 4294967296) (n : Nat) (hn : n < 18446744073709551616) (hE : lvE T n = 0) (w : World) : Calls Try.prog 52 #[.agg (trC T), .int .u64 n] w (RoP T n w) := by
  have hv := vd_ok (lvE_ok hE)
  have hl := fun W => rleaves T hT n hn W
  unfold lvN at hl
  rw [if_pos hE, hE] at hl
  have HL := TW.hide hl
  clear hl
  have hm := lv_lt T n (by omega) hn
  obtain ⟨R, hR⟩ : ∃ R, R = RoP T n w := ⟨_, rfl⟩
  rw [← hR]
  unfold RoP roL at hR
  generalize lv T n = m at *
  have HR := TW.hide hR
  clear hR
  obtain ⟨i0, hi, hz0, hz1, hz2⟩ := info_parts u64info
  have HUP : Hid (∀ b : Nat, b < 18446744073709551616 → ¬ T.f = 0 → ∀ W, Calls Try.prog 58 #[.int .u64 b, .int .u64 T.f] W fun e w' => e = .returned (.int .u64 (up b T.f.toNat : Nat)) ∧ w' = W) := by
    intro b hb hf W
    have h := rup b T.f.toNat (by omega) hb W
    rwa [show ((T.f.toNat : Nat) : Int) = T.f by omega] at h
  have hwd : IntKind.i64.wrap (T.dp - 1) = T.dp - 1 := by rw [IntKind.wrap_i64]; omega
  have hwf : IntKind.u64.wrap T.f = T.f := by rw [IntKind.wrap_u64]; omega
  have HV := TW.hide hv
  clear hv hE
  unfold trC at *
  have n0 := heap_alloc_new w (.cells #[.int .i64 T.k, .int .i64 T.d, .int .i64 T.f, .int .i64 T.dp, .int .u32 T.lf, .int .i64 T.inn, .slice T.ka T.kl T.kc, .slice T.sa T.sl T.sc, .slice T.pa T.pl T.pc] 26)
  have hb0 := (Below.refl w.heap.size w).alloc (Nat.le_refl _) (.cells #[.int .i64 T.k, .int .i64 T.d, .int .i64 T.f, .int .i64 T.dp, .int .u32 T.lf, .int .i64 T.inn, .slice T.ka T.kl T.kc, .slice T.sa T.sl T.sc, .slice T.pa T.pl T.pc] 26)
  have HB0 := TW.hide hb0
  have HN0 := TW.hide n0
  clear n0 hb0
  go_enter Try.func52, Try.ntmps52
  refine wp_seq_k fun K hK => ?_
  have HK := TW.hide hK
  clear hK
  go_wp2_with fail
  refine HK.out _ _ ?_
  clear HK K
  generalize w.alloc _ = X at *
  obtain ⟨c0, c1, c2, c3, c4, c5, c6, c7, c8⟩ := cells9 HN0.out
  refine wp_seq_k fun K hK => ?_
  have HK := TW.hide hK
  clear hK
  go_wp2_with fail
  refine (HL.out _).mono ?_
  rintro e1 w1 ⟨rfl, hb⟩
  clear c0 c1 c2 c3 c4 c5 c6 c7 c8
  have HN1 := TW.hide (blk_keep HN0.out hb)
  have HB1 : Hid (Below w.heap.size w w1) := HB0.out.trans (hb.mono HB0.out.size)
  clear HN0 HB0 hb
  obtain ⟨c0, c1, c2, c3, c4, c5, c6, c7, c8⟩ := cells9 HN1.out
  go_wp2
  refine HK.out _ _ ?_
  clear HK K
  refine wp_seq_k fun K hK => ?_
  have HK := TW.hide hK
  clear hK
  go_wp2
  refine HK.out _ _ ?_
  clear HK K
  refine wp_seq_k fun K hK => ?_
  have HK := TW.hide hK
  clear hK
  go_wp2
  refine HK.out _ _ ?_
  clear HK K
  have o1 : (w1.alloc (.cells #[.int .u64 m] 27)).ownsRow w.heap.size 27 1 (.slice (some ⟨w1.heap.size, 0, none⟩) 1 1) 1 (us [m]) :=
    ⟨rfl, .inr ⟨w1.heap.size, 1, #[.int .u64 m], rfl, HB1.out.size, heap_alloc_new _ _, Nat.le_refl _, by simp [maxLen], rfl, rfl⟩⟩
  have n2 := blk_alloc (o' := .cells #[.int .u64 m] 27) HN1.out
  have b2 := HB1.out.alloc HB1.out.size (.cells #[.int .u64 m] 27)
  have O1 := TW.hide o1
  have HN2 := TW.hide n2
  have HB2 := TW.hide b2
  clear o1 n2 b2 HN1 HB1 c0 c1 c2 c3 c4 c5 c6 c7 c8
  generalize w1.alloc _ = Y at *
  generalize w1.heap.size = g1 at *
  refine wp_seq_k fun K hK => ?_
  have HK := TW.hide hK
  clear hK
  go_wp2
  go_loopw [6, 8, 9] (fun q v r wr => ∃ (p i : Nat) (pre : List Nat) (g cap : Nat), q = .int .u64 (p : Int) ∧ v = .slice (some ⟨g, 0, none⟩) pre.length cap ∧ r = .int .i64 (i : Int) ∧ 1 ≤ i ∧ (i : Int) ≤ T.dp ∧ p < 18446744073709551616 ∧ pre.length = i ∧ m :: ab T.f T.dp (T.dp.toNat - 1) 1 m = pre ++ ab T.f T.dp (T.dp.toNat - i) i p ∧ wr.ownsRow w.heap.size 27 1 (.slice (some ⟨g, 0, none⟩) pre.length cap) pre.length (us pre) ∧ wr.heap[w.heap.size]? = some (.cells #[.int .i64 T.k, .int .i64 T.d, .int .i64 T.f, .int .i64 T.dp, .int .u32 T.lf, .int .i64 T.inn, .slice T.ka T.kl T.kc, .slice T.sa T.sl T.sc, .slice T.pa T.pl T.pc] 26 (0, 0)) ∧ Below w.heap.size w wr)
    (fun q v r wr => T.dp.toNat - (intOf r).toNat)
  case atStart =>
    exact ⟨m, 1, [m], g1, 1, rfl, rfl, rfl, by omega, by have := HV.out; omega, hm, rfl, rfl, O1.out, HN2.out, HB2.out⟩
  case round =>
    obtain ⟨p, i, pre, g, cap, rfl, rfl, rfl, hi1, hi2, hp, hpl, hx, hown, hn2, hB⟩ := hrel
    obtain ⟨c0, c1, c2, c3, c4, c5, c6, c7, c8⟩ := cells9 hn2
    have HN := TW.hide hn2
    have HB := TW.hide hB
    have HO := TW.hide hown
    have HX := TW.hide hx
    clear hn2 hB hown hx
    have HPL := TW.hide hpl
    clear hpl
    by_cases hlt : (i : Int) < T.dp
    · have hab : ab T.f T.dp (T.dp.toNat - i) i p = nx T.f T.dp i p :: if nx T.f T.dp i p = 1 then [] else ab T.f T.dp (T.dp.toNat - (i + 1)) (i + 1) (nx T.f T.dp i p) := by
        rw [show T.dp.toNat - i = (T.dp.toNat - (i + 1)) + 1 by omega]
        rfl
      have hnl := nx_lt (dp := T.dp) (r := (i : Int)) HV.out.2.1 hp
      by_cases hf : T.f = 0
      · rw [show nx T.f T.dp i p = 1 by unfold nx; rw [if_pos (.inl hf)], if_pos rfl] at hab
        have hf' : (T.f == 0) = true := by simp [hf]
        clear hf hnl hi1 hi2
        go_wp2_with (at_builtin; refine wpList_append_own _ rfl _ _ 105 rfl w.heap.size 27 i0 (.int .u64 0) 1 8 Try.underlying105 hi hz0 hz1 hz2 rfl (by decide) _ _ _ rfl (HO.out.alloc _) ⟨wr.heap.size, 0, none⟩ 1 1 [.int .u64 1] rfl rfl (cell_one_new _ _ _) (by simp [Value.oneCell']) (by have := HPL.out; have := HV.out; simp [maxLen]; omega) (by have := HPL.out; have := HV.out; omega) (by have := HB.out.size; simp; omega) ?_; intro v' w5 hown' hgrow _; obtain ⟨g', cap', rfl⟩ := ownsRow_succ hown'; have HO5 := TW.hide hown'; have HG5 := TW.hide hgrow; clear hown' hgrow)
        have HN5 := TW.hide (app_blk HN.out (by decide) HO.out HG5.out)
        have HB5 : Hid (Below w.heap.size w w5) := HB.out.trans (app_below HO.out HB.out.size HG5.out)
        clear HG5
        refine HK.out _ _ ?_
        clear HK
        go_wp2
        rw [HR.out]
        refine ⟨_, rfl, ?_, HB5.out⟩
        have e : m :: ab T.f T.dp (T.dp.toNat - 1) 1 m = pre ++ [1] := by rw [HX.out, hab]
        rw [e, us_snoc, List.length_append]
        exact HO5.out
      · have hf' : (T.f == 0) = false := by simp [hf]
        by_cases hd : (i : Int) = T.dp - 1
        · rw [show nx T.f T.dp i p = 1 by unfold nx; rw [if_pos (.inr hd)], if_pos rfl] at hab
          have hd' : ((i : Int) == T.dp - 1) = true := by simp [hd]
          clear hd hnl hi1 hi2 hf
          go_wp2_with (at_builtin; refine wpList_append_own _ rfl _ _ 105 rfl w.heap.size 27 i0 (.int .u64 0) 1 8 Try.underlying105 hi hz0 hz1 hz2 rfl (by decide) _ _ _ rfl (HO.out.alloc _) ⟨wr.heap.size, 0, none⟩ 1 1 [.int .u64 1] rfl rfl (cell_one_new _ _ _) (by simp [Value.oneCell']) (by have := HPL.out; have := HV.out; simp [maxLen]; omega) (by have := HPL.out; have := HV.out; omega) (by have := HB.out.size; simp; omega) ?_; intro v' w5 hown' hgrow _; obtain ⟨g', cap', rfl⟩ := ownsRow_succ hown'; have HO5 := TW.hide hown'; have HG5 := TW.hide hgrow; clear hown' hgrow)
          have HN5 := TW.hide (app_blk HN.out (by decide) HO.out HG5.out)
          have HB5 : Hid (Below w.heap.size w w5) := HB.out.trans (app_below HO.out HB.out.size HG5.out)
          clear HG5
          refine HK.out _ _ ?_
          clear HK
          go_wp2
          rw [HR.out]
          refine ⟨_, rfl, ?_, HB5.out⟩
          have e : m :: ab T.f T.dp (T.dp.toNat - 1) 1 m = pre ++ [1] := by rw [HX.out, hab]
          rw [e, us_snoc, List.length_append]
          exact HO5.out
        · have hd' : ((i : Int) == T.dp - 1) = false := by simp [hd]
          have HC := TW.hide (fun W => HUP.out p hp hf W)
          have en : nx T.f T.dp i p = up p T.f.toNat := by unfold nx; rw [if_neg (by omega)]
          rw [en] at hab hnl
          clear en
          generalize up p T.f.toNat = u at *
          clear hf hd
          go_wp2_with fail
          refine (HC.out _).mono ?_
          rintro e6 w6 ⟨rfl, rfl⟩
          clear HC
          by_cases hu : u = 1
          · subst hu
            rw [if_pos rfl] at hab
            clear hnl hi1 hi2
            go_wp2_with (at_builtin; refine wpList_append_own _ rfl _ _ 105 rfl w.heap.size 27 i0 (.int .u64 0) 1 8 Try.underlying105 hi hz0 hz1 hz2 rfl (by decide) _ _ _ rfl (HO.out.alloc _) ⟨w6.heap.size, 0, none⟩ 1 1 [.int .u64 1] rfl rfl (cell_one_new _ _ _) (by simp [Value.oneCell']) (by have := HPL.out; have := HV.out; simp [maxLen]; omega) (by have := HPL.out; have := HV.out; omega) (by have := HB.out.size; simp; omega) ?_; intro v' w5 hown' hgrow _; obtain ⟨g', cap', rfl⟩ := ownsRow_succ hown'; have HO5 := TW.hide hown'; have HG5 := TW.hide hgrow; clear hown' hgrow)
            have HN5 := TW.hide (app_blk HN.out (by decide) HO.out HG5.out)
            have HB5 : Hid (Below w.heap.size w w5) := HB.out.trans (app_below HO.out HB.out.size HG5.out)
            clear HG5
            refine HK.out _ _ ?_
            clear HK
            go_wp2
            rw [HR.out]
            refine ⟨_, rfl, ?_, HB5.out⟩
            have e : m :: ab T.f T.dp (T.dp.toNat - 1) 1 m = pre ++ [1] := by rw [HX.out, hab]
            rw [e, us_snoc, List.length_append]
            exact HO5.out
          · rw [if_neg hu] at hab
            have hu' : ((u : Int) == 1) = false := by simp; omega
            have hw1 : IntKind.i64.wrap ((i : Int) + 1) = ((i + 1 : Nat) : Int) := by rw [IntKind.wrap_i64]; have := HV.out; omega
            go_wp2_with (at_builtin; refine wpList_append_own _ rfl _ _ 105 rfl w.heap.size 27 i0 (.int .u64 0) 1 8 Try.underlying105 hi hz0 hz1 hz2 rfl (by decide) _ _ _ rfl (HO.out.alloc _) ⟨w6.heap.size, 0, none⟩ 1 1 [.int .u64 u] rfl rfl (cell_one_new _ _ _) (by simp [Value.oneCell']) (by have := HPL.out; have := HV.out; simp [maxLen]; omega) (by have := HPL.out; have := HV.out; omega) (by have := HB.out.size; simp; omega) ?_; intro v' w5 hown' hgrow _; obtain ⟨g', cap', rfl⟩ := ownsRow_succ hown'; have HO5 := TW.hide hown'; have HG5 := TW.hide hgrow; clear hown' hgrow)
            have HN5 := TW.hide (app_blk HN.out (by decide) HO.out HG5.out)
            have HB5 : Hid (Below w.heap.size w w5) := HB.out.trans (app_below HO.out HB.out.size HG5.out)
            clear HG5
            go_wp2
            go_roundw
            case rel =>
              have e : m :: ab T.f T.dp (T.dp.toNat - 1) 1 m = (pre ++ [u]) ++ ab T.f T.dp (T.dp.toNat - (i + 1)) (i + 1) u := by rw [HX.out, hab]; simp
              have hO5 := HO5.out
              have hp1 : (pre ++ [u]).length = pre.length + 1 := by simp
              refine ⟨u, i + 1, pre ++ [u], g', cap', rfl, by rw [hp1], rfl, by omega, by omega, hnl, by rw [hp1, HPL.out], e, ?_, HN5.out, HB5.out⟩
              rw [us_snoc, hp1]
              exact hO5
            case measure => simp [intOf]; omega
    · have hab : ab T.f T.dp (T.dp.toNat - i) i p = [] := by
        rw [show T.dp.toNat - i = 0 by omega]
        rfl
      go_wp2
      refine HK.out _ _ ?_
      clear HK
      go_wp2
      rw [HR.out]
      refine ⟨_, rfl, ?_, HB.out⟩
      have e : m :: ab T.f T.dp (T.dp.toNat - 1) 1 m = pre := by rw [HX.out, hab]; simp
      rw [e]
      exact HO.out
end LW
end Go.Proofs.Ytcpegipojkbcoaa
