/-
  The law on the edges.
-/
import Derived.Test.YtfcbhbpillbapaaEdgeL
import Derived.Test.YtfcbhbpillbapaaSh6
namespace Go.Proofs.Ytfcbhbpillbapaa
open Go.RowKit
set_option linter.unusedVariables false
set_option linter.unusedSimpArgs false
namespace LW
open Words
theorem own_len {w : World} {B : Nat} {v : Value} {l : List Nat} (h : w.ownsRow B 32 1 v l.length (us l)) : ∃ a cap, v = .slice a l.length cap := by
  rcases h.2 with ⟨rfl, h0⟩ | ⟨g, cap, cur, rfl, _⟩
  · exact ⟨none, 0, by rw [h0]⟩
  · exact ⟨_, cap, rfl⟩
theorem lvE_big {T : Tr} {n : Nat} (hv : vd T = 0) (hk : T.k ≠ 2) : lvE T n = 0 := by simp [lvE, hv, hk]
set_option maxRecDepth 100000 in
set_option maxHeartbeats 2000000 in
theorem edgesW (T : Tr) (s t : List Int) (r : Int) (w : World) (hT : 0 ≤ T.lf ∧ T.lf < 4294967296) (hx1 : T.sl = s.length) (hx2 : Lies w T.sa T.sc s) (hx3 : T.pl = t.length) (hx4 : Lies w T.pa T.pc t) (hr : (Lit.int .i64 r).wf = true) : Calls Try.prog 8 #[.agg (trC T), .int .i64 r] w fun e w' => e = .returned (.bool true) ∧ Below w.heap.size w w' := by
  clear hx1 hx2 hx3 hx4 hr
  have HM := TW.hide (fun W => most_ T hT r W)
  have HV := TW.hide (fun W => rvalid T W)
  have HA := TW.hide (fun W => awake W)
  have HS := TW.hide (fun n hn hE W => srowsOk T hT n hn hE W)
  unfold trC at *
  have n0 := heap_alloc_new w (.cells #[.int .i64 T.k, .int .i64 T.d, .int .i64 T.f, .int .i64 T.dp, .int .u32 T.lf, .int .i64 T.inn, .slice T.ka T.kl T.kc, .slice T.sa T.sl T.sc, .slice T.pa T.pl T.pc] 26)
  have hb0 := (Below.refl w.heap.size w).alloc (Nat.le_refl _) (.cells #[.int .i64 T.k, .int .i64 T.d, .int .i64 T.f, .int .i64 T.dp, .int .u32 T.lf, .int .i64 T.inn, .slice T.ka T.kl T.kc, .slice T.sa T.sl T.sc, .slice T.pa T.pl T.pc] 26)
  have HB0 := TW.hide hb0
  have HN := TW.hide n0
  clear n0 hb0
  go_enter Try.func8, Try.ntmps8
  refine wp_seq_k fun K hK => ?_
  have HK := TW.hide hK
  clear hK
  go_wp2_with fail
  refine HK.out _ _ ?_
  clear HK K
  generalize w.alloc _ = X at *
  refine wp_seq_k fun K hK => ?_
  have HK := TW.hide hK
  clear hK
  go_wp2_with fail
  refine (HA.out _).mono ?_
  rintro e1 w1 ⟨rfl, hb1⟩
  have HN1 := TW.hide (blk_keep HN.out hb1)
  have HB1 : Hid (Below w.heap.size w w1) := HB0.out.trans (hb1.mono HB0.out.size)
  clear HN HB0 hb1 HA
  go_wp2_with fail
  refine HK.out _ _ ?_
  clear HK K
  obtain ⟨c0, c1, c2, c3, c4, c5, c6, c7, c8⟩ := cells9 HN1.out
  refine wp_seq_k fun K hK => ?_
  have HK := TW.hide hK
  clear hK
  go_wp2_with fail
  refine (HM.out _).mono ?_
  rintro e2 w2 ⟨rfl, hb2⟩
  clear c0 c1 c2 c3 c4 c5 c6 c7 c8 HM
  have HN2 := TW.hide (blk_keep HN1.out hb2)
  have HB2 : Hid (Below w.heap.size w w2) := HB1.out.trans (hb2.mono HB1.out.size)
  clear HN1 HB1 hb2
  obtain ⟨c0, c1, c2, c3, c4, c5, c6, c7, c8⟩ := cells9 HN2.out
  by_cases hv : vd T = 0
  case neg =>
    rw [msR_E hv]
    have HVV := TW.hide hv
    clear HS hv
    generalize hvd : vd T = v at *
    have hv0 := HVV.out
    have hv1 : (v == 0) = false := by simp [hv0]
    have hv2 : (v != 0) = true := by simp [hv0]
    go_wp2_with fail
    refine HK.out _ _ ?_
    clear HK K
    go_wp2_with fail
    refine (HV.out _).mono ?_
    rintro e3 w3 ⟨rfl, hb3⟩
    have HB3 : Hid (Below w.heap.size w w3) := HB2.out.trans (hb3.mono HB2.out.size)
    clear HB2 hb3
    go_wp2
    go_ret
    exact ⟨rfl, HB3.out⟩
  case pos =>
    have HVV := TW.hide hv
    rw [hv] at HV
    cases ho : ou r 2 T.dp with
    | true =>
      rw [msR_o hv ho]
      simp only [ou, Bool.or_eq_true, decide_eq_true_eq] at ho
      clear hv HS
      go_wp2_with fail
      refine HK.out _ _ ?_
      clear HK K
      go_wp2_with fail
      refine (HV.out _).mono ?_
      rintro e3 w3 ⟨rfl, hb3⟩
      clear c0 c1 c2 c3 c4 c5 c6 c7 c8
      obtain ⟨c0, c1, c2, c3, c4, c5, c6, c7, c8⟩ := cells9 (blk_keep HN2.out hb3)
      have HB3 : Hid (Below w.heap.size w w3) := HB2.out.trans (hb3.mono HB2.out.size)
      clear HB2 hb3
      by_cases h1 : r < 2
      · clear ho
        go_wp2
        go_ret
        exact ⟨rfl, HB3.out⟩
      · have h2 : T.dp < r := by omega
        clear ho
        go_wp2
        go_ret
        exact ⟨rfl, HB3.out⟩
    | false =>
      have hcs : (T.f = 0 ∨ r = T.dp ∨ 18446744073709551616 ≤ msN T r) ∨ (T.f ≠ 0 ∧ r ≠ T.dp ∧ msN T r < 18446744073709551616) := by omega
      rcases hcs with hz | ⟨hf, hd, hm⟩
      · rw [msR_z hv ho hz]
        clear hv ho hz HS HV HVV
        go_wp2_with fail
        refine HK.out _ _ ?_
        clear HK K
        go_wp2
        go_ret
        exact ⟨rfl, HB2.out⟩
      · rw [msR_y hv ho hf hd hm]
        by_cases hk : T.k = 2
        · clear hv ho hf hd HS HV HVV
          generalize msN T r = n at *
          rw [hk] at c0
          go_wp2_with fail
          refine HK.out _ _ ?_
          clear HK K
          go_wp2
          go_ret
          exact ⟨rfl, HB2.out⟩
        · have hk' : (T.k == 2) = false := by simp [hk]
          have ho' := ho
          simp only [ou, Bool.or_eq_false_iff, decide_eq_false_iff_not] at ho'
          have g0 := edge0 T hT.1 r hv hf (by omega)
          have g1 := edge1 T hT.1 r hv hf (by omega) (by omega)
          have HS1 := TW.hide (HS.out (msN T r) hm (lvE_big hv hk))
          have HS2 := TW.hide (fun h => HS.out (msN T r + 1) h (lvE_big hv hk))
          unfold RoP at HS1 HS2
          have G0 := TW.hide g0
          have G1 := TW.hide g1
          have HO := TW.hide ho'
          have HDP := TW.hide (vd_ok hv).2.2.2.1
          clear g0 g1 ho' HS HV HVV hv ho hf hk
          generalize roL T (msN T r) = l0 at *
          generalize roL T (msN T r + 1) = l1 at *
          generalize msN T r = n at *
          go_wp2_with fail
          refine HK.out _ _ ?_
          clear HK K
          go_wp2_with fail
          refine (HS1.out _).mono ?_
          rintro e3 w3 ⟨v1, rfl, hown, hb3⟩
          obtain ⟨a1, cap1, rfl⟩ := own_len hown
          clear hown HS1 c0 c1 c2 c3 c4 c5 c6 c7 c8
          have HN3 := TW.hide (blk_keep HN2.out hb3)
          have HB3 : Hid (Below w.heap.size w w3) := HB2.out.trans (hb3.mono HB2.out.size)
          clear HN2 HB2 hb3
          obtain ⟨c0, c1, c2, c3, c4, c5, c6, c7, c8⟩ := cells9 HN3.out
          have g0 := G0.out
          clear G0
          generalize l0.length = m0 at *
          by_cases hn : n = 18446744073709551615
          · subst hn
            go_wp2
            go_ret
            exact ⟨rfl, HB3.out⟩
          · have hn' : ((n : Int) == 18446744073709551615) = false := by simp; omega
            have hw1 : IntKind.u64.wrap ((n : Int) + 1) = ((n + 1 : Nat) : Int) := by rw [IntKind.wrap_u64]; omega
            have HS3 := TW.hide (HS2.out (by omega))
            clear HS2
            generalize n + 1 = n1 at *
            go_wp2_with fail
            refine (HS3.out _).mono ?_
            rintro e4 w4 ⟨v2, rfl, hown, hb4⟩
            obtain ⟨a2, cap2, rfl⟩ := own_len hown
            clear hown HS3 c0 c1 c2 c3 c4 c5 c6 c7 c8
            have HB4 : Hid (Below w.heap.size w w4) := HB3.out.trans (hb4.mono HB3.out.size)
            clear HN3 HB3 hb4
            have hw2 : IntKind.i64.wrap (r + 1) = r + 1 := by have := HO.out; have := HDP.out; rw [IntKind.wrap_i64]; omega
            have G1' := TW.hide G1.out
            generalize l1.length = m1 at *
            have hg : ((m1 : Int) == r + 1) = true := by simp; exact G1'.out
            clear G1 G1'
            go_wp2
            go_ret
            exact ⟨rfl, HB4.out⟩
end LW
end Go.Proofs.Ytfcbhbpillbapaa
