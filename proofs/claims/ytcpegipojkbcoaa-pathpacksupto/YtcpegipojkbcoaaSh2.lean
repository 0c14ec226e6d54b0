/-
  What Valid gives, the program's and the document's: the same number, for all trees.
-/
import Derived.Test.YtcpegipojkbcoaaSh1
namespace Go.Proofs.Ytcpegipojkbcoaa
open Go.RowKit
set_option linter.unusedVariables false
set_option linter.unusedSimpArgs false
namespace LW
open Words
/-- A tree: its numbers, and of each list of bytes where it lies and how long it is. -/
structure Tr where
  k : Int
  d : Int
  f : Int
  dp : Int
  lf : Int
  inn : Int
  ka : Option Addr
  kl : Nat
  kc : Nat
  sa : Option Addr
  sl : Nat
  sc : Nat
  pa : Option Addr
  pl : Nat
  pc : Nat
/-- Its cells. -/
def trL (T : Tr) : List Value := [.int .i64 T.k, .int .i64 T.d, .int .i64 T.f, .int .i64 T.dp, .int .u32 T.lf, .int .i64 T.inn, .slice T.ka T.kl T.kc, .slice T.sa T.sl T.sc, .slice T.pa T.pl T.pc]
def trC (T : Tr) : Array Value := #[.int .i64 T.k, .int .i64 T.d, .int .i64 T.f, .int .i64 T.dp, .int .u32 T.lf, .int .i64 T.inn, .slice T.ka T.kl T.kc, .slice T.sa T.sl T.sc, .slice T.pa T.pl T.pc]
/-- What Valid answers. -/
def vd (T : Tr) : Int :=
  if ke T.k ≠ 0 then 1
  else if ou T.d 1 (mo T.k) || ou T.inn 1 (mo T.k) || (T.f != 0 && ou T.f 2 255) || ou T.dp 2 255 || T.lf == 0 then 90
  else if mo T.k < (T.kl : Int) then 8
  else if !fi T.k T.sl || !fi T.k T.pl then 90 else 0
theorem cells9 {w : World} {b : Nat} {t : TypeId} {v0 v1 v2 v3 v4 v5 v6 v7 v8 : Value} (h : w.heap[b]? = some (.cells #[v0, v1, v2, v3, v4, v5, v6, v7, v8] t (0, 0))) :
    w.cell? ⟨b, 0, none⟩ = some v0 ∧ w.cell? ⟨b, 1, none⟩ = some v1 ∧ w.cell? ⟨b, 2, none⟩ = some v2 ∧ w.cell? ⟨b, 3, none⟩ = some v3 ∧ w.cell? ⟨b, 4, none⟩ = some v4 ∧ w.cell? ⟨b, 5, none⟩ = some v5 ∧ w.cell? ⟨b, 6, none⟩ = some v6 ∧ w.cell? ⟨b, 7, none⟩ = some v7 ∧ w.cell? ⟨b, 8, none⟩ = some v8 := by
  simp [World.cell?, h]
/-- What the kinds say. -/
theorem kms (k : Int) : (ke k ≠ 0 ∧ mo k = 0) ∨ (ke k = 0 ∧ mo k ≠ 0 ∧ (if k = 2 then (8 : Int) else 16) = mo k / 4) := by
  rcases kinds k with rfl | rfl | ⟨h1, h2⟩
  · simp [ke, mo]
  · simp [ke, mo]
  · simp [ke, mo, h1, h2]
set_option maxHeartbeats 2000000 in
theorem valid (T : Tr) (w : World) : Calls Try.prog 23 #[.agg (trC T)] w fun e w' => e = .returned (.int .i64 (vd T)) ∧ Below w.heap.size w w' := by
  obtain ⟨k, d, f, dp, lf, inn, ka, kl, kc, sa, sl, sc, pa, pl, pc⟩ := T
  unfold trC vd
  dsimp only
  have HM := TW.hide (fun W => most k W)
  have H1 := TW.hide (fun W => outside d 1 (mo k) W)
  have H2 := TW.hide (fun W => outside inn 1 (mo k) W)
  have H3 := TW.hide (fun W => outside f 2 255 W)
  have H4 := TW.hide (fun W => outside dp 2 255 W)
  have H5 := TW.hide (fun W => fills k sa sl sc W)
  have H6 := TW.hide (fun W => fills k pa pl pc W)
  generalize mo k = m at *
  generalize ke k = e at *
  generalize ou d 1 m = q1 at *
  generalize ou inn 1 m = q2 at *
  generalize ou f 2 255 = q3 at *
  generalize ou dp 2 255 = q4 at *
  generalize fi k sl = q5 at *
  generalize fi k pl = q6 at *
  generalize hq7 : (lf == 0) = q7 at *
  generalize hq8 : (f != 0) = q8 at *
  have n0 := heap_alloc_new w (.cells #[.int .i64 k, .int .i64 d, .int .i64 f, .int .i64 dp, .int .u32 lf, .int .i64 inn, .slice ka kl kc, .slice sa sl sc, .slice pa pl pc] 26)
  have hb := (Below.refl w.heap.size w).alloc (Nat.le_refl _) (.cells #[.int .i64 k, .int .i64 d, .int .i64 f, .int .i64 dp, .int .u32 lf, .int .i64 inn, .slice ka kl kc, .slice sa sl sc, .slice pa pl pc] 26)
  have HN := TW.hide n0
  have HB := TW.hide hb
  clear n0 hb
  go_enter Try.func23, Try.ntmps23
  go_wp2_with fail
  refine (HM.out _).mono ?_
  rintro e1 w1 ⟨rfl, hb1⟩
  have hN := HN.out
  have hB := HB.out
  have HX : Hid (Below w.heap.size w w1) := hB.trans (hb1.mono (by simp))
  obtain ⟨c0, c1, c2, c3, c4, c5, c6, c7, c8⟩ := cells9 (blk_keep hN hb1)
  clear hN hB HN HB hb1
  by_cases he : e = 0
  · subst he
    go_wp2_with fail
    refine (H1.out _).mono ?_
    rintro e2 w2 ⟨rfl, rfl⟩
    cases q1 with
    | true =>
      go_wp2
      go_ret
      exact ⟨rfl, HX.out⟩
    | false =>
      go_wp2_with fail
      refine (H2.out _).mono ?_
      rintro e2 w2 ⟨rfl, rfl⟩
      cases q2 with
      | true =>
        go_wp2
        go_ret
        exact ⟨rfl, HX.out⟩
      | false =>
        cases q8 with
        | false =>
          go_wp2_with fail
          refine (H4.out _).mono ?_
          rintro e2 w2 ⟨rfl, rfl⟩
          cases q4 with
          | true =>
            go_wp2
            go_ret
            exact ⟨rfl, HX.out⟩
          | false =>
            cases q7 with
            | true =>
              go_wp2
              go_ret
              exact ⟨rfl, HX.out⟩
            | false =>
              by_cases hk : m < (kl : Int)
              · skip
                go_wp2
                go_ret
                exact ⟨rfl, HX.out⟩
              · skip
                go_wp2_with fail
                refine (H5.out _).mono ?_
                rintro e2 w2 ⟨rfl, rfl⟩
                cases q5 with
                | false =>
                  go_wp2
                  go_ret
                  exact ⟨rfl, HX.out⟩
                | true =>
                  go_wp2_with fail
                  refine (H6.out _).mono ?_
                  rintro e2 w2 ⟨rfl, rfl⟩
                  cases q6 with
                  | false =>
                    go_wp2
                    go_ret
                    exact ⟨rfl, HX.out⟩
                  | true =>
                    go_wp2
                    go_ret
                    exact ⟨rfl, HX.out⟩
        | true =>
          go_wp2_with fail
          refine (H3.out _).mono ?_
          rintro e2 w2 ⟨rfl, rfl⟩
          cases q3 with
          | true =>
            go_wp2
            go_ret
            exact ⟨rfl, HX.out⟩
          | false =>
            go_wp2_with fail
            refine (H4.out _).mono ?_
            rintro e2 w2 ⟨rfl, rfl⟩
            cases q4 with
            | true =>
              go_wp2
              go_ret
              exact ⟨rfl, HX.out⟩
            | false =>
              cases q7 with
              | true =>
                go_wp2
                go_ret
                exact ⟨rfl, HX.out⟩
              | false =>
                by_cases hk : m < (kl : Int)
                · skip
                  go_wp2
                  go_ret
                  exact ⟨rfl, HX.out⟩
                · skip
                  go_wp2_with fail
                  refine (H5.out _).mono ?_
                  rintro e2 w2 ⟨rfl, rfl⟩
                  cases q5 with
                  | false =>
                    go_wp2
                    go_ret
                    exact ⟨rfl, HX.out⟩
                  | true =>
                    go_wp2_with fail
                    refine (H6.out _).mono ?_
                    rintro e2 w2 ⟨rfl, rfl⟩
                    cases q6 with
                    | false =>
                      go_wp2
                      go_ret
                      exact ⟨rfl, HX.out⟩
                    | true =>
                      go_wp2
                      go_ret
                      exact ⟨rfl, HX.out⟩
  · skip
    go_wp2
    go_ret
    exact ⟨rfl, HX.out⟩
/-- What the document's Valid answers. -/
def rvd (e : Int) (a1 a2 a3 a4 a5 b1 b2 b3 b4 b5 b6 d1 d2 d3 d4 : Bool) : Int :=
  if a1 || a2 || a3 || a4 || a5 then 90 else if b1 || b2 || b3 || b4 || b5 then 90 else if b6 then 8 else if (d1 && d2) || (d3 && d4) then 90 else 0
theorem vd_eq (T : Tr) : vd T = if ke T.k ≠ 0 then 1 else rvd 0 (decide (T.d < 1)) (decide (mo T.k < T.d)) (decide (T.inn < 1)) (decide (mo T.k < T.inn)) (T.lf == 0) (decide (T.f < 0)) (T.f == 1) (decide (255 < T.f)) (decide (T.dp < 2)) (decide (255 < T.dp)) (decide (mo T.k < (T.kl : Int))) ((T.sl : Int) != 0) ((T.sl : Int) != mo T.k / 4) ((T.pl : Int) != 0) ((T.pl : Int) != mo T.k / 4) := by
  rcases kms T.k with ⟨h1, h2⟩ | ⟨h1, h2, h3⟩
  · simp [vd, h1]
  · have e1 : (T.f != 0 && ou T.f 2 255) = (decide (T.f < 0) || T.f == 1 || decide (255 < T.f)) := by
      unfold ou
      rw [Bool.eq_iff_iff]
      simp only [Bool.and_eq_true, Bool.or_eq_true, decide_eq_true_eq, bne_iff_ne, beq_iff_eq]
      omega
    simp only [vd, rvd, fi, h1, h3, e1]
    unfold ou
    simp only [ne_eq, not_true_eq_false, if_false]
    generalize decide (T.d < 1) = x1
    generalize decide (mo T.k < T.d) = x2
    generalize decide (T.inn < 1) = x3
    generalize decide (mo T.k < T.inn) = x4
    generalize (T.lf == 0) = x5
    generalize decide (T.f < 0) = x6
    generalize (T.f == 1) = x7
    generalize decide (255 < T.f) = x8
    generalize decide (T.dp < 2) = x9
    generalize decide (255 < T.dp) = x10
    have s1 : ((T.sl : Int) == 0 || (T.sl : Int) == mo T.k / 4) = !((T.sl : Int) != 0 && (T.sl : Int) != mo T.k / 4) := by simp [bne]
    have s2 : ((T.pl : Int) == 0 || (T.pl : Int) == mo T.k / 4) = !((T.pl : Int) != 0 && (T.pl : Int) != mo T.k / 4) := by simp [bne]
    rw [s1, s2]
    generalize ((T.sl : Int) != 0 && (T.sl : Int) != mo T.k / 4) = y1
    generalize ((T.pl : Int) != 0 && (T.pl : Int) != mo T.k / 4) = y2
    rw [show (x1 || x2 || (x3 || x4) || (x6 || x7 || x8) || (x9 || x10) || x5) = ((x1 || x2 || x3 || x4 || x5) || (x6 || x7 || x8 || x9 || x10)) by
      cases x1 <;> cases x2 <;> cases x3 <;> cases x4 <;> cases x5 <;> simp [Bool.or_assoc]]
    generalize (x1 || x2 || x3 || x4 || x5) = z1
    generalize (x6 || x7 || x8 || x9 || x10) = z2
    cases z1 <;> cases z2 <;> cases y1 <;> cases y2 <;> simp
set_option maxHeartbeats 2000000 in
theorem rvalid (T : Tr) (w : World) : Calls Try.prog 30 #[.agg (trC T)] w fun e w' => e = .returned (.int .i64 (vd T)) ∧ Below w.heap.size w w' := by
  rw [vd_eq]
  obtain ⟨k, d, f, dp, lf, inn, ka, kl, kc, sa, sl, sc, pa, pl, pc⟩ := T
  unfold trC
  dsimp only
  have HM := TW.hide (fun W => rsizes k W)
  have hkm := kms k
  generalize (if k = 2 then (8 : Int) else 16) = q at *
  generalize mo k = m at *
  generalize m / 4 = r at *
  generalize ke k = e at *
  have n0 := heap_alloc_new w (.cells #[.int .i64 k, .int .i64 d, .int .i64 f, .int .i64 dp, .int .u32 lf, .int .i64 inn, .slice ka kl kc, .slice sa sl sc, .slice pa pl pc] 26)
  have hb := (Below.refl w.heap.size w).alloc (Nat.le_refl _) (.cells #[.int .i64 k, .int .i64 d, .int .i64 f, .int .i64 dp, .int .u32 lf, .int .i64 inn, .slice ka kl kc, .slice sa sl sc, .slice pa pl pc] 26)
  have HX := TW.hide hb
  clear hb
  obtain ⟨c0, c1, c2, c3, c4, c5, c6, c7, c8⟩ := cells9 n0
  clear n0
  go_enter Try.func30, Try.ntmps30
  refine wp_seq_k fun K hK => ?_
  have HK := TW.hide hK
  clear hK
  go_wp2_with fail
  refine HK.out _ _ ?_
  clear HK
  refine wp_seq_k fun K hK => ?_
  have HK := TW.hide hK
  clear hK
  go_wp2_with fail
  refine (HM.out _).mono ?_
  rintro e1 w1 ⟨rfl, rfl⟩
  clear HM
  generalize w.alloc _ = X at *
  go_wp2_with fail
  refine HK.out _ _ ?_
  clear HK
  rcases hkm with ⟨he, rfl⟩ | ⟨rfl, hm, hr⟩
  · go_wp2
    go_ret
    exact ⟨by simp [he], HX.out⟩
  · refine wp_seq_k fun K hK => ?_
    have HK := TW.hide hK
    clear hK
    go_wp2
    refine HK.out _ _ ?_
    clear HK
    clear hr
    simp only [ne_eq, not_true_eq_false, if_false]
    generalize ha1 : decide (d < 1) = a1 at *
    generalize ha2 : decide (m < d) = a2 at *
    generalize ha3 : decide (inn < 1) = a3 at *
    generalize ha4 : decide (m < inn) = a4 at *
    generalize ha5 : (lf == 0) = a5 at *
    generalize hb1 : decide (f < 0) = b1 at *
    generalize hb2 : (f == 1) = b2 at *
    generalize hb3 : decide (255 < f) = b3 at *
    generalize hb4 : decide (dp < 2) = b4 at *
    generalize hb5 : decide (255 < dp) = b5 at *
    generalize hb6 : decide (m < (kl : Int)) = b6 at *
    generalize hd1 : ((sl : Int) != 0) = d1 at *
    generalize hd2 : ((sl : Int) != r) = d2 at *
    generalize hd3 : ((pl : Int) != 0) = d3 at *
    generalize hd4 : ((pl : Int) != r) = d4 at *
    refine wp_seq_k fun K hK => ?_
    have HK := TW.hide hK
    clear hK
    cases a1 with
    | true =>
      go_wp2
      go_ret
      exact ⟨rfl, HX.out⟩
    | false =>
      cases a2 with
      | true =>
        go_wp2
        go_ret
        exact ⟨rfl, HX.out⟩
      | false =>
        cases a3 with
        | true =>
          go_wp2
          go_ret
          exact ⟨rfl, HX.out⟩
        | false =>
          cases a4 with
          | true =>
            go_wp2
            go_ret
            exact ⟨rfl, HX.out⟩
          | false =>
            cases a5 with
            | true =>
              go_wp2
              go_ret
              exact ⟨rfl, HX.out⟩
            | false =>
              go_wp2
              refine HK.out _ _ ?_
              clear HK
              refine wp_seq_k fun K hK => ?_
              have HK := TW.hide hK
              clear hK
              cases b1 with
              | true =>
                go_wp2
                go_ret
                exact ⟨rfl, HX.out⟩
              | false =>
                cases b2 with
                | true =>
                  go_wp2
                  go_ret
                  exact ⟨rfl, HX.out⟩
                | false =>
                  cases b3 with
                  | true =>
                    go_wp2
                    go_ret
                    exact ⟨rfl, HX.out⟩
                  | false =>
                    cases b4 with
                    | true =>
                      go_wp2
                      go_ret
                      exact ⟨rfl, HX.out⟩
                    | false =>
                      cases b5 with
                      | true =>
                        go_wp2
                        go_ret
                        exact ⟨rfl, HX.out⟩
                      | false =>
                        go_wp2
                        refine HK.out _ _ ?_
                        clear HK
                        refine wp_seq_k fun K hK => ?_
                        have HK := TW.hide hK
                        clear hK
                        cases b6 with
                        | true =>
                          go_wp2
                          go_ret
                          exact ⟨rfl, HX.out⟩
                        | false =>
                          go_wp2
                          refine HK.out _ _ ?_
                          clear HK
                          cases d1 <;> cases d2 <;> cases d3 <;> cases d4
                          all_goals
                            go_wp2
                            go_ret
                            exact ⟨rfl, HX.out⟩
end LW
end Go.Proofs.Ytcpegipojkbcoaa
