/-
  What fits of the document gives.
-/
import Derived.Test.YtcpegipojkbcoaaPathL
import Derived.Test.YtcpegipojkbcoaaRSize
namespace Go.Proofs.Ytcpegipojkbcoaa
open Go.RowKit
set_option linter.unusedVariables false
set_option linter.unusedSimpArgs false
namespace LW
open Words
theorem cellsQ2 {w : World} {b : Nat} {t : TypeId} {v0 v1 : Value} (h : w.heap[b]? = some (.cells #[v0, v1] t (0, 0))) : w.cell? ⟨b, 0, none⟩ = some v0 ∧ w.cell? ⟨b, 1, none⟩ = some v1 := by
  simp [World.cell?, h]
abbrev Stp := List (List Int) × List (List Int)
/-- All rows of a list have so many bytes. -/
def AllI (ls : List (List Int)) (inn : Int) : Prop := ∀ r, r < ls.length → ((ls.getD r []).length : Int) = inn
/-- A step that fits. -/
def FitS (AW WF WT : Nat → Nat) (inn : Int) (i : Nat) (s : Stp) : Prop := s.1.length = AW i - WF (i + 1) ∧ s.2.length = WT (i + 1) - AW i - 1 ∧ AllI s.1 inn ∧ AllI s.2 inn
/-- Steps that fit a way of K nodes. -/
def FitP (AW WF WT : Nat → Nat) (inn : Int) (K : Nat) (ss : List Stp) : Prop := ss.length = K - 1 ∧ ∀ i, i + 1 < K → FitS AW WF WT inn i (ss.getD i ([], []))
set_option maxRecDepth 100000 in
set_option maxHeartbeats 4000000 in
theorem fits (T : Tr) (t l : Nat) (a : Option Addr) (c g cap K : Nat) (ss : List Stp) (AW WF WT : Nat → Nat) (w : World) (hS : Sts w a ss) (hB : SB ss) (hK2 : 2 ≤ K) (hK : K ≤ 255)
    (hW : ∀ i, i < K → w.cell? ⟨g, i * 6 + 1, none⟩ = some (.int .u64 (AW i)) ∧ w.cell? ⟨g, i * 6 + 2, none⟩ = some (.int .u64 (WF i)) ∧ w.cell? ⟨g, i * 6 + 3, none⟩ = some (.int .u64 (WT i)))
    (hX : ∀ i, i + 1 < K → WF (i + 1) ≤ AW i ∧ AW i < WT (i + 1) ∧ WT (i + 1) < 18446744073709551616) :
    Calls Try.prog 21 #[.agg (trC T), .agg (paC t l a ss.length c), .slice (some ⟨g, 0, none⟩) K cap] w fun e w' => ∃ x : Bool, e = .returned (.bool x) ∧ (x = true ↔ FitP AW WF WT T.inn K ss) ∧ Below w.heap.size w w' := by
  have HSt : Hid (∀ (W : World) (i : Nat), Below w.heap.size w W → i < ss.length → ∃ b off A K A' K', a = some ⟨b, off, none⟩ ∧ W.cell? ⟨b, off + i * 2, none⟩ = some (.slice A (ss.getD i ([], [])).1.length K) ∧ W.cell? ⟨b, off + i * 2 + 1, none⟩ = some (.slice A' (ss.getD i ([], [])).2.length K') ∧ Ls W A (ss.getD i ([], [])).1 ∧ Ls W A' (ss.getD i ([], [])).2) := by
    intro W i hb hi
    rcases hS.below hb with h | ⟨b, off, e, hc⟩
    · rw [h] at hi; simp at hi
    · obtain ⟨A, K, A', K', h1, h2, h3, h4⟩ := hc i hi
      exact ⟨b, off, A, K, A', K', e, h1, h2, h3, h4⟩
  have HWy : Hid (∀ (W : World) (i : Nat), Below w.heap.size w W → i < K → W.cell? ⟨g, i * 6 + 1, none⟩ = some (.int .u64 (AW i)) ∧ W.cell? ⟨g, i * 6 + 2, none⟩ = some (.int .u64 (WF i)) ∧ W.cell? ⟨g, i * 6 + 3, none⟩ = some (.int .u64 (WT i))) := by
    intro W i hb hi
    obtain ⟨h1, h2, h3⟩ := hW i hi
    exact ⟨by rw [hb.cell (lt_of_cell h1)]; exact h1, by rw [hb.cell (lt_of_cell h2)]; exact h2, by rw [hb.cell (lt_of_cell h3)]; exact h3⟩
  have HX := TW.hide hX
  have HB := TW.hide hB
  have hl := hB.1
  clear hS hB hW hX
  obtain ⟨F, hF⟩ : ∃ F, F = FitP AW WF WT T.inn K ss := ⟨_, rfl⟩
  rw [← hF]
  have HF := TW.hide hF
  clear hF
  obtain ⟨n, hn⟩ : ∃ n, ss.length = n := ⟨_, rfl⟩
  have HN := TW.hide hn
  rw [hn] at hl HSt ⊢
  clear hn
  unfold trC paC at *
  have n0 := heap_alloc_new w (.cells #[.int .i64 T.k, .int .i64 T.d, .int .i64 T.f, .int .i64 T.dp, .int .u32 T.lf, .int .i64 T.inn, .slice T.ka T.kl T.kc, .slice T.sa T.sl T.sc, .slice T.pa T.pl T.pc] 26)
  have hb0 := (Below.refl w.heap.size w).alloc (Nat.le_refl _) (.cells #[.int .i64 T.k, .int .i64 T.d, .int .i64 T.f, .int .i64 T.dp, .int .u32 T.lf, .int .i64 T.inn, .slice T.ka T.kl T.kc, .slice T.sa T.sl T.sc, .slice T.pa T.pl T.pc] 26)
  have n1 := heap_alloc_new (w.alloc (.cells #[.int .i64 T.k, .int .i64 T.d, .int .i64 T.f, .int .i64 T.dp, .int .u32 T.lf, .int .i64 T.inn, .slice T.ka T.kl T.kc, .slice T.sa T.sl T.sc, .slice T.pa T.pl T.pc] 26)) (.cells #[.int .u64 t, .int .u64 l, .slice a n c] 37)
  rw [show (w.alloc (.cells #[.int .i64 T.k, .int .i64 T.d, .int .i64 T.f, .int .i64 T.dp, .int .u32 T.lf, .int .i64 T.inn, .slice T.ka T.kl T.kc, .slice T.sa T.sl T.sc, .slice T.pa T.pl T.pc] 26)).heap.size = w.heap.size + 1 by simp] at n1
  have n0 := blk_alloc (o' := .cells #[.int .u64 t, .int .u64 l, .slice a n c] 37) n0
  have hb1 := hb0.alloc hb0.size (.cells #[.int .u64 t, .int .u64 l, .slice a n c] 37)
  have N0 := TW.hide n0
  have N1 := TW.hide n1
  have B0 := TW.hide hb1
  clear n0 n1 hb0 hb1
  go_enter Try.func21, Try.ntmps21
  refine wp_seq_k fun K hK => ?_
  have HK := TW.hide hK
  clear hK
  go_wp2_with fail
  refine HK.out _ _ ?_
  clear HK K
  generalize (w.alloc _).alloc _ = X at *
  obtain ⟨c0, c1, c2, c3, c4, c5, c6, c7, c8⟩ := cells9 N0.out
  obtain ⟨d0, d1, d2⟩ := cellsP3 N1.out
  have hw1 : IntKind.i64.wrap ((K : Int) - 1) = ((K - 1 : Nat) : Int) := by rw [IntKind.wrap_i64]; omega
  by_cases hsz : n = K - 1
  · have hne : ((n : Int) != ((K - 1 : Nat) : Int)) = false := by simp; omega
    have HSZ := TW.hide hsz
    clear hsz
    go_wp2
    clear hne hw1 c0 c1 c2 c3 c4 c5 c6 c7 c8 d0 d1 d2
    go_loopw [7, 8, 9, 10] (fun i st k1 k2 wr => ∃ j : Nat, j + 1 ≤ K ∧ i = .int .i64 ((j + 1 : Nat) : Int) ∧ Hid (∀ q, q < j → FitS AW WF WT T.inn q (ss.getD q ([], []))) ∧ Below w.heap.size w wr ∧ wr.heap[w.heap.size]? = some (.cells #[.int .i64 T.k, .int .i64 T.d, .int .i64 T.f, .int .i64 T.dp, .int .u32 T.lf, .int .i64 T.inn, .slice T.ka T.kl T.kc, .slice T.sa T.sl T.sc, .slice T.pa T.pl T.pc] 26 (0, 0)) ∧ wr.heap[w.heap.size + 1]? = some (.cells #[.int .u64 t, .int .u64 l, .slice a n c] 37 (0, 0))) (fun i st k1 k2 wr => K - (intOf i).toNat)
    case atStart => exact ⟨0, by omega, rfl, TW.hide (fun q hq => by omega), B0.out, N0.out, N1.out⟩
    case round =>
      obtain ⟨j, hj, rfl, HQ, hb, hn0, hn1⟩ := hrel
      clear N0 N1 B0
      have N0 := TW.hide hn0
      have N1 := TW.hide hn1
      have B0 := TW.hide hb
      clear hn0 hn1 hb
      by_cases hlt : j + 1 < K
      · have hiI : ((j + 1 : Nat) : Int) < (K : Int) := by omega
        have hw1 : IntKind.i64.wrap (((j + 1 : Nat) : Int) - 1) = (j : Int) := by rw [IntKind.wrap_i64]; omega
        have hjn : j < n := by have := HSZ.out; omega
        obtain ⟨b, off, A, KA, A', KA', rfl, s1, s2, l1, l2⟩ := HSt.out wr j B0.out hjn
        obtain ⟨_, y2, y3⟩ := HWy.out wr (j + 1) B0.out hlt
        obtain ⟨x1, _, _⟩ := HWy.out wr j B0.out (by omega)
        obtain ⟨z1, z2, z3⟩ := HX.out j hlt
        have HL1 := TW.hide l1
        have HL2 := TW.hide l2
        have HLT := TW.hide hlt
        clear l1 l2
        obtain ⟨d0, d1, d2⟩ := cellsP3 N1.out
        have hjI : (j : Int) < (n : Int) := by omega
        have hj0 : (0 : Int) ≤ (j : Int) := by omega
        have hz2 : WT (j + 1) - AW j < 18446744073709551616 := by omega
        have e1 : IntKind.u64.wrap ((AW j : Int) - (WF (j + 1) : Int)) = ((AW j - WF (j + 1) : Nat) : Int) := by rw [IntKind.wrap_u64]; omega
        have e2 : IntKind.u64.wrap ((WT (j + 1) : Int) - (AW j : Int)) = ((WT (j + 1) - AW j : Nat) : Int) := by rw [IntKind.wrap_u64]; omega
        have e3 : IntKind.u64.wrap (((WT (j + 1) - AW j : Nat) : Int) - 1) = ((WT (j + 1) - AW j - 1 : Nat) : Int) := by rw [IntKind.wrap_u64]; omega
        have e4 : IntKind.i64.wrap (((j + 1 : Nat) : Int) + 1) = ((j + 1 + 1 : Nat) : Int) := by rw [IntKind.wrap_i64]; omega
        have hFS : Hid (FitS AW WF WT T.inn j (ss.getD j ([], [])) ↔ (ss.getD j ([], [])).1.length = AW j - WF (j + 1) ∧ (ss.getD j ([], [])).2.length = WT (j + 1) - AW j - 1 ∧ AllI (ss.getD j ([], [])).1 T.inn ∧ AllI (ss.getD j ([], [])).2 T.inn) := Iff.rfl
        obtain ⟨lb1, lb2⟩ := HB.out.2 j
        have g1 := lb1.1
        have g2 := lb2.1
        have GB1 := TW.hide lb1.2
        have GB2 := TW.hide lb2.2
        clear lb1 lb2 z1 z2 z3 hz2
        generalize (ss.getD j ([], [])).1 = bs at *
        generalize (ss.getD j ([], [])).2 = fs at *
        generalize AW j - WF (j + 1) = q1 at *
        generalize WT (j + 1) - AW j - 1 = q3 at *
        generalize WT (j + 1) - AW j = q2 at *
        generalize AW j = y1 at *
        generalize WF (j + 1) = y4 at *
        generalize WT (j + 1) = y5 at *
        obtain ⟨nb, hnb⟩ : ∃ nb, bs.length = nb := ⟨_, rfl⟩
        obtain ⟨nf, hnf⟩ : ∃ nf, fs.length = nf := ⟨_, rfl⟩
        have HNB := TW.hide hnb
        have HNF := TW.hide hnf
        rw [hnb] at s1 g1 hFS
        rw [hnf] at s2 g2 hFS
        clear hnb hnf
        have w1 : IntKind.u64.wrap (nb : Int) = (nb : Int) := by rw [IntKind.wrap_u64]; omega
        have w2 : IntKind.u64.wrap (nf : Int) = (nf : Int) := by rw [IntKind.wrap_u64]; omega
        obtain ⟨i1, hi1⟩ : ∃ i1, i1 = j + 1 := ⟨_, rfl⟩
        have h1i : 1 ≤ i1 := by omega
        obtain rfl : j = i1 - 1 := by omega
        have HI1 := TW.hide h1i
        have hs : i1 - 1 + 1 = i1 := by omega
        rw [hs] at hw1 e4 y2 y3 hiI HLT ⊢
        clear hs
        have hi0 : (0 : Int) ≤ (i1 : Int) - 1 := by omega
        have hi2 : (i1 : Int) - 1 < (n : Int) := by omega
        have hi3 : (i1 : Int) - 1 < (K : Int) := by omega
        have hi4 : (0 : Int) ≤ (i1 : Int) := by omega
        have hj3 : ((i1 - 1 : Nat) : Int) < (K : Int) := by omega
        have HW1 := TW.hide hw1
        clear hi1 hlt h1i hw1
        obtain ⟨b1, hb1⟩ : ∃ b1, ((nb : Int) != (q1 : Int)) = b1 := ⟨_, rfl⟩
        obtain ⟨b2, hb2⟩ : ∃ b2, ((nf : Int) != (q3 : Int)) = b2 := ⟨_, rfl⟩
        have n3 := heap_alloc_new wr (.cells #[.slice A nb KA, .slice A' nf KA'] 65)
        have N3 := TW.hide n3
        have M0 := TW.hide (blk_alloc (o' := .cells #[.slice A nb KA, .slice A' nf KA'] 65) N0.out)
        have M1 := TW.hide (blk_alloc (o' := .cells #[.slice A nb KA, .slice A' nf KA'] 65) N1.out)
        have MB : Hid (Below w.heap.size w (wr.alloc (.cells #[.slice A nb KA, .slice A' nf KA'] 65))) := B0.out.alloc B0.out.size _
        have MR : Hid (Below wr.heap.size wr (wr.alloc (.cells #[.slice A nb KA, .slice A' nf KA'] 65))) := (Below.refl _ _).alloc (Nat.le_refl _) _
        have blk_lt0 := TW.hide (blk_lt N1.out)
        clear n3 N0 N1 B0
        refine wp_seq_k fun Kc hK => ?_
        have HK := TW.hide hK
        clear hK
        go_wp2
        refine HK.out _ _ ?_
        clear HK Kc
        go_wp2
        rw [← MR.out.cell (lt_of_cell x1)] at x1
        rw [← MR.out.cell (lt_of_cell y2)] at y2
        rw [← MR.out.cell (lt_of_cell y3)] at y3
        have HM1 := TW.hide (HL1.out.below MR.out)
        have HM2 := TW.hide (HL2.out.below MR.out)
        have hWs : (wr.alloc (.cells #[.slice A nb KA, .slice A' nf KA'] 65)).heap.size = wr.heap.size + 1 := by simp
        have HWS := TW.hide hWs
        have hgt : w.heap.size + 1 < wr.heap.size := blk_lt0.out
        clear hWs HL1 HL2 MR s1 s2 d0 d1 d2
        generalize wr.alloc _ = V at *
        generalize wr.heap.size = gs at *
        obtain ⟨f0, f1⟩ := cellsQ2 N3.out
        have hw1 := HW1.out
        clear hi0 hi2 hi3 HW1
        have HNo : Hid (¬ (nb = q1 ∧ nf = q3 ∧ AllI bs T.inn ∧ AllI fs T.inn) → ¬ F) := by
          intro hno hF
          rw [HF.out] at hF
          exact hno (hFS.out.1 (hF.2 (i1 - 1) (by have := HLT.out; have := HI1.out; omega)))
        obtain ⟨c0, c1, c2, c3, c4, c5, c6, c7, c8⟩ := cells9 M0.out
        cases b1 with
        | true =>
          go_quiet (fail)
          go_wp2
          go_ret
          refine ⟨false, rfl, ⟨fun h => (by cases h), fun h => absurd h (HNo.out (fun hh => ?_))⟩, (by first | exact below_drewN MB.out _ | exact below_drewN (below_drewN MB.out _) _)⟩
          simp [hh.1] at hb1
        | false =>
          cases b2 with
          | true =>
            go_quiet (fail)
            go_wp2
            go_ret
            refine ⟨false, rfl, ⟨fun h => (by cases h), fun h => absurd h (HNo.out (fun hh => ?_))⟩, (by first | exact below_drewN MB.out _ | exact below_drewN (below_drewN MB.out _) _)⟩
            simp [hh.2.1] at hb2
          | false =>
            go_quiet (fail)
            go_wp2
            go_loopw [9] (fun k wr => ∃ (r q : Nat), r ≤ nb ∧ k = .int .i64 r ∧ Hid (∀ x, x < r → ((bs.getD x []).length : Int) = T.inn) ∧ wr = V.drewN q) (fun k _ => nb - (intOf k).toNat)
            case atStart => exact ⟨0, nq, Nat.zero_le _, rfl, TW.hide (fun x hx => by omega), rfl⟩
            case round =>
              obtain ⟨r, q, hr, rfl, HAL, rfl⟩ := hrel
              by_cases hrl : r < nb
              · have hrI : (r : Int) < (nb : Int) := by omega
                have hr0 : (0 : Int) ≤ (r : Int) := by omega
                obtain ⟨bb, ob, rfl, Ar, Kr, hcr⟩ : ∃ bb ob, A = some ⟨bb, ob, none⟩ ∧ ∃ Ar Kr, V.cell? ⟨bb, ob + r, none⟩ = some (.slice Ar (bs.getD r []).length Kr) := by
                  rcases HM1.out with h | ⟨bb, ob, e, hc⟩
                  · exfalso; have := HNB.out; rw [h] at this; simp at this; omega
                  · obtain ⟨Ar, Kr, h1, _⟩ := hc r (by rw [HNB.out]; exact hrl)
                    exact ⟨bb, ob, e, Ar, Kr, h1⟩
                have hlr := GB1.out r
                obtain ⟨lr, hlre⟩ : ∃ lr, (bs.getD r []).length = lr := ⟨_, rfl⟩
                have HLR := TW.hide hlre
                rw [hlre] at hcr hlr
                clear hlre
                obtain ⟨bq, hbq⟩ : ∃ bq, ((lr : Int) != T.inn) = bq := ⟨_, rfl⟩
                cases bq with
                | true =>
                  go_wp2
                  go_quiet (fail)
                  go_wp2
                  go_ret
                  refine ⟨false, rfl, ⟨fun h => (by cases h), fun h => absurd h (HNo.out (fun hh => ?_))⟩, (by first | exact below_drewN MB.out _ | exact below_drewN (below_drewN MB.out _) _)⟩
                  have := hh.2.2.1 r (by rw [HNB.out]; exact hrl)
                  rw [HLR.out] at this
                  simp [this] at hbq
                | false =>
                  have hle : (lr : Int) = T.inn := by simpa using hbq
                  go_wp2
                  go_quiet (fail)
                  go_wp2
                  go_roundw
                  case rel =>
                    refine ⟨r + 1, q + nq, by omega, by go_num, TW.hide (fun x hx => ?_), rfl⟩
                    rcases Nat.lt_or_ge x r with h | h
                    · exact HAL.out x h
                    · obtain rfl : x = r := by omega
                      rw [HLR.out]; exact hle
                  case measure => simp [intOf]; omega
              · obtain rfl : r = nb := by omega
                have HA1 := TW.hide HAL.out
                clear HAL
                go_wp2
                go_loopw [10] (fun k wr => ∃ (r q : Nat), r ≤ nf ∧ k = .int .i64 r ∧ Hid (∀ x, x < r → ((fs.getD x []).length : Int) = T.inn) ∧ wr = V.drewN q) (fun k _ => nf - (intOf k).toNat)
                case atStart => exact ⟨0, q, Nat.zero_le _, rfl, TW.hide (fun x hx => by omega), rfl⟩
                case round =>
                  obtain ⟨r, q, hr, rfl, HAL, rfl⟩ := hrel
                  by_cases hrl : r < nf
                  · have hrI : (r : Int) < (nf : Int) := by omega
                    have hr0 : (0 : Int) ≤ (r : Int) := by omega
                    obtain ⟨bb, ob, rfl, Ar, Kr, hcr⟩ : ∃ bb ob, A' = some ⟨bb, ob, none⟩ ∧ ∃ Ar Kr, V.cell? ⟨bb, ob + r, none⟩ = some (.slice Ar (fs.getD r []).length Kr) := by
                      rcases HM2.out with h | ⟨bb, ob, e, hc⟩
                      · exfalso; have := HNF.out; rw [h] at this; simp at this; omega
                      · obtain ⟨Ar, Kr, h1, _⟩ := hc r (by rw [HNF.out]; exact hrl)
                        exact ⟨bb, ob, e, Ar, Kr, h1⟩
                    have hlr := GB2.out r
                    obtain ⟨lr, hlre⟩ : ∃ lr, (fs.getD r []).length = lr := ⟨_, rfl⟩
                    have HLR := TW.hide hlre
                    rw [hlre] at hcr hlr
                    clear hlre
                    obtain ⟨bq, hbq⟩ : ∃ bq, ((lr : Int) != T.inn) = bq := ⟨_, rfl⟩
                    cases bq with
                    | true =>
                      go_wp2
                      go_quiet (fail)
                      go_wp2
                      go_ret
                      refine ⟨false, rfl, ⟨fun h => (by cases h), fun h => absurd h (HNo.out (fun hh => ?_))⟩, (by first | exact below_drewN MB.out _ | exact below_drewN (below_drewN MB.out _) _)⟩
                      have := hh.2.2.2 r (by rw [HNF.out]; exact hrl)
                      rw [HLR.out] at this
                      simp [this] at hbq
                    | false =>
                      have hle : (lr : Int) = T.inn := by simpa using hbq
                      go_wp2
                      go_quiet (fail)
                      go_wp2
                      go_roundw
                      case rel =>
                        refine ⟨r + 1, q + nq, by omega, by go_num, TW.hide (fun x hx => ?_), rfl⟩
                        rcases Nat.lt_or_ge x r with h | h
                        · exact HAL.out x h
                        · obtain rfl : x = r := by omega
                          rw [HLR.out]; exact hle
                      case measure => simp [intOf]; omega
                  · obtain rfl : r = nf := by omega
                    go_wp2
                    go_roundw
                    case rel =>
                      refine ⟨i1, HLT.out, by go_num, TW.hide (fun x hx => ?_), below_drewN MB.out _, M0.out, M1.out⟩
                      rcases Nat.lt_or_ge x (i1 - 1) with h | h
                      · exact HQ.out x h
                      · obtain rfl : x = i1 - 1 := by omega
                        exact hFS.out.2 ⟨Int.ofNat.inj (by simpa using hb1), Int.ofNat.inj (by simpa using hb2), fun x hx => HA1.out x (by rw [HNB.out] at hx; exact hx), fun x hx => HAL.out x (by rw [HNF.out] at hx; exact hx)⟩
                    case measure => simp [intOf]; have := HLT.out; omega
      · have hiI : ¬ ((j + 1 : Nat) : Int) < (K : Int) := by omega
        have HJ : Hid (j + 1 = K) := by show _ = _; omega
        clear hlt
        generalize ((j + 1 : Nat) : Int) = jj at *
        go_wp2
        go_ret
        refine .inr ⟨rfl, ?_, B0.out⟩
        rw [HF.out]
        exact ⟨HN.out.trans HSZ.out, fun i hi => HQ.out i (by have := HJ.out; omega)⟩
  · have hne : ((n : Int) != ((K - 1 : Nat) : Int)) = true := by simp; omega
    have HSZ := TW.hide hsz
    clear hsz
    go_wp2
    go_ret
    refine ⟨false, rfl, ?_, B0.out⟩
    rw [HF.out]
    refine ⟨fun h => (by cases h), fun h => ?_⟩
    exact absurd (HN.out.symm.trans h.1) HSZ.out
end LW
end Go.Proofs.Ytcpegipojkbcoaa
