/-
  What Size of the document gives, the law's awake, and the law on sizes.
-/
import Derived.Test.YtcpegipojkbcoaaRSize
import Derived.Test.YtcpegipojkbcoaaTreeArgs
namespace Go.Proofs.Ytcpegipojkbcoaa
open Go.RowKit
set_option linter.unusedVariables false
set_option linter.unusedSimpArgs false
namespace LW
open Words
theorem rsize_ (T : Tr) (hT : 0 ≤ T.lf ∧ T.lf < 4294967296) (n : Nat) (hn : n < 18446744073709551616) (lf : Nat) (w : World) : Calls Try.prog 6 #[.agg (trC T), .int .u64 n, .int .u64 lf] w fun e w' => e = .returned (.tuple #[.int .u64 (szF T n lf : Nat), .int .i64 (waE T n lf)]) ∧ Below w.heap.size w w' := by
  have hw := fun W => rway_ T hT n hn lf W
  unfold WayP waK at hw
  unfold szF
  rcases waE_cases T n lf with ⟨h0, hE, hl⟩ | ⟨h0, _⟩
  · simp only [h0, if_true] at hw ⊢
    have hR := rwsT hT hn hE
    exact rsizeOk T hT n hn lf (roL T n).length (roL T n) hR.two hR.most (fun i hi => (wT_lt hn (lvE_ok hE) hT.1 hR hl i hi).2) (fun i hi => by have := aw_in (n := n) (lvE_ok hE) hR hl i hi; unfold wF wT; omega) (fun W => (hw W).mono (by rintro e w' ⟨v, rfl, _, ho, hb⟩; exact ⟨v, rfl, ho, hb⟩)) w
  · simp only [if_neg h0] at hw ⊢
    refine rsizeE T hT n hn lf (waE T n lf) (fun W => (hw W).mono ?_) w
    rintro e w' ⟨v, rfl, hv, _, hb⟩
    obtain rfl := hv h0
    exact ⟨rfl, hb⟩
/-- What the program's Size is asked to give. -/
def PSize : Prop := ∀ (T : Tr), (0 ≤ T.lf ∧ T.lf < 4294967296) → ∀ n : Nat, n < 18446744073709551616 → ∀ lf : Nat, lf < 18446744073709551616 → ∀ W, Calls Try.prog 5 #[.agg (trC T), .int .u64 n, .int .u64 lf] W fun e w' => e = .returned (.tuple #[.int .u64 (szF T n lf : Nat), .int .i64 (waE T n lf)]) ∧ Below W.heap.size W w'
/-- The tree of awake. -/
def TB : Tr := ⟨2, 32, 2, 9, 4, 8, none, 0, 0, none, 0, 0, none, 0, 0⟩
theorem TBE : trC TB = #[.int .i64 2, .int .i64 32, .int .i64 2, .int .i64 9, .int .u32 4, .int .i64 8, .slice none 0 0, .slice none 0 0, .slice none 0 0] := rfl
theorem TB_0 : szF TB 9 0 = 2 ∧ waE TB 9 0 = 0 := by decide +kernel
theorem TB_2 : szF TB 9 2 = 1 ∧ waE TB 9 2 = 0 := by decide +kernel
set_option maxRecDepth 100000 in
set_option maxHeartbeats 2000000 in
theorem tree11 (w : World) : Calls Try.prog 17 #[] w fun e w' => e = .returned (.agg (trC TB)) ∧ Below w.heap.size w w' := by
  go_enter Try.func17, Try.ntmps17
  go_wp2
  exact bodyPost_ret (v := .agg (trC TB)) (results_cell_row (P := Try.prog) Try.results17 _ _ w.heap.size 26 _ (0, 0) _ rfl (heap_alloc_new w _) Try.underlying26 rfl (by kernel_rfl)) rfl ⟨rfl, (Below.refl w.heap.size w).alloc (Nat.le_refl _) _⟩
set_option maxRecDepth 100000 in
set_option maxHeartbeats 2000000 in
theorem awake11 (HP : PSize) (w : World) : Calls Try.prog 7 #[] w fun e w' => e = .returned (.bool true) ∧ Below w.heap.size w w' := by
  have h0 := fun W => HP TB (by simp [TB]) 9 (by omega) 0 (by omega) W
  have h2 := fun W => HP TB (by simp [TB]) 9 (by omega) 2 (by omega) W
  rw [TB_0.1, TB_0.2] at h0
  rw [TB_2.1, TB_2.2] at h2
  have HT := TW.hide tree11
  rw [TBE] at h0 h2 HT
  have H0 := TW.hide h0
  have H2 := TW.hide h2
  clear h0 h2
  go_enter Try.func7, Try.ntmps7
  go_wp2_with fail
  refine (HT.out _).mono ?_
  rintro e1 w1 ⟨rfl, hb1⟩
  go_wp2_with fail
  refine (H0.out _).mono ?_
  rintro e2 w2 ⟨rfl, hb2⟩
  go_wp2_with fail
  refine (HT.out _).mono ?_
  rintro e3 w3 ⟨rfl, hb3⟩
  go_wp2_with fail
  refine (H2.out _).mono ?_
  rintro e4 w4 ⟨rfl, hb4⟩
  have HB : Hid (Below w.heap.size w w4) := by
    have b2 := hb1.trans (hb2.mono hb1.size)
    have b3 := b2.trans (hb3.mono b2.size)
    exact b3.trans (hb4.mono b3.size)
  clear hb1 hb2 hb3 hb4
  go_wp2
  go_ret
  exact ⟨rfl, HB.out⟩
set_option maxRecDepth 100000 in
set_option maxHeartbeats 2000000 in
theorem sizesW (HP : PSize) (T : Tr) (s t : List Int) (n lf : Nat) (w : World) (hT : 0 ≤ T.lf ∧ T.lf < 4294967296) (hn : n < 18446744073709551616) (hl : lf < 18446744073709551616) : Calls Try.prog 3 #[.agg (trC T), .int .u64 n, .int .u64 lf] w fun e w' => e = .returned (.bool true) ∧ Below w.heap.size w w' := by
  have HM := TW.hide (fun W => HP T hT n hn lf hl W)
  have HR := TW.hide (fun W => rsize_ T hT n hn lf W)
  have HA := TW.hide (fun W => awake11 HP W)
  generalize szF T n lf = z at *
  generalize waE T n lf = e at *
  unfold trC at *
  have n0 := heap_alloc_new w (.cells #[.int .i64 T.k, .int .i64 T.d, .int .i64 T.f, .int .i64 T.dp, .int .u32 T.lf, .int .i64 T.inn, .slice T.ka T.kl T.kc, .slice T.sa T.sl T.sc, .slice T.pa T.pl T.pc] 26)
  have hb0 := (Below.refl w.heap.size w).alloc (Nat.le_refl _) (.cells #[.int .i64 T.k, .int .i64 T.d, .int .i64 T.f, .int .i64 T.dp, .int .u32 T.lf, .int .i64 T.inn, .slice T.ka T.kl T.kc, .slice T.sa T.sl T.sc, .slice T.pa T.pl T.pc] 26)
  have HB0 := TW.hide hb0
  have HN0 := TW.hide n0
  clear n0 hb0
  go_enter Try.func3, Try.ntmps3
  refine wp_seq_k fun K hK => ?_
  have HK := TW.hide hK
  clear hK
  go_wp2_with fail
  refine HK.out _ _ ?_
  clear HK K
  generalize w.alloc _ = X at *
  obtain ⟨c0, c1, c2, c3, c4, c5, c6, c7, c8⟩ := cells9 HN0.out
  go_wp2_with fail
  refine (HM.out _).mono ?_
  rintro e1 w1 ⟨rfl, hb⟩
  clear c0 c1 c2 c3 c4 c5 c6 c7 c8
  have HN1 := TW.hide (blk_keep HN0.out hb)
  have HB1 : Hid (Below w.heap.size w w1) := HB0.out.trans (hb.mono HB0.out.size)
  clear HN0 HB0 hb
  obtain ⟨c0, c1, c2, c3, c4, c5, c6, c7, c8⟩ := cells9 HN1.out
  go_wp2_with fail
  refine (HR.out _).mono ?_
  rintro e2 w2 ⟨rfl, hb⟩
  clear c0 c1 c2 c3 c4 c5 c6 c7 c8
  have HN2 := TW.hide (blk_keep HN1.out hb)
  have HB2 : Hid (Below w.heap.size w w2) := HB1.out.trans (hb.mono HB1.out.size)
  clear HN1 HB1 hb
  obtain ⟨c0, c1, c2, c3, c4, c5, c6, c7, c8⟩ := cells9 HN2.out
  go_wp2_with fail
  refine (HA.out _).mono ?_
  rintro e3 w3 ⟨rfl, hb3⟩
  have HB3 : Hid (Below w.heap.size w w3) := HB2.out.trans (hb3.mono HB2.out.size)
  clear hb3
  go_wp2
  go_ret
  exact ⟨rfl, HB3.out⟩
end LW
end Go.Proofs.Ytcpegipojkbcoaa
