/-
  What isRoot and each give.
-/
import Derived.Test.YtcpegipojkbcoaaFind
namespace Go.Proofs.Ytcpegipojkbcoaa
open Go.RowKit
set_option linter.unusedVariables false
set_option linter.unusedSimpArgs false
namespace LW
open Words
set_option maxRecDepth 100000 in
set_option maxHeartbeats 2000000 in
theorem isRoot (r : Int) (at_ q b : Nat) (w : World) : Calls Try.prog 50 #[.agg (stC r at_ q b)] w fun e w' => e = .returned (.bool (decide (0 < r) && (q : Int) == 1)) ∧ Below w.heap.size w w' := by
  unfold stC
  have n0 := heap_alloc_new w (.cells #[.int .i64 r, .int .u64 at_, .int .u64 q, .int .u64 b] 100)
  have hb := (Below.refl w.heap.size w).alloc (Nat.le_refl _) (.cells #[.int .i64 r, .int .u64 at_, .int .u64 q, .int .u64 b] 100)
  obtain ⟨⟨c0, c1, c2, c3⟩, _⟩ := cells4 n0
  have HB := TW.hide hb
  clear n0 hb
  by_cases h : 0 < r
  · go_enter Try.func50, Try.ntmps50
    go_wp2
    go_ret
    exact ⟨by simp [h], HB.out⟩
  · go_enter Try.func50, Try.ntmps50
    go_wp2
    go_ret
    exact ⟨by simp; omega, HB.out⟩
/-- How many a full node has. -/
def eaN (T : Tr) (r : Int) (q b : Nat) : Nat := if r = 0 then T.lf.toNat else if 0 < r ∧ q = 1 then b else T.f.toNat
set_option maxRecDepth 100000 in
set_option maxHeartbeats 2000000 in
theorem each (T : Tr) (hT : 0 ≤ T.lf ∧ T.lf < 4294967296) (hf : 0 ≤ T.f ∧ T.f ≤ 255) (n m : Nat) (r : Int) (at_ q b : Nat) (w : World) : Calls Try.prog 49 #[.agg (lyC T n m), .agg (stC r at_ q b)] w fun e w' => e = .returned (.int .u64 (eaN T r q b : Nat)) ∧ Below w.heap.size w w' := by
  have HI := TW.hide (fun W => isRoot r at_ q b W)
  obtain ⟨R, hR⟩ : ∃ R, R = eaN T r q b := ⟨_, rfl⟩
  rw [← hR]
  have HR := TW.hide hR
  clear hR
  have wL : IntKind.u64.wrap T.lf = T.lf := by rw [IntKind.wrap_u64]; omega
  have wF : IntKind.u64.wrap T.f = T.f := by rw [IntKind.wrap_u64]; omega
  unfold lyC stC at *
  have n0 := heap_alloc_new w (.cells #[.int .i64 T.k, .int .i64 T.d, .int .i64 T.f, .int .i64 T.dp, .int .u32 T.lf, .int .i64 T.inn, .slice T.ka T.kl T.kc, .slice T.sa T.sl T.sc, .slice T.pa T.pl T.pc, .int .u64 n, .int .u64 m] 98)
  have hb0 := (Below.refl w.heap.size w).alloc (Nat.le_refl _) (.cells #[.int .i64 T.k, .int .i64 T.d, .int .i64 T.f, .int .i64 T.dp, .int .u32 T.lf, .int .i64 T.inn, .slice T.ka T.kl T.kc, .slice T.sa T.sl T.sc, .slice T.pa T.pl T.pc, .int .u64 n, .int .u64 m] 98)
  have n1 := heap_alloc_new (w.alloc (.cells #[.int .i64 T.k, .int .i64 T.d, .int .i64 T.f, .int .i64 T.dp, .int .u32 T.lf, .int .i64 T.inn, .slice T.ka T.kl T.kc, .slice T.sa T.sl T.sc, .slice T.pa T.pl T.pc, .int .u64 n, .int .u64 m] 98)) (.cells #[.int .i64 r, .int .u64 at_, .int .u64 q, .int .u64 b] 100)
  rw [show (w.alloc (.cells #[.int .i64 T.k, .int .i64 T.d, .int .i64 T.f, .int .i64 T.dp, .int .u32 T.lf, .int .i64 T.inn, .slice T.ka T.kl T.kc, .slice T.sa T.sl T.sc, .slice T.pa T.pl T.pc, .int .u64 n, .int .u64 m] 98)).heap.size = w.heap.size + 1 by simp] at n1
  have n0 := blk_alloc (o' := .cells #[.int .i64 r, .int .u64 at_, .int .u64 q, .int .u64 b] 100) n0
  have hb1 := hb0.alloc hb0.size (.cells #[.int .i64 r, .int .u64 at_, .int .u64 q, .int .u64 b] 100)
  have N0 := TW.hide n0
  have N1 := TW.hide n1
  have B1 := TW.hide hb1
  clear n0 n1 hb0 hb1
  go_enter Try.func49, Try.ntmps49
  refine wp_seq_k fun K hK => ?_
  have HK := TW.hide hK
  clear hK
  go_wp2_with fail
  refine HK.out _ _ ?_
  clear HK K
  generalize (w.alloc _).alloc _ = X at *
  obtain ⟨⟨d0, d1, d2, d3⟩, _⟩ := cells4 N1.out
  obtain ⟨c0, c1, c2, c3, c4, c5, c6, c7, c8, c9, c10, _⟩ := cells11 N0.out
  by_cases h0 : r = 0
  · have hr : ((R : Nat) : Int) = T.lf := by rw [HR.out, eaN, if_pos h0]; omega
    rw [hr]
    rw [h0] at d0
    clear HR hr
    go_wp2
    go_ret
    exact ⟨rfl, B1.out⟩
  · have h0' : (r == 0) = false := by simp [h0]
    go_wp2_with fail
    refine (HI.out _).mono ?_
    rintro e1 w1 ⟨rfl, hb⟩
    clear d0 d1 d2 d3 c0 c1 c2 c3 c4 c5 c6 c7 c8 c9 c10
    obtain ⟨⟨d0, d1, d2, d3⟩, _⟩ := cells4 (blk_keep N1.out hb)
    obtain ⟨c0, c1, c2, c3, c4, c5, c6, c7, c8, c9, c10, _⟩ := cells11 (blk_keep N0.out hb)
    have B2 : Hid (Below w.heap.size w w1) := B1.out.trans (hb.mono B1.out.size)
    clear hb N0 N1 B1
    by_cases h1 : 0 < r ∧ q = 1
    · have hr : ((R : Nat) : Int) = (b : Int) := by rw [HR.out, eaN, if_neg h0, if_pos h1]
      rw [show (decide (0 < r) && (q : Int) == 1) = true by simp; omega]
      have HR2 := TW.hide hr
      clear HR hr h1
      go_wp2
      go_ret
      exact ⟨TW.ret_int HR2.out.symm, B2.out⟩
    · have hr : ((R : Nat) : Int) = T.f := by rw [HR.out, eaN, if_neg h0, if_neg h1]; omega
      rw [show (decide (0 < r) && (q : Int) == 1) = false by simp; omega]
      have HR2 := TW.hide hr
      clear HR hr h1
      go_wp2
      go_ret
      exact ⟨TW.ret_int HR2.out.symm, B2.out⟩
end LW
end Go.Proofs.Ytcpegipojkbcoaa
