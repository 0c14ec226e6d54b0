/-
  The walk of LaneParams: it returns true for every input.
-/
import Derived.Test.YthbakhgfnfdahaaParamsY
import Derived.Test.YthbakhgfnfdahaaSame
namespace Go.Proofs.Ythbakhgfnfdahaa
open Go.RowKit
set_option linter.unusedVariables false
set_option linter.unusedSimpArgs false
namespace LW
open Words
attribute [local go_sem ↓] Go.wp_at_zero Go.wp_at_succ
theorem ppL_form (k d y at_ : Int) : ∃ x1 x2 x3 x4 x5 x6 x7 x8 x9 : Int, ppL k d y at_ = #[.int .i64 x1, .int .i64 x2, .int .i64 x3, .int .i64 x4, .int .u32 x5, .int .u64 x6, .int .u32 x7, .int .i64 x8, .int .i64 x9, .slice none 0 0, .slice none 0 0] := by
  unfold ppL
  split
  · exact ⟨_, _, _, _, _, _, _, _, _, rfl⟩
  · exact ⟨_, _, _, _, _, _, _, _, _, rfl⟩
set_option maxHeartbeats 8000000 in
set_option maxRecDepth 100000 in
theorem lawP (k d y at_ : Int) (w : World) : Calls Try.prog 6 #[.int .i64 k, .int .i64 d, .int .i64 y, .int .i64 at_] w fun e w' => e = .returned (.bool true) ∧ Below w.heap.size w w' := by
  have HC := TW.hide (fun W => count k W)
  have HR := TW.hide (fun W => rcount k W)
  have HP := TW.hide (fun W => lparams k d y at_ W)
  have HQ := TW.hide (fun W => rlparams k d y at_ W)
  have HS := TW.hide (fun W => same0 none none 0 0 W)
  have hk := ke_nl k
  obtain ⟨x1, x2, x3, x4, x5, x6, x7, x8, x9, hx⟩ := ppL_form k d y at_
  rw [hx] at HP HQ
  clear hx
  generalize peL k d y at_ = E at *
  generalize ke k = kk at *
  generalize nl k = n at *
  have hk2 : (n = 0 ∧ kk = 1) ∨ (((n : Int) == 0) = false ∧ kk = 0) := by
    rcases hk with ⟨h1, h2⟩ | ⟨h1, h2⟩
    · exact .inl ⟨h1, h2⟩
    · exact .inr ⟨by simp; omega, h2⟩
  clear hk
  rcases hk2 with ⟨rfl, rfl⟩ | ⟨hn, rfl⟩
  all_goals
    go_enter Try.func6, Try.ntmps6
    go_wp2_with fail
    refine (HC.out _).mono ?_
    rintro e w1 ⟨rfl, hb1⟩
    have B1 := TW.hide hb1
    clear hb1
    go_wp2_with fail
    refine (HR.out _).mono ?_
    rintro e w2 ⟨rfl, rfl⟩
    go_wp2_with fail
    refine (HR.out _).mono ?_
    rintro e w2 ⟨rfl, rfl⟩
    go_wp2_with fail
    refine (HP.out _).mono ?_
    rintro e w3 ⟨rfl, hb3⟩
    have B3 : Hid (Below w.heap.size w w3) := below_row B1.out hb3 B1.out.size
    clear hb3 B1
    have A3 := TW.hide (heap_alloc_new w3 (.cells #[.int .i64 0, .int .i64 0, .int .i64 0, .int .i64 0, .int .u32 0, .int .u64 0, .int .u32 0, .int .i64 0, .int .i64 0, .slice none 0 0, .slice none 0 0] 47))
    have A4 := TW.hide (setRow_heap _ _ _ #[.int .i64 x1, .int .i64 x2, .int .i64 x3, .int .i64 x4, .int .u32 x5, .int .u64 x6, .int .u32 x7, .int .i64 x8, .int .i64 x9, .slice none 0 0, .slice none 0 0] _ _ A3.out)
    have B4 : Hid (Below w.heap.size w ((w3.alloc (.cells #[.int .i64 0, .int .i64 0, .int .i64 0, .int .i64 0, .int .u32 0, .int .u64 0, .int .u32 0, .int .i64 0, .int .i64 0, .slice none 0 0, .slice none 0 0] 47)).setRow w3.heap.size #[.int .i64 x1, .int .i64 x2, .int .i64 x3, .int .i64 x4, .int .u32 x5, .int .u64 x6, .int .u32 x7, .int .i64 x8, .int .i64 x9, .slice none 0 0, .slice none 0 0])) := below_setRow (B3.out.alloc B3.out.size _) B3.out.size
    go_wp2_with (first | (refine wpList_store_row (by rfl) 47 _ _ (by rfl) w3.heap.size #[.int .i64 x1, .int .i64 x2, .int .i64 x3, .int .i64 x4, .int .u32 x5, .int .u64 x6, .int .u32 x7, .int .i64 x8, .int .i64 x9, .slice none 0 0, .slice none 0 0] (by rfl) (by rfl) 47 _ A3.out (by kernel_rfl) (by rfl) (by simp [Value.oneCell']) ?_))
    have hle := B3.out.size
    clear A3 B3
    generalize hgg : w3.heap.size = g at *
    generalize (w3.alloc (.cells #[.int .i64 0, .int .i64 0, .int .i64 0, .int .i64 0, .int .u32 0, .int .u64 0, .int .u32 0, .int .i64 0, .int .i64 0, .slice none 0 0, .slice none 0 0] 47)).setRow g #[.int .i64 x1, .int .i64 x2, .int .i64 x3, .int .i64 x4, .int .u32 x5, .int .u64 x6, .int .u32 x7, .int .i64 x8, .int .i64 x9, .slice none 0 0, .slice none 0 0] = X at *
    clear hgg
    refine (HQ.out _).mono ?_
    rintro e w5 ⟨rfl, hb5⟩
    have A5 := TW.hide (blk_keep A4.out hb5)
    have B5 : Hid (Below w.heap.size w w5) := below_row B4.out hb5 B4.out.size
    have hgl : g < w5.heap.size := blk_lt A5.out
    clear hb5 A4 B4
    have C5 := TW.hide (heap_alloc_new w5 (.cells #[.int .i64 0, .int .i64 0, .int .i64 0, .int .i64 0, .int .u32 0, .int .u64 0, .int .u32 0, .int .i64 0, .int .i64 0, .slice none 0 0, .slice none 0 0] 47))
    have C6 := TW.hide (setRow_heap _ _ _ #[.int .i64 x1, .int .i64 x2, .int .i64 x3, .int .i64 x4, .int .u32 x5, .int .u64 x6, .int .u32 x7, .int .i64 x8, .int .i64 x9, .slice none 0 0, .slice none 0 0] _ _ C5.out)
    have A6 : Hid (((w5.alloc (.cells #[.int .i64 0, .int .i64 0, .int .i64 0, .int .i64 0, .int .u32 0, .int .u64 0, .int .u32 0, .int .i64 0, .int .i64 0, .slice none 0 0, .slice none 0 0] 47)).setRow w5.heap.size #[.int .i64 x1, .int .i64 x2, .int .i64 x3, .int .i64 x4, .int .u32 x5, .int .u64 x6, .int .u32 x7, .int .i64 x8, .int .i64 x9, .slice none 0 0, .slice none 0 0]).heap[g]? = some (.cells #[.int .i64 x1, .int .i64 x2, .int .i64 x3, .int .i64 x4, .int .u32 x5, .int .u64 x6, .int .u32 x7, .int .i64 x8, .int .i64 x9, .slice none 0 0, .slice none 0 0] 47 (0, 0))) := by show _ = _; rw [setRow_other _ _ _ _ (by omega)]; exact blk_alloc A5.out
    have B6 : Hid (Below w.heap.size w ((w5.alloc (.cells #[.int .i64 0, .int .i64 0, .int .i64 0, .int .i64 0, .int .u32 0, .int .u64 0, .int .u32 0, .int .i64 0, .int .i64 0, .slice none 0 0, .slice none 0 0] 47)).setRow w5.heap.size #[.int .i64 x1, .int .i64 x2, .int .i64 x3, .int .i64 x4, .int .u32 x5, .int .u64 x6, .int .u32 x7, .int .i64 x8, .int .i64 x9, .slice none 0 0, .slice none 0 0])) := below_setRow (B5.out.alloc B5.out.size _) B5.out.size
    obtain ⟨q0, q1, q2, q3, q4, q5, q6, q7, q8, q9, q10, f0, f1, f2, f3, f4, f5, f6, f7, f8, f9, f10⟩ := cells11 C6.out
    clear f0 f1 f2 f3 f4 f5 f6 f7 f8 f9 f10
    obtain ⟨p0, p1, p2, p3, p4, p5, p6, p7, p8, p9, p10, f0, f1, f2, f3, f4, f5, f6, f7, f8, f9, f10⟩ := cells11 A6.out
    clear f0 f1 f2 f3 f4 f5 f6 f7 f8 f9 f10
    go_wp2_with (first | (refine wpList_store_row (by rfl) 47 _ _ (by rfl) w5.heap.size #[.int .i64 x1, .int .i64 x2, .int .i64 x3, .int .i64 x4, .int .u32 x5, .int .u64 x6, .int .u32 x7, .int .i64 x8, .int .i64 x9, .slice none 0 0, .slice none 0 0] (by rfl) (by rfl) 47 _ C5.out (by kernel_rfl) (by rfl) (by simp [Value.oneCell']) ?_))
    clear C5 A5 B5 C6 A6
    generalize hg2 : w5.heap.size = g2 at *
    generalize (w5.alloc (.cells #[.int .i64 0, .int .i64 0, .int .i64 0, .int .i64 0, .int .u32 0, .int .u64 0, .int .u32 0, .int .i64 0, .int .i64 0, .slice none 0 0, .slice none 0 0] 47)).setRow g2 #[.int .i64 x1, .int .i64 x2, .int .i64 x3, .int .i64 x4, .int .u32 x5, .int .u64 x6, .int .u32 x7, .int .i64 x8, .int .i64 x9, .slice none 0 0, .slice none 0 0] = X2 at *
    clear hg2
    refine (HS.out _).mono ?_
    rintro e w7 ⟨rfl, q7, rfl⟩
    go_wp2_with fail
    refine (HS.out _).mono ?_
    rintro e w8 ⟨rfl, q8, rfl⟩
    go_wp2
    go_ret
    exact ⟨rfl, below_drewN B6.out _⟩
set_option maxHeartbeats 1000000 in
theorem laneP (k d y : Int) (w : World) : Calls Try.prog 3 #[.int .i64 k, .int .i64 d, .int .i64 y] w fun e w' => e = .returned (.bool true) ∧ Below w.heap.size w w' := by
  have HW := TW.hide (fun at_ W => lawP k d y at_ W)
  go_enter Try.func3, Try.ntmps3
  go_wp2
  go_loopw [7] (fun i wr => ∃ j : Int, i = .int .i64 j ∧ -1 ≤ j ∧ j ≤ 10 ∧ Below w.heap.size w wr) (fun i _ => (10 - intOf i).toNat)
  case atStart => exact ⟨-1, rfl, by omega, by omega, Below.refl _ _⟩
  case round =>
    obtain ⟨j, rfl, h0, h1, hb⟩ := hrel
    have HB := TW.hide hb
    clear hb
    by_cases hlt : j < 10
    · have hd : decide (j < 10) = true := by simpa using hlt
      go_wp2_with fail
      refine (HW.out j _).mono ?_
      rintro e w2 ⟨rfl, hb2⟩
      have H2 : Hid (Below w.heap.size w w2) := below_row HB.out hb2 HB.out.size
      clear hb2
      go_wp2
      go_roundw
      case rel => exact ⟨j + 1, by go_num, by omega, by omega, H2.out⟩
      case measure => simp [intOf]; omega
    · have hd : decide (j < 10) = false := by simpa using hlt
      go_wp2
      go_ret
      exact ⟨rfl, HB.out⟩
end LW
end Go.Proofs.Ythbakhgfnfdahaa
