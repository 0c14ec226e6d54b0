/-
  What Unpack of the document gives, where there are more bytes.
-/
import Derived.Test.YtcpegipojkbcoaaRUnp
namespace Go.Proofs.Ytcpegipojkbcoaa
open Go.RowKit
set_option linter.unusedVariables false
set_option linter.unusedSimpArgs false
namespace LW
open Words
set_option maxRecDepth 100000 in
set_option maxHeartbeats 2000000 in
theorem runp5 (T : Tr) (a : Option Addr) (zl cap : Nat) (w : World) (t l : Nat) (m z : Nat) (hm : T.inn = (m : Int)) (hm1 : 1 ≤ m) (hm2 : m ≤ 64) (hz1 : 16 ≤ zl) (hz2 : zl ≤ 1048576) (hle : z ≤ (zl - 16) / m) (hmo : 16 + z * m < zl) (HV : ∀ W, Calls Try.prog 30 #[.agg (trC T)] W fun e w' => e = .returned (.int .i64 0) ∧ Below W.heap.size W w') (H0 : ∀ W, Below w.heap.size w W → Calls Try.prog 31 #[.slice a zl cap, .int .i64 0, .int .i64 8] W fun e w' => e = .returned (.tuple #[.int .u64 (t : Int), .int .i64 0]) ∧ W = w') (H8 : ∀ W, Below w.heap.size w W → Calls Try.prog 31 #[.slice a zl cap, .int .i64 8, .int .i64 8] W fun e w' => e = .returned (.tuple #[.int .u64 (l : Int), .int .i64 0]) ∧ W = w') (HZ : ∀ W, Calls Try.prog 6 #[.agg (trC T), .int .u64 t, .int .u64 l] W fun e w' => e = .returned (.tuple #[.int .u64 (z : Nat), .int .i64 0]) ∧ Below W.heap.size W w') : Calls Try.prog 11 #[.agg (trC T), .slice a zl cap] w (fun e w' => e = .returned (.tuple #[.agg #[.int .u64 0, .int .u64 0, .slice none 0 0], .int .i64 9]) ∧ Below w.heap.size w w') := by
  replace HV := TW.hide HV
  replace H0 := TW.hide H0
  replace H8 := TW.hide H8
  replace HZ := TW.hide HZ
  have e1 : IntKind.i64.wrap ((zl : Int) - 16) = ((zl - 16 : Nat) : Int) := by rw [IntKind.wrap_i64]; omega
  have e2 : IntKind.u64.wrap ((zl - 16 : Nat) : Int) = ((zl - 16 : Nat) : Int) := by rw [IntKind.wrap_u64]; omega
  have e3 : IntKind.u64.wrap T.inn = (m : Int) := by rw [IntKind.wrap_u64]; omega
  have e4 : IntKind.u64.wrap (((zl - 16 : Nat) : Int) / (m : Int)) = (((zl - 16) / m : Nat) : Int) := quo64 (zl - 16) m (by omega)
  have hm0 : ¬ (m : Int) = 0 := by omega
  have hq1 : (zl - 16) / m ≤ 1048576 := Nat.le_trans (Nat.div_le_self _ _) (by omega)
  have hq2 : z * m ≤ zl - 16 := Nat.le_trans (Nat.mul_le_mul_right m hle) (Nat.div_mul_le_self _ _)
  have e5 : IntKind.i64.wrap (z : Int) = (z : Int) := by rw [IntKind.wrap_i64]; omega
  have e6 : IntKind.i64.wrap ((z : Int) * T.inn) = ((z * m : Nat) : Int) := by rw [hm, ← Int.natCast_mul, IntKind.wrap_i64]; omega
  have e7 : IntKind.i64.wrap (16 + ((z * m : Nat) : Int)) = ((16 + z * m : Nat) : Int) := by rw [IntKind.wrap_i64]; omega
  have hg : ¬ (((zl - 16) / m : Nat) : Int) < (z : Int) := by omega
  replace hm := TW.hide hm
  have hmI : ((16 + z * m : Nat) : Int) < (zl : Int) := by omega
  clear hle hq2 hmo
  generalize (zl - 16) / m = q at *
  generalize 16 + z * m = s at *
  generalize z * m = s1 at *
  unfold trC at *
  have n0 := heap_alloc_new w (.cells #[.int .i64 T.k, .int .i64 T.d, .int .i64 T.f, .int .i64 T.dp, .int .u32 T.lf, .int .i64 T.inn, .slice T.ka T.kl T.kc, .slice T.sa T.sl T.sc, .slice T.pa T.pl T.pc] 26)
  have hb0 := (Below.refl w.heap.size w).alloc (Nat.le_refl _) (.cells #[.int .i64 T.k, .int .i64 T.d, .int .i64 T.f, .int .i64 T.dp, .int .u32 T.lf, .int .i64 T.inn, .slice T.ka T.kl T.kc, .slice T.sa T.sl T.sc, .slice T.pa T.pl T.pc] 26)
  have n1 := heap_alloc_new (w.alloc (.cells #[.int .i64 T.k, .int .i64 T.d, .int .i64 T.f, .int .i64 T.dp, .int .u32 T.lf, .int .i64 T.inn, .slice T.ka T.kl T.kc, .slice T.sa T.sl T.sc, .slice T.pa T.pl T.pc] 26)) (.cells #[.int .u64 0, .int .u64 0, .slice none 0 0] 37)
  rw [show (w.alloc (.cells #[.int .i64 T.k, .int .i64 T.d, .int .i64 T.f, .int .i64 T.dp, .int .u32 T.lf, .int .i64 T.inn, .slice T.ka T.kl T.kc, .slice T.sa T.sl T.sc, .slice T.pa T.pl T.pc] 26)).heap.size = w.heap.size + 1 by simp] at n1
  have n0 := blk_alloc (o' := .cells #[.int .u64 0, .int .u64 0, .slice none 0 0] 37) n0
  have hb1 := hb0.alloc hb0.size (.cells #[.int .u64 0, .int .u64 0, .slice none 0 0] 37)
  have N0 := TW.hide n0
  have N1 := TW.hide n1
  have NB := TW.hide hb1
  clear n0 n1 hb0 hb1
  go_enter Try.func11, Try.ntmps11
  refine wp_seq_k fun K hK => ?_
  have HK := TW.hide hK
  clear hK
  go_wp2_with fail
  refine HK.out _ _ ?_
  clear HK K
  generalize (w.alloc _).alloc _ = X at *
  obtain ⟨c0, c1, c2, c3, c4, c5, c6, c7, c8⟩ := cells9 N0.out
  go_wp2_with fail
  refine (HV.out _).mono ?_
  rintro e1 w1 ⟨rfl, hb⟩
  clear c0 c1 c2 c3 c4 c5 c6 c7 c8
  have N0 := TW.hide (blk_keep N0.out hb)
  have N1 := TW.hide (blk_keep N1.out hb)
  have NB : Hid (Below w.heap.size w w1) := NB.out.trans (hb.mono NB.out.size)
  clear hb
  go_wp2_with fail
  refine (H0.out _ NB.out).mono ?_
  rintro e2 w2 ⟨rfl, rfl⟩
  go_wp2_with fail
  refine (H8.out _ NB.out).mono ?_
  rintro e3 w3 ⟨rfl, rfl⟩
  obtain ⟨c0, c1, c2, c3, c4, c5, c6, c7, c8⟩ := cells9 N0.out
  go_wp2_with fail
  refine (HZ.out _).mono ?_
  rintro e4 w4 ⟨rfl, hb⟩
  clear c0 c1 c2 c3 c4 c5 c6 c7 c8
  have N0 := TW.hide (blk_keep N0.out hb)
  have N1 := TW.hide (blk_keep N1.out hb)
  have NB : Hid (Below w.heap.size w w4) := NB.out.trans (hb.mono NB.out.size)
  clear hb
  obtain ⟨c0, c1, c2, c3, c4, c5, c6, c7, c8⟩ := cells9 N0.out
  go_wp2_with (refine wpList_store_row (by rfl) 37 _ _ (by rfl) (w.heap.size + 1) #[.int .u64 0, .int .u64 0, .slice none 0 0] (by rfl) (by rfl) 37 _ N1.out (by kernel_rfl) (by rfl) (by simp [Value.oneCell']) ?_)
  refine bodyPost_ret (v := .tuple #[.agg #[.int .u64 0, .int .u64 0, .slice none 0 0], .int .i64 9]) (results_row_tmp (P := Try.prog) Try.results11 _ _ (w.heap.size + 1) 37 _ (0, 0) _ _ (by rfl) (by rfl) (setRow_heap _ _ _ _ _ _ N1.out) Try.underlying37 rfl (by kernel_rfl)) rfl ?_
  exact ⟨rfl, below_setRow NB.out (by omega)⟩
end LW
end Go.Proofs.Ytcpegipojkbcoaa
