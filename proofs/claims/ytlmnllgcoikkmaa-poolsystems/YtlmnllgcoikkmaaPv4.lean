/-
  The programs of the pool's system, as the document tells them.
-/
import Derived.Test.YtlmnllgcoikkmaaPv2
namespace Go.Proofs.Ytlmnllgcoikkmaa
open Go.RowKit
set_option linter.unusedVariables false
set_option linter.unusedSimpArgs false
namespace LW
open Mc
theorem rinst (o a b c : Int) (w : World) : Calls Try.prog 18 #[.int .i64 o, .int .i64 a, .int .i64 b, .int .i64 c] w fun e w' => e = .returned (.agg #[.int .i64 o, .int .i64 a, .int .i64 b, .int .i64 c]) ∧ Below w.heap.size w w' := by
  have n0 := heap_alloc_new w (.cells #[.int .i64 0, .int .i64 0, .int .i64 0, .int .i64 0] 47)
  have HB := TW.hide ((Below.refl w.heap.size w).alloc (Nat.le_refl _) (.cells #[.int .i64 0, .int .i64 0, .int .i64 0, .int .i64 0] 47))
  have N0 := TW.hide n0
  clear n0
  go_enter Try.func18, Try.ntmps18
  go_wp2_with (refine wpList_store_row (by rfl) 47 _ _ (by rfl) w.heap.size #[.int .i64 o, .int .i64 a, .int .i64 b, .int .i64 c] (by rfl) (by rfl) 47 _ N0.out (by kernel_rfl) (by rfl) (by simp [Value.oneCell']) ?_)
  refine bodyPost_ret (v := .agg #[.int .i64 o, .int .i64 a, .int .i64 b, .int .i64 c]) (results_cell_row (P := Try.prog) Try.results18 _ _ w.heap.size 47 _ (0, 0) _ (by rfl) (setRow_heap _ _ _ _ _ _ N0.out) Try.underlying47 rfl (by kernel_rfl)) rfl ?_
  exact ⟨rfl, below_setRow HB.out (Nat.le_refl _)⟩
set_option maxHeartbeats 8000000 in
theorem rworker (w : World) : Calls Try.prog 20 #[] w fun e w' => (∃ A, e = .returned (.slice A 8 8) ∧ IR w' A wkL ∧ Aw w.heap.size A) ∧ Below w.heap.size w w' := by
  have HI := TW.hide rinst
  have HB0 := TW.hide (Below.refl w.heap.size w)
  go_enter Try.func20, Try.ntmps20
  go_wp2_with fail
  refine (HI.out (6) (0) (3) (6) _).mono ?_
  rintro e1 w1 ⟨rfl, hb⟩
  have HB1 := TW.hide (HB0.out.trans (hb.mono HB0.out.size))
  clear hb HB0
  go_wp2_with fail
  refine (HI.out (12) (3) (4) (0) _).mono ?_
  rintro e2 w2 ⟨rfl, hb⟩
  have HB2 := TW.hide (HB1.out.trans (hb.mono HB1.out.size))
  clear hb HB1
  go_wp2_with fail
  refine (HI.out (15) (0) (4) (0) _).mono ?_
  rintro e3 w3 ⟨rfl, hb⟩
  have HB3 := TW.hide (HB2.out.trans (hb.mono HB2.out.size))
  clear hb HB2
  go_wp2_with fail
  refine (HI.out (5) (2) (3) (0) _).mono ?_
  rintro e4 w4 ⟨rfl, hb⟩
  have HB4 := TW.hide (HB3.out.trans (hb.mono HB3.out.size))
  clear hb HB3
  go_wp2_with fail
  refine (HI.out (5) (1) (4) (0) _).mono ?_
  rintro e5 w5 ⟨rfl, hb⟩
  have HB5 := TW.hide (HB4.out.trans (hb.mono HB4.out.size))
  clear hb HB4
  go_wp2_with fail
  refine (HI.out (4) (0) (0) (0) _).mono ?_
  rintro e6 w6 ⟨rfl, hb⟩
  have HB6 := TW.hide (HB5.out.trans (hb.mono HB5.out.size))
  clear hb HB5
  go_wp2_with fail
  refine (HI.out (10) (0) (-1) (0) _).mono ?_
  rintro e7 w7 ⟨rfl, hb⟩
  have HB7 := TW.hide (HB6.out.trans (hb.mono HB6.out.size))
  clear hb HB6
  go_wp2_with fail
  refine (HI.out (16) (0) (0) (0) _).mono ?_
  rintro e8 w8 ⟨rfl, hb⟩
  have HB8 := TW.hide (HB7.out.trans (hb.mono HB7.out.size))
  clear hb HB7
  clear HI
  go_wp2
  go_ret
  exact ⟨⟨_, rfl, IR_block (heap_alloc_new w8 _), (Aw.new _).low HB8.out.size⟩, HB8.out.alloc HB8.out.size _⟩
set_option maxHeartbeats 8000000 in
theorem rcombiner (a : Int) (w : World) : Calls Try.prog 19 #[.int .i64 a] w fun e w' => (∃ A, e = .returned (.slice A 15 15) ∧ IR w' A (cmL a) ∧ Aw w.heap.size A) ∧ Below w.heap.size w w' := by
  have HI := TW.hide rinst
  have HB0 := TW.hide (Below.refl w.heap.size w)
  go_enter Try.func19, Try.ntmps19
  go_wp2_with fail
  refine (HI.out (1) (0) (0) (0) _).mono ?_
  rintro e1 w1 ⟨rfl, hb⟩
  have HB1 := TW.hide (HB0.out.trans (hb.mono HB0.out.size))
  clear hb HB0
  go_wp2_with fail
  refine (HI.out (1) (1) (a) (0) _).mono ?_
  rintro e2 w2 ⟨rfl, hb⟩
  have HB2 := TW.hide (HB1.out.trans (hb.mono HB1.out.size))
  clear hb HB1
  go_wp2_with fail
  refine (HI.out (1) (2) (1) (0) _).mono ?_
  rintro e3 w3 ⟨rfl, hb⟩
  have HB3 := TW.hide (HB2.out.trans (hb.mono HB2.out.size))
  clear hb HB2
  go_wp2_with fail
  refine (HI.out (3) (0) (1) (5) _).mono ?_
  rintro e4 w4 ⟨rfl, hb⟩
  have HB4 := TW.hide (HB3.out.trans (hb.mono HB3.out.size))
  clear hb HB3
  go_wp2_with fail
  refine (HI.out (4) (0) (0) (9) _).mono ?_
  rintro e5 w5 ⟨rfl, hb⟩
  have HB5 := TW.hide (HB4.out.trans (hb.mono HB4.out.size))
  clear hb HB4
  go_wp2_with fail
  refine (HI.out (10) (0) (1) (0) _).mono ?_
  rintro e6 w6 ⟨rfl, hb⟩
  have HB6 := TW.hide (HB5.out.trans (hb.mono HB5.out.size))
  clear hb HB5
  go_wp2_with fail
  refine (HI.out (14) (1) (0) (0) _).mono ?_
  rintro e7 w7 ⟨rfl, hb⟩
  have HB7 := TW.hide (HB6.out.trans (hb.mono HB6.out.size))
  clear hb HB6
  go_wp2_with fail
  refine (HI.out (2) (0) (2) (0) _).mono ?_
  rintro e8 w8 ⟨rfl, hb⟩
  have HB8 := TW.hide (HB7.out.trans (hb.mono HB7.out.size))
  clear hb HB7
  go_wp2_with fail
  refine (HI.out (4) (0) (0) (3) _).mono ?_
  rintro e9 w9 ⟨rfl, hb⟩
  have HB9 := TW.hide (HB8.out.trans (hb.mono HB8.out.size))
  clear hb HB8
  go_wp2_with fail
  refine (HI.out (14) (2) (0) (0) _).mono ?_
  rintro e10 w10 ⟨rfl, hb⟩
  have HB10 := TW.hide (HB9.out.trans (hb.mono HB9.out.size))
  clear hb HB9
  go_wp2_with fail
  refine (HI.out (14) (3) (0) (0) _).mono ?_
  rintro e11 w11 ⟨rfl, hb⟩
  have HB11 := TW.hide (HB10.out.trans (hb.mono HB10.out.size))
  clear hb HB10
  go_wp2_with fail
  refine (HI.out (6) (1) (3) (14) _).mono ?_
  rintro e12 w12 ⟨rfl, hb⟩
  have HB12 := TW.hide (HB11.out.trans (hb.mono HB11.out.size))
  clear hb HB11
  go_wp2_with fail
  refine (HI.out (15) (1) (3) (0) _).mono ?_
  rintro e13 w13 ⟨rfl, hb⟩
  have HB13 := TW.hide (HB12.out.trans (hb.mono HB12.out.size))
  clear hb HB12
  go_wp2_with fail
  refine (HI.out (4) (0) (0) (11) _).mono ?_
  rintro e14 w14 ⟨rfl, hb⟩
  have HB14 := TW.hide (HB13.out.trans (hb.mono HB13.out.size))
  clear hb HB13
  go_wp2_with fail
  refine (HI.out (16) (0) (0) (0) _).mono ?_
  rintro e15 w15 ⟨rfl, hb⟩
  have HB15 := TW.hide (HB14.out.trans (hb.mono HB14.out.size))
  clear hb HB14
  clear HI
  go_wp2
  go_ret
  exact ⟨⟨_, rfl, IR_block (heap_alloc_new w15 _), (Aw.new _).low HB15.out.size⟩, HB15.out.alloc HB15.out.size _⟩
set_option maxHeartbeats 8000000 in
theorem rfeeder (b n : Int) (w : World) : Calls Try.prog 21 #[.int .i64 b, .int .i64 n] w fun e w' => (∃ A, e = .returned (.slice A 19 19) ∧ IR w' A (fdL b n) ∧ Aw w.heap.size A) ∧ Below w.heap.size w w' := by
  have HI := TW.hide rinst
  have HB0 := TW.hide (Below.refl w.heap.size w)
  go_enter Try.func21, Try.ntmps21
  go_wp2_with fail
  refine (HI.out (1) (0) (0) (0) _).mono ?_
  rintro e1 w1 ⟨rfl, hb⟩
  have HB1 := TW.hide (HB0.out.trans (hb.mono HB0.out.size))
  clear hb HB0
  go_wp2_with fail
  refine (HI.out (1) (1) (b) (0) _).mono ?_
  rintro e2 w2 ⟨rfl, hb⟩
  have HB2 := TW.hide (HB1.out.trans (hb.mono HB1.out.size))
  clear hb HB1
  go_wp2_with fail
  refine (HI.out (1) (2) (1) (0) _).mono ?_
  rintro e3 w3 ⟨rfl, hb⟩
  have HB3 := TW.hide (HB2.out.trans (hb.mono HB2.out.size))
  clear hb HB2
  go_wp2_with fail
  refine (HI.out (3) (0) (1) (5) _).mono ?_
  rintro e4 w4 ⟨rfl, hb⟩
  have HB4 := TW.hide (HB3.out.trans (hb.mono HB3.out.size))
  clear hb HB3
  go_wp2_with fail
  refine (HI.out (4) (0) (0) (8) _).mono ?_
  rintro e5 w5 ⟨rfl, hb⟩
  have HB5 := TW.hide (HB4.out.trans (hb.mono HB4.out.size))
  clear hb HB4
  go_wp2_with fail
  refine (HI.out (5) (2) (0) (0) _).mono ?_
  rintro e6 w6 ⟨rfl, hb⟩
  have HB6 := TW.hide (HB5.out.trans (hb.mono HB5.out.size))
  clear hb HB5
  go_wp2_with fail
  refine (HI.out (2) (0) (2) (0) _).mono ?_
  rintro e7 w7 ⟨rfl, hb⟩
  have HB7 := TW.hide (HB6.out.trans (hb.mono HB6.out.size))
  clear hb HB6
  go_wp2_with fail
  refine (HI.out (4) (0) (0) (3) _).mono ?_
  rintro e8 w8 ⟨rfl, hb⟩
  have HB8 := TW.hide (HB7.out.trans (hb.mono HB7.out.size))
  clear hb HB7
  go_wp2_with fail
  refine (HI.out (1) (0) (0) (0) _).mono ?_
  rintro e9 w9 ⟨rfl, hb⟩
  have HB9 := TW.hide (HB8.out.trans (hb.mono HB8.out.size))
  clear hb HB8
  go_wp2_with fail
  refine (HI.out (1) (1) (n) (0) _).mono ?_
  rintro e10 w10 ⟨rfl, hb⟩
  have HB10 := TW.hide (HB9.out.trans (hb.mono HB9.out.size))
  clear hb HB9
  go_wp2_with fail
  refine (HI.out (3) (0) (1) (12) _).mono ?_
  rintro e11 w11 ⟨rfl, hb⟩
  have HB11 := TW.hide (HB10.out.trans (hb.mono HB10.out.size))
  clear hb HB10
  go_wp2_with fail
  refine (HI.out (4) (0) (0) (17) _).mono ?_
  rintro e12 w12 ⟨rfl, hb⟩
  have HB12 := TW.hide (HB11.out.trans (hb.mono HB11.out.size))
  clear hb HB11
  go_wp2_with fail
  refine (HI.out (6) (2) (3) (17) _).mono ?_
  rintro e13 w13 ⟨rfl, hb⟩
  have HB13 := TW.hide (HB12.out.trans (hb.mono HB12.out.size))
  clear hb HB12
  go_wp2_with fail
  refine (HI.out (13) (3) (0) (0) _).mono ?_
  rintro e14 w14 ⟨rfl, hb⟩
  have HB14 := TW.hide (HB13.out.trans (hb.mono HB13.out.size))
  clear hb HB13
  go_wp2_with fail
  refine (HI.out (5) (0) (3) (0) _).mono ?_
  rintro e15 w15 ⟨rfl, hb⟩
  have HB15 := TW.hide (HB14.out.trans (hb.mono HB14.out.size))
  clear hb HB14
  go_wp2_with fail
  refine (HI.out (2) (0) (2) (0) _).mono ?_
  rintro e16 w16 ⟨rfl, hb⟩
  have HB16 := TW.hide (HB15.out.trans (hb.mono HB15.out.size))
  clear hb HB15
  go_wp2_with fail
  refine (HI.out (4) (0) (0) (10) _).mono ?_
  rintro e17 w17 ⟨rfl, hb⟩
  have HB17 := TW.hide (HB16.out.trans (hb.mono HB16.out.size))
  clear hb HB16
  go_wp2_with fail
  refine (HI.out (7) (0) (0) (0) _).mono ?_
  rintro e18 w18 ⟨rfl, hb⟩
  have HB18 := TW.hide (HB17.out.trans (hb.mono HB17.out.size))
  clear hb HB17
  go_wp2_with fail
  refine (HI.out (16) (0) (0) (0) _).mono ?_
  rintro e19 w19 ⟨rfl, hb⟩
  have HB19 := TW.hide (HB18.out.trans (hb.mono HB18.out.size))
  clear hb HB18
  clear HI
  go_wp2
  go_ret
  exact ⟨⟨_, rfl, IR_block (heap_alloc_new w19 _), (Aw.new _).low HB19.out.size⟩, HB19.out.alloc HB19.out.size _⟩
end LW
end Go.Proofs.Ytlmnllgcoikkmaa
