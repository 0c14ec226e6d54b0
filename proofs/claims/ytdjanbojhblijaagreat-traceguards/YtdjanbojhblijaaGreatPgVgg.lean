/-
  PgV, PgW, PgX in one.
-/
import Derived.Test.YtdjanbojhblijaaGreatSwg
import Derived.Test.YtdjanbojhblijaaGreatArgs13g
namespace Go.Proofs.YtdjanbojhblijaaGreat
open Go.RowKit
set_option linter.unusedVariables false
set_option linter.unusedSimpArgs false
namespace LW
open Mc
set_option maxRecDepth 100000 in
set_option maxHeartbeats 4000000 in
theorem pwithin (n l m : Int) (w : World) : Calls Tryz.prog 50 #[.int .i64 n, .int .i64 l, .int .i64 m] w fun e w' => e = .returned (.bool (decide (l ≤ n ∧ n ≤ m))) ∧ w = w' := by
 go_enter Tryz.func50, Tryz.ntmps50
 by_cases h1 : l ≤ n
 ·by_cases h2 : n ≤ m
  ·go_wp2
   go_ret
   exact ⟨by simp [h1, h2], rfl⟩
  ·go_wp2
   go_ret
   exact ⟨by simp [h1, h2], rfl⟩
 ·go_wp2
  go_ret
  exact ⟨by simp; omega, rfl⟩
/-- The words of an operation's fields. -/
def wT : List (Int × Int × Int) := [(0, 0, 0), (1, 2, 0), (1, 1, 0), (1, 1, 3), (0, 0, 3), (4, 1, 0), (4, 1, 3), (4, 0, 0), (5, 0, 0), (5, 0, 0), (6, 2, 0), (6, 0, 0), (1, 1, 0), (1, 1, 0), (7, 0, 0), (2, 1, 0), (0, 0, 0)]
/-- What rowOf leaves. -/
def RoQ (op cells : Int) (w : World) : Ending → World → Prop := fun e w' => ∃ (a b c : Int) (ok : Bool), e = .returned (.tuple #[.agg #[.int .i64 a, .int .i64 b, .int .i64 c], .bool ok]) ∧ (ok = true ↔ (1 ≤ op ∧ op ≤ 16 ∧ ((op = 12 ∨ op = 13) → cells ≠ 0))) ∧ (ok = true → (a, b, c) = wT.getD op.toNat (0, 0, 0)) ∧ Below w.heap.size w w'
set_option maxRecDepth 100000 in
set_option maxHeartbeats 4000000 in
theorem prowOf (op cells : Int) (w : World) : Calls Tryz.prog 51 #[.int .i64 op, .int .i64 cells] w (RoQ op cells w) := by
 have HB : Hid (Below w.heap.size w (w.alloc (.cells #[.int .i64 0, .int .i64 0, .int .i64 0] 103))) := (Below.refl _ _).alloc (Nat.le_refl _) _
 have HN : Hid ((w.alloc (.cells #[.int .i64 0, .int .i64 0, .int .i64 0] 103)).heap[w.heap.size]? = some (.cells #[.int .i64 0, .int .i64 0, .int .i64 0] 103 (0, 0))) := heap_alloc_new w _
 obtain ⟨POST, hP⟩ : ∃ P, P = RoQ op cells w := ⟨_, rfl⟩
 have HP := TW.hide hP
 rw [← hP]
 clear hP
 go_enter Tryz.func51, Tryz.ntmps51
 refine wp_seq_k fun K hK => ?_
 have HK := TW.hide hK
 clear hK
 go_wp2
 refine HK.out _ _ ?_
 clear HK K
 generalize World.alloc _ _ = X at *
 refine wp_seq_q fun KT QT hKT hNT hOT => ?_
 have HKT := TW.hide hKT
 have HNT := TW.hide hNT
 have HOT := TW.hide hOT
 clear hKT hNT hOT
 refine wp_seq_k fun K1 hK1 => ?_
 have HK1 := TW.hide hK1
 clear hK1
 go_wp2
 refine HK1.out _ _ ?_
 clear HK1 K1
 refine wp_block_q fun Q0 hN0 hE0 hO0 => ?_
 have HN0 := TW.hide hN0
 have HE0 := TW.hide hE0
 have HO0 := TW.hide hO0
 clear hN0 hE0 hO0
 refine wp_seq_block_q fun Kb14 Q14 hKb14 hN14 hE14 hO14 => ?_
 have HKb14 := TW.hide hKb14
 have HN14 := TW.hide hN14
 have HE14 := TW.hide hE14
 have HO14 := TW.hide hO14
 clear hKb14 hN14 hE14 hO14
 refine wp_seq_block_q fun Kb13 Q13 hKb13 hN13 hE13 hO13 => ?_
 have HKb13 := TW.hide hKb13
 have HN13 := TW.hide hN13
 have HE13 := TW.hide hE13
 have HO13 := TW.hide hO13
 clear hKb13 hN13 hE13 hO13
 refine wp_seq_block_q fun Kb12 Q12 hKb12 hN12 hE12 hO12 => ?_
 have HKb12 := TW.hide hKb12
 have HN12 := TW.hide hN12
 have HE12 := TW.hide hE12
 have HO12 := TW.hide hO12
 clear hKb12 hN12 hE12 hO12
 refine wp_seq_block_q fun Kb11 Q11 hKb11 hN11 hE11 hO11 => ?_
 have HKb11 := TW.hide hKb11
 have HN11 := TW.hide hN11
 have HE11 := TW.hide hE11
 have HO11 := TW.hide hO11
 clear hKb11 hN11 hE11 hO11
 refine wp_seq_block_q fun Kb10 Q10 hKb10 hN10 hE10 hO10 => ?_
 have HKb10 := TW.hide hKb10
 have HN10 := TW.hide hN10
 have HE10 := TW.hide hE10
 have HO10 := TW.hide hO10
 clear hKb10 hN10 hE10 hO10
 refine wp_seq_block_q fun Kb9 Q9 hKb9 hN9 hE9 hO9 => ?_
 have HKb9 := TW.hide hKb9
 have HN9 := TW.hide hN9
 have HE9 := TW.hide hE9
 have HO9 := TW.hide hO9
 clear hKb9 hN9 hE9 hO9
 refine wp_seq_block_q fun Kb8 Q8 hKb8 hN8 hE8 hO8 => ?_
 have HKb8 := TW.hide hKb8
 have HN8 := TW.hide hN8
 have HE8 := TW.hide hE8
 have HO8 := TW.hide hO8
 clear hKb8 hN8 hE8 hO8
 refine wp_seq_block_q fun Kb7 Q7 hKb7 hN7 hE7 hO7 => ?_
 have HKb7 := TW.hide hKb7
 have HN7 := TW.hide hN7
 have HE7 := TW.hide hE7
 have HO7 := TW.hide hO7
 clear hKb7 hN7 hE7 hO7
 refine wp_seq_block_q fun Kb6 Q6 hKb6 hN6 hE6 hO6 => ?_
 have HKb6 := TW.hide hKb6
 have HN6 := TW.hide hN6
 have HE6 := TW.hide hE6
 have HO6 := TW.hide hO6
 clear hKb6 hN6 hE6 hO6
 refine wp_seq_block_q fun Kb5 Q5 hKb5 hN5 hE5 hO5 => ?_
 have HKb5 := TW.hide hKb5
 have HN5 := TW.hide hN5
 have HE5 := TW.hide hE5
 have HO5 := TW.hide hO5
 clear hKb5 hN5 hE5 hO5
 refine wp_seq_block_q fun Kb4 Q4 hKb4 hN4 hE4 hO4 => ?_
 have HKb4 := TW.hide hKb4
 have HN4 := TW.hide hN4
 have HE4 := TW.hide hE4
 have HO4 := TW.hide hO4
 clear hKb4 hN4 hE4 hO4
 refine wp_seq_block_q fun Kb3 Q3 hKb3 hN3 hE3 hO3 => ?_
 have HKb3 := TW.hide hKb3
 have HN3 := TW.hide hN3
 have HE3 := TW.hide hE3
 have HO3 := TW.hide hO3
 clear hKb3 hN3 hE3 hO3
 refine wp_seq_block_q fun Kb2 Q2 hKb2 hN2 hE2 hO2 => ?_
 have HKb2 := TW.hide hKb2
 have HN2 := TW.hide hN2
 have HE2 := TW.hide hE2
 have HO2 := TW.hide hO2
 clear hKb2 hN2 hE2 hO2
 refine wp_seq_block_q fun Kb1 Q1 hKb1 hN1 hE1 hO1 => ?_
 have HKb1 := TW.hide hKb1
 have HN1 := TW.hide hN1
 have HE1 := TW.hide hE1
 have HO1 := TW.hide hO1
 clear hKb1 hN1 hE1 hO1
 have HX14 : Hid (∀ a w, Kb14 a w → Q1 (.exit 14) a w) := fun a w hk => HO1.out.x 14 (by simp) a w (HO2.out.x 14 (by simp) a w (HO3.out.x 14 (by simp) a w (HO4.out.x 14 (by simp) a w (HO5.out.x 14 (by simp) a w (HO6.out.x 14 (by simp) a w (HO7.out.x 14 (by simp) a w (HO8.out.x 14 (by simp) a w (HO9.out.x 14 (by simp) a w (HO10.out.x 14 (by simp) a w (HO11.out.x 14 (by simp) a w (HO12.out.x 14 (by simp) a w (HO13.out.x 14 (by simp) a w (HE14.out a w hk)))))))))))))
 have HR14 : Hid (∀ a w, _ → Q0 .ret a w) := fun a w hq => HO0.out.r a w (HOT.out.r a w hq)
 have HP14 : Hid (∀ c a w, _ → Q0 (.panic c) a w) := fun c a w hq => HO0.out.p c a w (HOT.out.p c a w hq)
 have HZ14 : Hid (∀ a w, KT a w → Q0 (.exit 0) a w) := fun a w hk => HE0.out a w (HNT.out a w hk)
 have HX13 : Hid (∀ a w, Kb13 a w → Q1 (.exit 13) a w) := fun a w hk => HO1.out.x 13 (by simp) a w (HO2.out.x 13 (by simp) a w (HO3.out.x 13 (by simp) a w (HO4.out.x 13 (by simp) a w (HO5.out.x 13 (by simp) a w (HO6.out.x 13 (by simp) a w (HO7.out.x 13 (by simp) a w (HO8.out.x 13 (by simp) a w (HO9.out.x 13 (by simp) a w (HO10.out.x 13 (by simp) a w (HO11.out.x 13 (by simp) a w (HO12.out.x 13 (by simp) a w (HE13.out a w hk))))))))))))
 have HR13 : Hid (∀ a w, _ → Q14 .ret a w) := fun a w hq => HO14.out.r a w (HO0.out.r a w (HOT.out.r a w hq))
 have HP13 : Hid (∀ c a w, _ → Q14 (.panic c) a w) := fun c a w hq => HO14.out.p c a w (HO0.out.p c a w (HOT.out.p c a w hq))
 have HZ13 : Hid (∀ a w, KT a w → Q14 (.exit 0) a w) := fun a w hk => HO14.out.x 0 (by simp) a w (HE0.out a w (HNT.out a w hk))
 have HX12 : Hid (∀ a w, Kb12 a w → Q1 (.exit 12) a w) := fun a w hk => HO1.out.x 12 (by simp) a w (HO2.out.x 12 (by simp) a w (HO3.out.x 12 (by simp) a w (HO4.out.x 12 (by simp) a w (HO5.out.x 12 (by simp) a w (HO6.out.x 12 (by simp) a w (HO7.out.x 12 (by simp) a w (HO8.out.x 12 (by simp) a w (HO9.out.x 12 (by simp) a w (HO10.out.x 12 (by simp) a w (HO11.out.x 12 (by simp) a w (HE12.out a w hk)))))))))))
 have HR12 : Hid (∀ a w, _ → Q13 .ret a w) := fun a w hq => HO13.out.r a w (HO14.out.r a w (HO0.out.r a w (HOT.out.r a w hq)))
 have HP12 : Hid (∀ c a w, _ → Q13 (.panic c) a w) := fun c a w hq => HO13.out.p c a w (HO14.out.p c a w (HO0.out.p c a w (HOT.out.p c a w hq)))
 have HZ12 : Hid (∀ a w, KT a w → Q13 (.exit 0) a w) := fun a w hk => HO13.out.x 0 (by simp) a w (HO14.out.x 0 (by simp) a w (HE0.out a w (HNT.out a w hk)))
 have HX11 : Hid (∀ a w, Kb11 a w → Q1 (.exit 11) a w) := fun a w hk => HO1.out.x 11 (by simp) a w (HO2.out.x 11 (by simp) a w (HO3.out.x 11 (by simp) a w (HO4.out.x 11 (by simp) a w (HO5.out.x 11 (by simp) a w (HO6.out.x 11 (by simp) a w (HO7.out.x 11 (by simp) a w (HO8.out.x 11 (by simp) a w (HO9.out.x 11 (by simp) a w (HO10.out.x 11 (by simp) a w (HE11.out a w hk))))))))))
 have HR11 : Hid (∀ a w, _ → Q12 .ret a w) := fun a w hq => HO12.out.r a w (HO13.out.r a w (HO14.out.r a w (HO0.out.r a w (HOT.out.r a w hq))))
 have HP11 : Hid (∀ c a w, _ → Q12 (.panic c) a w) := fun c a w hq => HO12.out.p c a w (HO13.out.p c a w (HO14.out.p c a w (HO0.out.p c a w (HOT.out.p c a w hq))))
 have HZ11 : Hid (∀ a w, KT a w → Q12 (.exit 0) a w) := fun a w hk => HO12.out.x 0 (by simp) a w (HO13.out.x 0 (by simp) a w (HO14.out.x 0 (by simp) a w (HE0.out a w (HNT.out a w hk))))
 have HX10 : Hid (∀ a w, Kb10 a w → Q1 (.exit 10) a w) := fun a w hk => HO1.out.x 10 (by simp) a w (HO2.out.x 10 (by simp) a w (HO3.out.x 10 (by simp) a w (HO4.out.x 10 (by simp) a w (HO5.out.x 10 (by simp) a w (HO6.out.x 10 (by simp) a w (HO7.out.x 10 (by simp) a w (HO8.out.x 10 (by simp) a w (HO9.out.x 10 (by simp) a w (HE10.out a w hk)))))))))
 have HR10 : Hid (∀ a w, _ → Q11 .ret a w) := fun a w hq => HO11.out.r a w (HO12.out.r a w (HO13.out.r a w (HO14.out.r a w (HO0.out.r a w (HOT.out.r a w hq)))))
 have HP10 : Hid (∀ c a w, _ → Q11 (.panic c) a w) := fun c a w hq => HO11.out.p c a w (HO12.out.p c a w (HO13.out.p c a w (HO14.out.p c a w (HO0.out.p c a w (HOT.out.p c a w hq)))))
 have HZ10 : Hid (∀ a w, KT a w → Q11 (.exit 0) a w) := fun a w hk => HO11.out.x 0 (by simp) a w (HO12.out.x 0 (by simp) a w (HO13.out.x 0 (by simp) a w (HO14.out.x 0 (by simp) a w (HE0.out a w (HNT.out a w hk)))))
 have HX9 : Hid (∀ a w, Kb9 a w → Q1 (.exit 9) a w) := fun a w hk => HO1.out.x 9 (by simp) a w (HO2.out.x 9 (by simp) a w (HO3.out.x 9 (by simp) a w (HO4.out.x 9 (by simp) a w (HO5.out.x 9 (by simp) a w (HO6.out.x 9 (by simp) a w (HO7.out.x 9 (by simp) a w (HO8.out.x 9 (by simp) a w (HE9.out a w hk))))))))
 have HR9 : Hid (∀ a w, _ → Q10 .ret a w) := fun a w hq => HO10.out.r a w (HO11.out.r a w (HO12.out.r a w (HO13.out.r a w (HO14.out.r a w (HO0.out.r a w (HOT.out.r a w hq))))))
 have HP9 : Hid (∀ c a w, _ → Q10 (.panic c) a w) := fun c a w hq => HO10.out.p c a w (HO11.out.p c a w (HO12.out.p c a w (HO13.out.p c a w (HO14.out.p c a w (HO0.out.p c a w (HOT.out.p c a w hq))))))
 have HZ9 : Hid (∀ a w, KT a w → Q10 (.exit 0) a w) := fun a w hk => HO10.out.x 0 (by simp) a w (HO11.out.x 0 (by simp) a w (HO12.out.x 0 (by simp) a w (HO13.out.x 0 (by simp) a w (HO14.out.x 0 (by simp) a w (HE0.out a w (HNT.out a w hk))))))
 have HX8 : Hid (∀ a w, Kb8 a w → Q1 (.exit 8) a w) := fun a w hk => HO1.out.x 8 (by simp) a w (HO2.out.x 8 (by simp) a w (HO3.out.x 8 (by simp) a w (HO4.out.x 8 (by simp) a w (HO5.out.x 8 (by simp) a w (HO6.out.x 8 (by simp) a w (HO7.out.x 8 (by simp) a w (HE8.out a w hk)))))))
 have HR8 : Hid (∀ a w, _ → Q9 .ret a w) := fun a w hq => HO9.out.r a w (HO10.out.r a w (HO11.out.r a w (HO12.out.r a w (HO13.out.r a w (HO14.out.r a w (HO0.out.r a w (HOT.out.r a w hq)))))))
 have HP8 : Hid (∀ c a w, _ → Q9 (.panic c) a w) := fun c a w hq => HO9.out.p c a w (HO10.out.p c a w (HO11.out.p c a w (HO12.out.p c a w (HO13.out.p c a w (HO14.out.p c a w (HO0.out.p c a w (HOT.out.p c a w hq)))))))
 have HZ8 : Hid (∀ a w, KT a w → Q9 (.exit 0) a w) := fun a w hk => HO9.out.x 0 (by simp) a w (HO10.out.x 0 (by simp) a w (HO11.out.x 0 (by simp) a w (HO12.out.x 0 (by simp) a w (HO13.out.x 0 (by simp) a w (HO14.out.x 0 (by simp) a w (HE0.out a w (HNT.out a w hk)))))))
 have HX7 : Hid (∀ a w, Kb7 a w → Q1 (.exit 7) a w) := fun a w hk => HO1.out.x 7 (by simp) a w (HO2.out.x 7 (by simp) a w (HO3.out.x 7 (by simp) a w (HO4.out.x 7 (by simp) a w (HO5.out.x 7 (by simp) a w (HO6.out.x 7 (by simp) a w (HE7.out a w hk))))))
 have HR7 : Hid (∀ a w, _ → Q8 .ret a w) := fun a w hq => HO8.out.r a w (HO9.out.r a w (HO10.out.r a w (HO11.out.r a w (HO12.out.r a w (HO13.out.r a w (HO14.out.r a w (HO0.out.r a w (HOT.out.r a w hq))))))))
 have HP7 : Hid (∀ c a w, _ → Q8 (.panic c) a w) := fun c a w hq => HO8.out.p c a w (HO9.out.p c a w (HO10.out.p c a w (HO11.out.p c a w (HO12.out.p c a w (HO13.out.p c a w (HO14.out.p c a w (HO0.out.p c a w (HOT.out.p c a w hq))))))))
 have HZ7 : Hid (∀ a w, KT a w → Q8 (.exit 0) a w) := fun a w hk => HO8.out.x 0 (by simp) a w (HO9.out.x 0 (by simp) a w (HO10.out.x 0 (by simp) a w (HO11.out.x 0 (by simp) a w (HO12.out.x 0 (by simp) a w (HO13.out.x 0 (by simp) a w (HO14.out.x 0 (by simp) a w (HE0.out a w (HNT.out a w hk))))))))
 have HX6 : Hid (∀ a w, Kb6 a w → Q1 (.exit 6) a w) := fun a w hk => HO1.out.x 6 (by simp) a w (HO2.out.x 6 (by simp) a w (HO3.out.x 6 (by simp) a w (HO4.out.x 6 (by simp) a w (HO5.out.x 6 (by simp) a w (HE6.out a w hk)))))
 have HR6 : Hid (∀ a w, _ → Q7 .ret a w) := fun a w hq => HO7.out.r a w (HO8.out.r a w (HO9.out.r a w (HO10.out.r a w (HO11.out.r a w (HO12.out.r a w (HO13.out.r a w (HO14.out.r a w (HO0.out.r a w (HOT.out.r a w hq)))))))))
 have HP6 : Hid (∀ c a w, _ → Q7 (.panic c) a w) := fun c a w hq => HO7.out.p c a w (HO8.out.p c a w (HO9.out.p c a w (HO10.out.p c a w (HO11.out.p c a w (HO12.out.p c a w (HO13.out.p c a w (HO14.out.p c a w (HO0.out.p c a w (HOT.out.p c a w hq)))))))))
 have HZ6 : Hid (∀ a w, KT a w → Q7 (.exit 0) a w) := fun a w hk => HO7.out.x 0 (by simp) a w (HO8.out.x 0 (by simp) a w (HO9.out.x 0 (by simp) a w (HO10.out.x 0 (by simp) a w (HO11.out.x 0 (by simp) a w (HO12.out.x 0 (by simp) a w (HO13.out.x 0 (by simp) a w (HO14.out.x 0 (by simp) a w (HE0.out a w (HNT.out a w hk)))))))))
 have HX5 : Hid (∀ a w, Kb5 a w → Q1 (.exit 5) a w) := fun a w hk => HO1.out.x 5 (by simp) a w (HO2.out.x 5 (by simp) a w (HO3.out.x 5 (by simp) a w (HO4.out.x 5 (by simp) a w (HE5.out a w hk))))
 have HR5 : Hid (∀ a w, _ → Q6 .ret a w) := fun a w hq => HO6.out.r a w (HO7.out.r a w (HO8.out.r a w (HO9.out.r a w (HO10.out.r a w (HO11.out.r a w (HO12.out.r a w (HO13.out.r a w (HO14.out.r a w (HO0.out.r a w (HOT.out.r a w hq))))))))))
 have HP5 : Hid (∀ c a w, _ → Q6 (.panic c) a w) := fun c a w hq => HO6.out.p c a w (HO7.out.p c a w (HO8.out.p c a w (HO9.out.p c a w (HO10.out.p c a w (HO11.out.p c a w (HO12.out.p c a w (HO13.out.p c a w (HO14.out.p c a w (HO0.out.p c a w (HOT.out.p c a w hq))))))))))
 have HZ5 : Hid (∀ a w, KT a w → Q6 (.exit 0) a w) := fun a w hk => HO6.out.x 0 (by simp) a w (HO7.out.x 0 (by simp) a w (HO8.out.x 0 (by simp) a w (HO9.out.x 0 (by simp) a w (HO10.out.x 0 (by simp) a w (HO11.out.x 0 (by simp) a w (HO12.out.x 0 (by simp) a w (HO13.out.x 0 (by simp) a w (HO14.out.x 0 (by simp) a w (HE0.out a w (HNT.out a w hk))))))))))
 have HX4 : Hid (∀ a w, Kb4 a w → Q1 (.exit 4) a w) := fun a w hk => HO1.out.x 4 (by simp) a w (HO2.out.x 4 (by simp) a w (HO3.out.x 4 (by simp) a w (HE4.out a w hk)))
 have HR4 : Hid (∀ a w, _ → Q5 .ret a w) := fun a w hq => HO5.out.r a w (HO6.out.r a w (HO7.out.r a w (HO8.out.r a w (HO9.out.r a w (HO10.out.r a w (HO11.out.r a w (HO12.out.r a w (HO13.out.r a w (HO14.out.r a w (HO0.out.r a w (HOT.out.r a w hq)))))))))))
 have HP4 : Hid (∀ c a w, _ → Q5 (.panic c) a w) := fun c a w hq => HO5.out.p c a w (HO6.out.p c a w (HO7.out.p c a w (HO8.out.p c a w (HO9.out.p c a w (HO10.out.p c a w (HO11.out.p c a w (HO12.out.p c a w (HO13.out.p c a w (HO14.out.p c a w (HO0.out.p c a w (HOT.out.p c a w hq)))))))))))
 have HZ4 : Hid (∀ a w, KT a w → Q5 (.exit 0) a w) := fun a w hk => HO5.out.x 0 (by simp) a w (HO6.out.x 0 (by simp) a w (HO7.out.x 0 (by simp) a w (HO8.out.x 0 (by simp) a w (HO9.out.x 0 (by simp) a w (HO10.out.x 0 (by simp) a w (HO11.out.x 0 (by simp) a w (HO12.out.x 0 (by simp) a w (HO13.out.x 0 (by simp) a w (HO14.out.x 0 (by simp) a w (HE0.out a w (HNT.out a w hk)))))))))))
 have HX3 : Hid (∀ a w, Kb3 a w → Q1 (.exit 3) a w) := fun a w hk => HO1.out.x 3 (by simp) a w (HO2.out.x 3 (by simp) a w (HE3.out a w hk))
 have HR3 : Hid (∀ a w, _ → Q4 .ret a w) := fun a w hq => HO4.out.r a w (HO5.out.r a w (HO6.out.r a w (HO7.out.r a w (HO8.out.r a w (HO9.out.r a w (HO10.out.r a w (HO11.out.r a w (HO12.out.r a w (HO13.out.r a w (HO14.out.r a w (HO0.out.r a w (HOT.out.r a w hq))))))))))))
 have HP3 : Hid (∀ c a w, _ → Q4 (.panic c) a w) := fun c a w hq => HO4.out.p c a w (HO5.out.p c a w (HO6.out.p c a w (HO7.out.p c a w (HO8.out.p c a w (HO9.out.p c a w (HO10.out.p c a w (HO11.out.p c a w (HO12.out.p c a w (HO13.out.p c a w (HO14.out.p c a w (HO0.out.p c a w (HOT.out.p c a w hq))))))))))))
 have HZ3 : Hid (∀ a w, KT a w → Q4 (.exit 0) a w) := fun a w hk => HO4.out.x 0 (by simp) a w (HO5.out.x 0 (by simp) a w (HO6.out.x 0 (by simp) a w (HO7.out.x 0 (by simp) a w (HO8.out.x 0 (by simp) a w (HO9.out.x 0 (by simp) a w (HO10.out.x 0 (by simp) a w (HO11.out.x 0 (by simp) a w (HO12.out.x 0 (by simp) a w (HO13.out.x 0 (by simp) a w (HO14.out.x 0 (by simp) a w (HE0.out a w (HNT.out a w hk))))))))))))
 have HX2 : Hid (∀ a w, Kb2 a w → Q1 (.exit 2) a w) := fun a w hk => HO1.out.x 2 (by simp) a w (HE2.out a w hk)
 have HR2 : Hid (∀ a w, _ → Q3 .ret a w) := fun a w hq => HO3.out.r a w (HO4.out.r a w (HO5.out.r a w (HO6.out.r a w (HO7.out.r a w (HO8.out.r a w (HO9.out.r a w (HO10.out.r a w (HO11.out.r a w (HO12.out.r a w (HO13.out.r a w (HO14.out.r a w (HO0.out.r a w (HOT.out.r a w hq)))))))))))))
 have HP2 : Hid (∀ c a w, _ → Q3 (.panic c) a w) := fun c a w hq => HO3.out.p c a w (HO4.out.p c a w (HO5.out.p c a w (HO6.out.p c a w (HO7.out.p c a w (HO8.out.p c a w (HO9.out.p c a w (HO10.out.p c a w (HO11.out.p c a w (HO12.out.p c a w (HO13.out.p c a w (HO14.out.p c a w (HO0.out.p c a w (HOT.out.p c a w hq)))))))))))))
 have HZ2 : Hid (∀ a w, KT a w → Q3 (.exit 0) a w) := fun a w hk => HO3.out.x 0 (by simp) a w (HO4.out.x 0 (by simp) a w (HO5.out.x 0 (by simp) a w (HO6.out.x 0 (by simp) a w (HO7.out.x 0 (by simp) a w (HO8.out.x 0 (by simp) a w (HO9.out.x 0 (by simp) a w (HO10.out.x 0 (by simp) a w (HO11.out.x 0 (by simp) a w (HO12.out.x 0 (by simp) a w (HO13.out.x 0 (by simp) a w (HO14.out.x 0 (by simp) a w (HE0.out a w (HNT.out a w hk)))))))))))))
 have HX1 : Hid (∀ a w, Kb1 a w → Q1 (.exit 1) a w) := fun a w hk => HE1.out a w hk
 have HR1 : Hid (∀ a w, _ → Q2 .ret a w) := fun a w hq => HO2.out.r a w (HO3.out.r a w (HO4.out.r a w (HO5.out.r a w (HO6.out.r a w (HO7.out.r a w (HO8.out.r a w (HO9.out.r a w (HO10.out.r a w (HO11.out.r a w (HO12.out.r a w (HO13.out.r a w (HO14.out.r a w (HO0.out.r a w (HOT.out.r a w hq))))))))))))))
 have HP1 : Hid (∀ c a w, _ → Q2 (.panic c) a w) := fun c a w hq => HO2.out.p c a w (HO3.out.p c a w (HO4.out.p c a w (HO5.out.p c a w (HO6.out.p c a w (HO7.out.p c a w (HO8.out.p c a w (HO9.out.p c a w (HO10.out.p c a w (HO11.out.p c a w (HO12.out.p c a w (HO13.out.p c a w (HO14.out.p c a w (HO0.out.p c a w (HOT.out.p c a w hq))))))))))))))
 have HZ1 : Hid (∀ a w, KT a w → Q2 (.exit 0) a w) := fun a w hk => HO2.out.x 0 (by simp) a w (HO3.out.x 0 (by simp) a w (HO4.out.x 0 (by simp) a w (HO5.out.x 0 (by simp) a w (HO6.out.x 0 (by simp) a w (HO7.out.x 0 (by simp) a w (HO8.out.x 0 (by simp) a w (HO9.out.x 0 (by simp) a w (HO10.out.x 0 (by simp) a w (HO11.out.x 0 (by simp) a w (HO12.out.x 0 (by simp) a w (HO13.out.x 0 (by simp) a w (HO14.out.x 0 (by simp) a w (HE0.out a w (HNT.out a w hk))))))))))))))
 have HZx : Hid (∀ a w, KT a w → Q1 (.exit 0) a w) := fun a w hk => HO1.out.x 0 (by simp) a w (HO2.out.x 0 (by simp) a w (HO3.out.x 0 (by simp) a w (HO4.out.x 0 (by simp) a w (HO5.out.x 0 (by simp) a w (HO6.out.x 0 (by simp) a w (HO7.out.x 0 (by simp) a w (HO8.out.x 0 (by simp) a w (HO9.out.x 0 (by simp) a w (HO10.out.x 0 (by simp) a w (HO11.out.x 0 (by simp) a w (HO12.out.x 0 (by simp) a w (HO13.out.x 0 (by simp) a w (HO14.out.x 0 (by simp) a w (HE0.out a w (HNT.out a w hk)))))))))))))))
 clear HE0 HO0 HE14 HO14 HE13 HO13 HE12 HO12 HE11 HO11 HE10 HO10 HE9 HO9 HE8 HO8 HE7 HO7 HE6 HO6 HE5 HO5 HE4 HO4 HE3 HO3 HE2 HO2 HE1 HO1 HN0 HNT
 refine wp_seq_k fun Kx hKx => ?_
 have HKx := TW.hide hKx
 clear hKx
 refine wp_seq_k fun Kr hKr => ?_
 have HKr := TW.hide hKr
 clear hKr
 by_cases h_1 : op = 1
 ·have k_1 : (op == 1) = true := by simp [h_1]
  have HV := TW.hide h_1
  clear h_1
  go_wp2
  refine HX1.out _ _ ?_
  refine HKb1.out _ _ ?_
  have hz : op = 1 := HV.out
  clear HV
  have HQ : Hid True := trivial
  have HZ : Hid (op = 1) := hz
  clear hz
  go_wp2_with (refine wpList_store_row (by rfl) 103 _ _ (by rfl) w.heap.size #[.int .i64 1, .int .i64 2, .int .i64 0] (by rfl) (by rfl) 103 _ HN.out (by kernel_rfl) (by rfl) (by simp [Value.oneCell']) ?_)
  refine HR1.out _ _ ?_
  refine bodyPost_ret (v := .tuple #[.agg #[.int .i64 1, .int .i64 2, .int .i64 0], .bool true]) (results_row_tmp (P := Tryz.prog) Tryz.results51 _ _ w.heap.size 103 _ (0, 0) _ _ (by rfl) (by rfl) (setRow_heap _ _ _ #[.int .i64 1, .int .i64 2, .int .i64 0] _ _ HN.out) Tryz.underlying103 rfl (by kernel_rfl)) rfl ?_
  rw [HP.out]
  exact ⟨1, 2, 0, true, rfl, by rw [HZ.out]; simp [HQ.out], by rw [HZ.out]; simp [wT], below_setRow HB.out (Nat.le_refl _)⟩
 have k_1 : (op == 1) = false := by simp [h_1]
 go_wp2
 refine HKr.out _ _ ?_
 clear HKr Kr
 clear k_1
 refine wp_seq_k fun Kr hKr => ?_
 have HKr := TW.hide hKr
 clear hKr
 by_cases h_12 : op = 12
 ·have k_12 : (op == 12) = true := by simp [h_12]
  have HV := TW.hide h_12
  clear h_12
  go_wp2
  refine HX2.out _ _ ?_
  refine HKb2.out _ _ ?_
  have hz : op = 12 := HV.out
  clear HV
  by_cases hc : cells = 0
  ·have HQ : Hid (cells = 0) := hc
   have kc : (cells == 0) = true := by simp [hc]
   have HZ : Hid (op = 12) := hz
   clear hc hz
   go_wp2_with (refine wpList_store_row (by rfl) 103 _ _ (by rfl) w.heap.size #[.int .i64 0, .int .i64 0, .int .i64 0] (by rfl) (by rfl) 103 _ HN.out (by kernel_rfl) (by rfl) (by simp [Value.oneCell']) ?_)
   refine HR2.out _ _ ?_
   refine bodyPost_ret (v := .tuple #[.agg #[.int .i64 0, .int .i64 0, .int .i64 0], .bool false]) (results_row_tmp (P := Tryz.prog) Tryz.results51 _ _ w.heap.size 103 _ (0, 0) _ _ (by rfl) (by rfl) (setRow_heap _ _ _ #[.int .i64 0, .int .i64 0, .int .i64 0] _ _ HN.out) Tryz.underlying103 rfl (by kernel_rfl)) rfl ?_
   rw [HP.out]
   exact ⟨0, 0, 0, false, rfl, by rw [HZ.out]; simp [HQ.out], by rw [HZ.out]; simp [wT], below_setRow HB.out (Nat.le_refl _)⟩
  ·have HQ : Hid (cells ≠ 0) := hc
   have kc : (cells == 0) = false := by simp [hc]
   have HZ : Hid (op = 12) := hz
   clear hc hz
   go_wp2
   refine HN3.out _ _ ?_
   refine HKb3.out _ _ ?_
   go_wp2_with (refine wpList_store_row (by rfl) 103 _ _ (by rfl) w.heap.size #[.int .i64 1, .int .i64 1, .int .i64 0] (by rfl) (by rfl) 103 _ HN.out (by kernel_rfl) (by rfl) (by simp [Value.oneCell']) ?_)
   refine HR3.out _ _ ?_
   refine bodyPost_ret (v := .tuple #[.agg #[.int .i64 1, .int .i64 1, .int .i64 0], .bool true]) (results_row_tmp (P := Tryz.prog) Tryz.results51 _ _ w.heap.size 103 _ (0, 0) _ _ (by rfl) (by rfl) (setRow_heap _ _ _ #[.int .i64 1, .int .i64 1, .int .i64 0] _ _ HN.out) Tryz.underlying103 rfl (by kernel_rfl)) rfl ?_
   rw [HP.out]
   exact ⟨1, 1, 0, true, rfl, by rw [HZ.out]; simp [HQ.out], by rw [HZ.out]; simp [wT], below_setRow HB.out (Nat.le_refl _)⟩
 have k_12 : (op == 12) = false := by simp [h_12]
 by_cases h_13 : op = 13
 ·have k_13 : (op == 13) = true := by simp [h_13]
  have HV := TW.hide h_13
  clear h_13
  go_wp2
  refine HX2.out _ _ ?_
  refine HKb2.out _ _ ?_
  have hz : op = 13 := HV.out
  clear HV
  by_cases hc : cells = 0
  ·have HQ : Hid (cells = 0) := hc
   have kc : (cells == 0) = true := by simp [hc]
   have HZ : Hid (op = 13) := hz
   clear hc hz
   go_wp2_with (refine wpList_store_row (by rfl) 103 _ _ (by rfl) w.heap.size #[.int .i64 0, .int .i64 0, .int .i64 0] (by rfl) (by rfl) 103 _ HN.out (by kernel_rfl) (by rfl) (by simp [Value.oneCell']) ?_)
   refine HR2.out _ _ ?_
   refine bodyPost_ret (v := .tuple #[.agg #[.int .i64 0, .int .i64 0, .int .i64 0], .bool false]) (results_row_tmp (P := Tryz.prog) Tryz.results51 _ _ w.heap.size 103 _ (0, 0) _ _ (by rfl) (by rfl) (setRow_heap _ _ _ #[.int .i64 0, .int .i64 0, .int .i64 0] _ _ HN.out) Tryz.underlying103 rfl (by kernel_rfl)) rfl ?_
   rw [HP.out]
   exact ⟨0, 0, 0, false, rfl, by rw [HZ.out]; simp [HQ.out], by rw [HZ.out]; simp [wT], below_setRow HB.out (Nat.le_refl _)⟩
  ·have HQ : Hid (cells ≠ 0) := hc
   have kc : (cells == 0) = false := by simp [hc]
   have HZ : Hid (op = 13) := hz
   clear hc hz
   go_wp2
   refine HN3.out _ _ ?_
   refine HKb3.out _ _ ?_
   go_wp2_with (refine wpList_store_row (by rfl) 103 _ _ (by rfl) w.heap.size #[.int .i64 1, .int .i64 1, .int .i64 0] (by rfl) (by rfl) 103 _ HN.out (by kernel_rfl) (by rfl) (by simp [Value.oneCell']) ?_)
   refine HR3.out _ _ ?_
   refine bodyPost_ret (v := .tuple #[.agg #[.int .i64 1, .int .i64 1, .int .i64 0], .bool true]) (results_row_tmp (P := Tryz.prog) Tryz.results51 _ _ w.heap.size 103 _ (0, 0) _ _ (by rfl) (by rfl) (setRow_heap _ _ _ #[.int .i64 1, .int .i64 1, .int .i64 0] _ _ HN.out) Tryz.underlying103 rfl (by kernel_rfl)) rfl ?_
   rw [HP.out]
   exact ⟨1, 1, 0, true, rfl, by rw [HZ.out]; simp [HQ.out], by rw [HZ.out]; simp [wT], below_setRow HB.out (Nat.le_refl _)⟩
 have k_13 : (op == 13) = false := by simp [h_13]
 go_wp2
 refine HKr.out _ _ ?_
 clear HKr Kr
 clear k_12 k_13
 refine wp_seq_k fun Kr hKr => ?_
 have HKr := TW.hide hKr
 clear hKr
 by_cases h_2 : op = 2
 ·have k_2 : (op == 2) = true := by simp [h_2]
  have HV := TW.hide h_2
  clear h_2
  go_wp2
  refine HX3.out _ _ ?_
  refine HKb3.out _ _ ?_
  have hz : op = 2 := HV.out
  clear HV
  have HQ : Hid True := trivial
  have HZ : Hid (op = 2) := hz
  clear hz
  go_wp2_with (refine wpList_store_row (by rfl) 103 _ _ (by rfl) w.heap.size #[.int .i64 1, .int .i64 1, .int .i64 0] (by rfl) (by rfl) 103 _ HN.out (by kernel_rfl) (by rfl) (by simp [Value.oneCell']) ?_)
  refine HR3.out _ _ ?_
  refine bodyPost_ret (v := .tuple #[.agg #[.int .i64 1, .int .i64 1, .int .i64 0], .bool true]) (results_row_tmp (P := Tryz.prog) Tryz.results51 _ _ w.heap.size 103 _ (0, 0) _ _ (by rfl) (by rfl) (setRow_heap _ _ _ #[.int .i64 1, .int .i64 1, .int .i64 0] _ _ HN.out) Tryz.underlying103 rfl (by kernel_rfl)) rfl ?_
  rw [HP.out]
  exact ⟨1, 1, 0, true, rfl, by rw [HZ.out]; simp [HQ.out], by rw [HZ.out]; simp [wT], below_setRow HB.out (Nat.le_refl _)⟩
 have k_2 : (op == 2) = false := by simp [h_2]
 go_wp2
 refine HKr.out _ _ ?_
 clear HKr Kr
 clear k_2
 refine wp_seq_k fun Kr hKr => ?_
 have HKr := TW.hide hKr
 clear hKr
 by_cases h_3 : op = 3
 ·have k_3 : (op == 3) = true := by simp [h_3]
  have HV := TW.hide h_3
  clear h_3
  go_wp2
  refine HX4.out _ _ ?_
  refine HKb4.out _ _ ?_
  have hz : op = 3 := HV.out
  clear HV
  have HQ : Hid True := trivial
  have HZ : Hid (op = 3) := hz
  clear hz
  go_wp2_with (refine wpList_store_row (by rfl) 103 _ _ (by rfl) w.heap.size #[.int .i64 1, .int .i64 1, .int .i64 3] (by rfl) (by rfl) 103 _ HN.out (by kernel_rfl) (by rfl) (by simp [Value.oneCell']) ?_)
  refine HR4.out _ _ ?_
  refine bodyPost_ret (v := .tuple #[.agg #[.int .i64 1, .int .i64 1, .int .i64 3], .bool true]) (results_row_tmp (P := Tryz.prog) Tryz.results51 _ _ w.heap.size 103 _ (0, 0) _ _ (by rfl) (by rfl) (setRow_heap _ _ _ #[.int .i64 1, .int .i64 1, .int .i64 3] _ _ HN.out) Tryz.underlying103 rfl (by kernel_rfl)) rfl ?_
  rw [HP.out]
  exact ⟨1, 1, 3, true, rfl, by rw [HZ.out]; simp [HQ.out], by rw [HZ.out]; simp [wT], below_setRow HB.out (Nat.le_refl _)⟩
 have k_3 : (op == 3) = false := by simp [h_3]
 go_wp2
 refine HKr.out _ _ ?_
 clear HKr Kr
 clear k_3
 refine wp_seq_k fun Kr hKr => ?_
 have HKr := TW.hide hKr
 clear hKr
 by_cases h_4 : op = 4
 ·have k_4 : (op == 4) = true := by simp [h_4]
  have HV := TW.hide h_4
  clear h_4
  go_wp2
  refine HX5.out _ _ ?_
  refine HKb5.out _ _ ?_
  have hz : op = 4 := HV.out
  clear HV
  have HQ : Hid True := trivial
  have HZ : Hid (op = 4) := hz
  clear hz
  go_wp2_with (refine wpList_store_row (by rfl) 103 _ _ (by rfl) w.heap.size #[.int .i64 0, .int .i64 0, .int .i64 3] (by rfl) (by rfl) 103 _ HN.out (by kernel_rfl) (by rfl) (by simp [Value.oneCell']) ?_)
  refine HR5.out _ _ ?_
  refine bodyPost_ret (v := .tuple #[.agg #[.int .i64 0, .int .i64 0, .int .i64 3], .bool true]) (results_row_tmp (P := Tryz.prog) Tryz.results51 _ _ w.heap.size 103 _ (0, 0) _ _ (by rfl) (by rfl) (setRow_heap _ _ _ #[.int .i64 0, .int .i64 0, .int .i64 3] _ _ HN.out) Tryz.underlying103 rfl (by kernel_rfl)) rfl ?_
  rw [HP.out]
  exact ⟨0, 0, 3, true, rfl, by rw [HZ.out]; simp [HQ.out], by rw [HZ.out]; simp [wT], below_setRow HB.out (Nat.le_refl _)⟩
 have k_4 : (op == 4) = false := by simp [h_4]
 go_wp2
 refine HKr.out _ _ ?_
 clear HKr Kr
 clear k_4
 refine wp_seq_k fun Kr hKr => ?_
 have HKr := TW.hide hKr
 clear hKr
 by_cases h_5 : op = 5
 ·have k_5 : (op == 5) = true := by simp [h_5]
  have HV := TW.hide h_5
  clear h_5
  go_wp2
  refine HX6.out _ _ ?_
  refine HKb6.out _ _ ?_
  have hz : op = 5 := HV.out
  clear HV
  have HQ : Hid True := trivial
  have HZ : Hid (op = 5) := hz
  clear hz
  go_wp2_with (refine wpList_store_row (by rfl) 103 _ _ (by rfl) w.heap.size #[.int .i64 4, .int .i64 1, .int .i64 0] (by rfl) (by rfl) 103 _ HN.out (by kernel_rfl) (by rfl) (by simp [Value.oneCell']) ?_)
  refine HR6.out _ _ ?_
  refine bodyPost_ret (v := .tuple #[.agg #[.int .i64 4, .int .i64 1, .int .i64 0], .bool true]) (results_row_tmp (P := Tryz.prog) Tryz.results51 _ _ w.heap.size 103 _ (0, 0) _ _ (by rfl) (by rfl) (setRow_heap _ _ _ #[.int .i64 4, .int .i64 1, .int .i64 0] _ _ HN.out) Tryz.underlying103 rfl (by kernel_rfl)) rfl ?_
  rw [HP.out]
  exact ⟨4, 1, 0, true, rfl, by rw [HZ.out]; simp [HQ.out], by rw [HZ.out]; simp [wT], below_setRow HB.out (Nat.le_refl _)⟩
 have k_5 : (op == 5) = false := by simp [h_5]
 go_wp2
 refine HKr.out _ _ ?_
 clear HKr Kr
 clear k_5
 refine wp_seq_k fun Kr hKr => ?_
 have HKr := TW.hide hKr
 clear hKr
 by_cases h_6 : op = 6
 ·have k_6 : (op == 6) = true := by simp [h_6]
  have HV := TW.hide h_6
  clear h_6
  go_wp2
  refine HX7.out _ _ ?_
  refine HKb7.out _ _ ?_
  have hz : op = 6 := HV.out
  clear HV
  have HQ : Hid True := trivial
  have HZ : Hid (op = 6) := hz
  clear hz
  go_wp2_with (refine wpList_store_row (by rfl) 103 _ _ (by rfl) w.heap.size #[.int .i64 4, .int .i64 1, .int .i64 3] (by rfl) (by rfl) 103 _ HN.out (by kernel_rfl) (by rfl) (by simp [Value.oneCell']) ?_)
  refine HR7.out _ _ ?_
  refine bodyPost_ret (v := .tuple #[.agg #[.int .i64 4, .int .i64 1, .int .i64 3], .bool true]) (results_row_tmp (P := Tryz.prog) Tryz.results51 _ _ w.heap.size 103 _ (0, 0) _ _ (by rfl) (by rfl) (setRow_heap _ _ _ #[.int .i64 4, .int .i64 1, .int .i64 3] _ _ HN.out) Tryz.underlying103 rfl (by kernel_rfl)) rfl ?_
  rw [HP.out]
  exact ⟨4, 1, 3, true, rfl, by rw [HZ.out]; simp [HQ.out], by rw [HZ.out]; simp [wT], below_setRow HB.out (Nat.le_refl _)⟩
 have k_6 : (op == 6) = false := by simp [h_6]
 go_wp2
 refine HKr.out _ _ ?_
 clear HKr Kr
 clear k_6
 refine wp_seq_k fun Kr hKr => ?_
 have HKr := TW.hide hKr
 clear hKr
 by_cases h_7 : op = 7
 ·have k_7 : (op == 7) = true := by simp [h_7]
  have HV := TW.hide h_7
  clear h_7
  go_wp2
  refine HX8.out _ _ ?_
  refine HKb8.out _ _ ?_
  have hz : op = 7 := HV.out
  clear HV
  have HQ : Hid True := trivial
  have HZ : Hid (op = 7) := hz
  clear hz
  go_wp2_with (refine wpList_store_row (by rfl) 103 _ _ (by rfl) w.heap.size #[.int .i64 4, .int .i64 0, .int .i64 0] (by rfl) (by rfl) 103 _ HN.out (by kernel_rfl) (by rfl) (by simp [Value.oneCell']) ?_)
  refine HR8.out _ _ ?_
  refine bodyPost_ret (v := .tuple #[.agg #[.int .i64 4, .int .i64 0, .int .i64 0], .bool true]) (results_row_tmp (P := Tryz.prog) Tryz.results51 _ _ w.heap.size 103 _ (0, 0) _ _ (by rfl) (by rfl) (setRow_heap _ _ _ #[.int .i64 4, .int .i64 0, .int .i64 0] _ _ HN.out) Tryz.underlying103 rfl (by kernel_rfl)) rfl ?_
  rw [HP.out]
  exact ⟨4, 0, 0, true, rfl, by rw [HZ.out]; simp [HQ.out], by rw [HZ.out]; simp [wT], below_setRow HB.out (Nat.le_refl _)⟩
 have k_7 : (op == 7) = false := by simp [h_7]
 go_wp2
 refine HKr.out _ _ ?_
 clear HKr Kr
 clear k_7
 refine wp_seq_k fun Kr hKr => ?_
 have HKr := TW.hide hKr
 clear hKr
 by_cases h_8 : op = 8
 ·have k_8 : (op == 8) = true := by simp [h_8]
  have HV := TW.hide h_8
  clear h_8
  go_wp2
  refine HX9.out _ _ ?_
  refine HKb9.out _ _ ?_
  have hz : op = 8 := HV.out
  clear HV
  have HQ : Hid True := trivial
  have HZ : Hid (op = 8) := hz
  clear hz
  go_wp2_with (refine wpList_store_row (by rfl) 103 _ _ (by rfl) w.heap.size #[.int .i64 5, .int .i64 0, .int .i64 0] (by rfl) (by rfl) 103 _ HN.out (by kernel_rfl) (by rfl) (by simp [Value.oneCell']) ?_)
  refine HR9.out _ _ ?_
  refine bodyPost_ret (v := .tuple #[.agg #[.int .i64 5, .int .i64 0, .int .i64 0], .bool true]) (results_row_tmp (P := Tryz.prog) Tryz.results51 _ _ w.heap.size 103 _ (0, 0) _ _ (by rfl) (by rfl) (setRow_heap _ _ _ #[.int .i64 5, .int .i64 0, .int .i64 0] _ _ HN.out) Tryz.underlying103 rfl (by kernel_rfl)) rfl ?_
  rw [HP.out]
  exact ⟨5, 0, 0, true, rfl, by rw [HZ.out]; simp [HQ.out], by rw [HZ.out]; simp [wT], below_setRow HB.out (Nat.le_refl _)⟩
 have k_8 : (op == 8) = false := by simp [h_8]
 by_cases h_9 : op = 9
 ·have k_9 : (op == 9) = true := by simp [h_9]
  have HV := TW.hide h_9
  clear h_9
  go_wp2
  refine HX9.out _ _ ?_
  refine HKb9.out _ _ ?_
  have hz : op = 9 := HV.out
  clear HV
  have HQ : Hid True := trivial
  have HZ : Hid (op = 9) := hz
  clear hz
  go_wp2_with (refine wpList_store_row (by rfl) 103 _ _ (by rfl) w.heap.size #[.int .i64 5, .int .i64 0, .int .i64 0] (by rfl) (by rfl) 103 _ HN.out (by kernel_rfl) (by rfl) (by simp [Value.oneCell']) ?_)
  refine HR9.out _ _ ?_
  refine bodyPost_ret (v := .tuple #[.agg #[.int .i64 5, .int .i64 0, .int .i64 0], .bool true]) (results_row_tmp (P := Tryz.prog) Tryz.results51 _ _ w.heap.size 103 _ (0, 0) _ _ (by rfl) (by rfl) (setRow_heap _ _ _ #[.int .i64 5, .int .i64 0, .int .i64 0] _ _ HN.out) Tryz.underlying103 rfl (by kernel_rfl)) rfl ?_
  rw [HP.out]
  exact ⟨5, 0, 0, true, rfl, by rw [HZ.out]; simp [HQ.out], by rw [HZ.out]; simp [wT], below_setRow HB.out (Nat.le_refl _)⟩
 have k_9 : (op == 9) = false := by simp [h_9]
 go_wp2
 refine HKr.out _ _ ?_
 clear HKr Kr
 clear k_8 k_9
 refine wp_seq_k fun Kr hKr => ?_
 have HKr := TW.hide hKr
 clear hKr
 by_cases h_10 : op = 10
 ·have k_10 : (op == 10) = true := by simp [h_10]
  have HV := TW.hide h_10
  clear h_10
  go_wp2
  refine HX10.out _ _ ?_
  refine HKb10.out _ _ ?_
  have hz : op = 10 := HV.out
  clear HV
  have HQ : Hid True := trivial
  have HZ : Hid (op = 10) := hz
  clear hz
  go_wp2_with (refine wpList_store_row (by rfl) 103 _ _ (by rfl) w.heap.size #[.int .i64 6, .int .i64 2, .int .i64 0] (by rfl) (by rfl) 103 _ HN.out (by kernel_rfl) (by rfl) (by simp [Value.oneCell']) ?_)
  refine HR10.out _ _ ?_
  refine bodyPost_ret (v := .tuple #[.agg #[.int .i64 6, .int .i64 2, .int .i64 0], .bool true]) (results_row_tmp (P := Tryz.prog) Tryz.results51 _ _ w.heap.size 103 _ (0, 0) _ _ (by rfl) (by rfl) (setRow_heap _ _ _ #[.int .i64 6, .int .i64 2, .int .i64 0] _ _ HN.out) Tryz.underlying103 rfl (by kernel_rfl)) rfl ?_
  rw [HP.out]
  exact ⟨6, 2, 0, true, rfl, by rw [HZ.out]; simp [HQ.out], by rw [HZ.out]; simp [wT], below_setRow HB.out (Nat.le_refl _)⟩
 have k_10 : (op == 10) = false := by simp [h_10]
 go_wp2
 refine HKr.out _ _ ?_
 clear HKr Kr
 clear k_10
 refine wp_seq_k fun Kr hKr => ?_
 have HKr := TW.hide hKr
 clear hKr
 by_cases h_11 : op = 11
 ·have k_11 : (op == 11) = true := by simp [h_11]
  have HV := TW.hide h_11
  clear h_11
  go_wp2
  refine HX11.out _ _ ?_
  refine HKb11.out _ _ ?_
  have hz : op = 11 := HV.out
  clear HV
  have HQ : Hid True := trivial
  have HZ : Hid (op = 11) := hz
  clear hz
  go_wp2_with (refine wpList_store_row (by rfl) 103 _ _ (by rfl) w.heap.size #[.int .i64 6, .int .i64 0, .int .i64 0] (by rfl) (by rfl) 103 _ HN.out (by kernel_rfl) (by rfl) (by simp [Value.oneCell']) ?_)
  refine HR11.out _ _ ?_
  refine bodyPost_ret (v := .tuple #[.agg #[.int .i64 6, .int .i64 0, .int .i64 0], .bool true]) (results_row_tmp (P := Tryz.prog) Tryz.results51 _ _ w.heap.size 103 _ (0, 0) _ _ (by rfl) (by rfl) (setRow_heap _ _ _ #[.int .i64 6, .int .i64 0, .int .i64 0] _ _ HN.out) Tryz.underlying103 rfl (by kernel_rfl)) rfl ?_
  rw [HP.out]
  exact ⟨6, 0, 0, true, rfl, by rw [HZ.out]; simp [HQ.out], by rw [HZ.out]; simp [wT], below_setRow HB.out (Nat.le_refl _)⟩
 have k_11 : (op == 11) = false := by simp [h_11]
 go_wp2
 refine HKr.out _ _ ?_
 clear HKr Kr
 clear k_11
 refine wp_seq_k fun Kr hKr => ?_
 have HKr := TW.hide hKr
 clear hKr
 by_cases h_14 : op = 14
 ·have k_14 : (op == 14) = true := by simp [h_14]
  have HV := TW.hide h_14
  clear h_14
  go_wp2
  refine HX12.out _ _ ?_
  refine HKb12.out _ _ ?_
  have hz : op = 14 := HV.out
  clear HV
  have HQ : Hid True := trivial
  have HZ : Hid (op = 14) := hz
  clear hz
  go_wp2_with (refine wpList_store_row (by rfl) 103 _ _ (by rfl) w.heap.size #[.int .i64 7, .int .i64 0, .int .i64 0] (by rfl) (by rfl) 103 _ HN.out (by kernel_rfl) (by rfl) (by simp [Value.oneCell']) ?_)
  refine HR12.out _ _ ?_
  refine bodyPost_ret (v := .tuple #[.agg #[.int .i64 7, .int .i64 0, .int .i64 0], .bool true]) (results_row_tmp (P := Tryz.prog) Tryz.results51 _ _ w.heap.size 103 _ (0, 0) _ _ (by rfl) (by rfl) (setRow_heap _ _ _ #[.int .i64 7, .int .i64 0, .int .i64 0] _ _ HN.out) Tryz.underlying103 rfl (by kernel_rfl)) rfl ?_
  rw [HP.out]
  exact ⟨7, 0, 0, true, rfl, by rw [HZ.out]; simp [HQ.out], by rw [HZ.out]; simp [wT], below_setRow HB.out (Nat.le_refl _)⟩
 have k_14 : (op == 14) = false := by simp [h_14]
 go_wp2
 refine HKr.out _ _ ?_
 clear HKr Kr
 clear k_14
 refine wp_seq_k fun Kr hKr => ?_
 have HKr := TW.hide hKr
 clear hKr
 by_cases h_15 : op = 15
 ·have k_15 : (op == 15) = true := by simp [h_15]
  have HV := TW.hide h_15
  clear h_15
  go_wp2
  refine HX13.out _ _ ?_
  refine HKb13.out _ _ ?_
  have hz : op = 15 := HV.out
  clear HV
  have HQ : Hid True := trivial
  have HZ : Hid (op = 15) := hz
  clear hz
  go_wp2_with (refine wpList_store_row (by rfl) 103 _ _ (by rfl) w.heap.size #[.int .i64 2, .int .i64 1, .int .i64 0] (by rfl) (by rfl) 103 _ HN.out (by kernel_rfl) (by rfl) (by simp [Value.oneCell']) ?_)
  refine HR13.out _ _ ?_
  refine bodyPost_ret (v := .tuple #[.agg #[.int .i64 2, .int .i64 1, .int .i64 0], .bool true]) (results_row_tmp (P := Tryz.prog) Tryz.results51 _ _ w.heap.size 103 _ (0, 0) _ _ (by rfl) (by rfl) (setRow_heap _ _ _ #[.int .i64 2, .int .i64 1, .int .i64 0] _ _ HN.out) Tryz.underlying103 rfl (by kernel_rfl)) rfl ?_
  rw [HP.out]
  exact ⟨2, 1, 0, true, rfl, by rw [HZ.out]; simp [HQ.out], by rw [HZ.out]; simp [wT], below_setRow HB.out (Nat.le_refl _)⟩
 have k_15 : (op == 15) = false := by simp [h_15]
 go_wp2
 refine HKr.out _ _ ?_
 clear HKr Kr
 clear k_15
 by_cases h_16 : op = 16
 ·have k_16 : (op == 16) = true := by simp [h_16]
  have HV := TW.hide h_16
  clear h_16
  go_wp2
  refine HX14.out _ _ ?_
  refine HKb14.out _ _ ?_
  have hz : op = 16 := HV.out
  clear HV
  have HQ : Hid True := trivial
  have HZ : Hid (op = 16) := hz
  clear hz
  go_wp2_with (refine wpList_store_row (by rfl) 103 _ _ (by rfl) w.heap.size #[.int .i64 0, .int .i64 0, .int .i64 0] (by rfl) (by rfl) 103 _ HN.out (by kernel_rfl) (by rfl) (by simp [Value.oneCell']) ?_)
  refine HR14.out _ _ ?_
  refine bodyPost_ret (v := .tuple #[.agg #[.int .i64 0, .int .i64 0, .int .i64 0], .bool true]) (results_row_tmp (P := Tryz.prog) Tryz.results51 _ _ w.heap.size 103 _ (0, 0) _ _ (by rfl) (by rfl) (setRow_heap _ _ _ #[.int .i64 0, .int .i64 0, .int .i64 0] _ _ HN.out) Tryz.underlying103 rfl (by kernel_rfl)) rfl ?_
  rw [HP.out]
  exact ⟨0, 0, 0, true, rfl, by rw [HZ.out]; simp [HQ.out], by rw [HZ.out]; simp [wT], below_setRow HB.out (Nat.le_refl _)⟩
 have k_16 : (op == 16) = false := by simp [h_16]
 go_wp2
 clear k_16
 refine HKx.out _ _ ?_
 go_wp2
 refine HZx.out _ _ ?_
 refine HKT.out _ _ ?_
 have HQ : Hid (¬ (1 ≤ op ∧ op ≤ 16)) := by
  intro h
  omega
 go_wp2_with (refine wpList_store_row (by rfl) 103 _ _ (by rfl) w.heap.size #[.int .i64 0, .int .i64 0, .int .i64 0] (by rfl) (by rfl) 103 _ HN.out (by kernel_rfl) (by rfl) (by simp [Value.oneCell']) ?_)
 refine bodyPost_ret (v := .tuple #[.agg #[.int .i64 0, .int .i64 0, .int .i64 0], .bool false]) (results_row_tmp (P := Tryz.prog) Tryz.results51 _ _ w.heap.size 103 _ (0, 0) _ _ (by rfl) (by rfl) (setRow_heap _ _ _ #[.int .i64 0, .int .i64 0, .int .i64 0] _ _ HN.out) Tryz.underlying103 rfl (by kernel_rfl)) rfl ?_
 rw [HP.out]
 exact ⟨0, 0, 0, false, rfl, ⟨fun h => (by cases h), fun h => absurd ⟨h.1, h.2.1⟩ HQ.out⟩, fun h => (by cases h), below_setRow HB.out (Nat.le_refl _)⟩
end LW
end Go.Proofs.YtdjanbojhblijaaGreat
namespace Go.Proofs.YtdjanbojhblijaaGreat
open Go.RowKit
set_option linter.unusedVariables false
set_option linter.unusedSimpArgs false
namespace LW
open Mc
def loM (wd : Int) : Int := if wd = 2 then -9223372036854775808 else 0
def hiM (s : Syst) (pl : Nat) (wd : Int) : Int := if wd = 1 then 7 else if wd = 2 then 9223372036854775807 else if wd = 3 then (pl : Int) else if wd = 4 then (s.rooms.length : Int) - 1 else if wd = 5 then s.locks - 1 else if wd = 6 then s.groups - 1 else if wd = 7 then (s.progs.length : Int) - 1 else 0
/-- Words as letters. -/
def ltr (wd : Int) : Int := ([110, 114, 120, 112, 99, 108, 103, 115] : List Int).getD wd.toNat 110
theorem w8 {wd : Int} (h : 0 ≤ wd ∧ wd ≤ 7) : wd = 0 ∨ wd = 1 ∨ wd = 2 ∨ wd = 3 ∨ wd = 4 ∨ wd = 5 ∨ wd = 6 ∨ wd = 7 := by omega
theorem fit_iff (s : Syst) (p pl : Nat) (wd v : Int) (hp : (s.progs.getD p []).length = pl) (hw : 0 ≤ wd ∧ wd ≤ 7) (hv : i64 v) : (loM wd ≤ v ∧ v ≤ hiM s pl wd) ↔ fitM s p (ltr wd) v := by
 unfold i64 at hv
 subst hp
 rcases w8 hw with rfl | rfl | rfl | rfl | rfl | rfl | rfl | rfl <;> simp [loM, hiM, ltr, fitM, bdM] <;> omega
theorem op16 {op : Int} (h1 : 1 ≤ op) (h2 : op ≤ 16) : op = 1 ∨ op = 2 ∨ op = 3 ∨ op = 4 ∨ op = 5 ∨ op = 6 ∨ op = 7 ∨ op = 8 ∨ op = 9 ∨ op = 10 ∨ op = 11 ∨ op = 12 ∨ op = 13 ∨ op = 14 ∨ op = 15 ∨ op = 16 := by omega
theorem wT_ltr {op a b c : Int} (h1 : 1 ≤ op) (h2 : op ≤ 16) (h : (a, b, c) = wT.getD op.toNat (0, 0, 0)) : ltr a = (fdM op).getD 0 0 ∧ ltr b = (fdM op).getD 1 0 ∧ ltr c = (fdM op).getD 2 0 ∧ (0 ≤ a ∧ a ≤ 7) ∧ (0 ≤ b ∧ b ≤ 7) ∧ (0 ≤ c ∧ c ≤ 7) := by
 rcases op16 h1 h2 with rfl | rfl | rfl | rfl | rfl | rfl | rfl | rfl | rfl | rfl | rfl | rfl | rfl | rfl | rfl | rfl <;> (obtain ⟨rfl, rfl, rfl⟩ : a = _ ∧ b = _ ∧ c = _ := by (simpa [wT] using h)) <;> decide
set_option maxRecDepth 100000 in
set_option maxHeartbeats 4000000 in
theorem pbounds (s : Syst) (pa : Option Addr) (pc : Nat) (ra : Option Addr) (rc n r pl : Nat) (wd : Int) (w : World) (hn : s.progs.length = n) (hr : s.rooms.length = r) (hn6 : n ≤ 64) (hr6 : r ≤ 64) (hl : 0 ≤ s.locks ∧ s.locks ≤ 64) (hg : 0 ≤ s.groups ∧ s.groups ≤ 64) :
  Calls Tryz.prog 70 #[.agg #[.slice pa n pc, .slice ra r rc, .int .i64 s.groups, .int .i64 s.locks, .int .i64 s.cells], .int .i64 pl, .int .i64 wd] w fun e w' => e = .returned (.tuple #[.int .i64 (loM wd), .int .i64 (hiM s pl wd)]) ∧ Below w.heap.size w w' := by
 have n0 := heap_alloc_new w (.cells #[.slice pa n pc, .slice ra r rc, .int .i64 s.groups, .int .i64 s.locks, .int .i64 s.cells] 25)
 have hb0 := (Below.refl w.heap.size w).alloc (Nat.le_refl _) (.cells #[.slice pa n pc, .slice ra r rc, .int .i64 s.groups, .int .i64 s.locks, .int .i64 s.cells] 25)
 have XS := TW.hide n0
 have NB := TW.hide hb0
 have HL : Hid (loM wd = if wd = 2 then -9223372036854775808 else 0) := rfl
 have HH : Hid (hiM s pl wd = if wd = 1 then 7 else if wd = 2 then 9223372036854775807 else if wd = 3 then (pl : Int) else if wd = 4 then (r : Int) - 1 else if wd = 5 then s.locks - 1 else if wd = 6 then s.groups - 1 else if wd = 7 then (n : Int) - 1 else 0) := by rw [← hn, ← hr]; rfl
 have e4 : IntKind.i64.wrap ((r : Int) - 1) = (r : Int) - 1 := by rw [IntKind.wrap_i64]; omega
 have e5 : IntKind.i64.wrap (s.locks - 1) = s.locks - 1 := by rw [IntKind.wrap_i64]; omega
 have e6 : IntKind.i64.wrap (s.groups - 1) = s.groups - 1 := by rw [IntKind.wrap_i64]; omega
 have e7 : IntKind.i64.wrap ((n : Int) - 1) = (n : Int) - 1 := by rw [IntKind.wrap_i64]; omega
 clear n0 hb0 hn hr hn6 hr6 hl hg
 generalize loM wd = LO at *
 generalize hiM s pl wd = HI at *
 go_enter Tryz.func70, Tryz.ntmps70
 refine wp_seq_k fun K hK => ?_
 have HK := TW.hide hK
 clear hK
 go_wp2_with fail
 refine HK.out _ _ ?_
 clear HK K
 generalize w.alloc _ = X at *
 obtain ⟨y0, y1, y2, y3, y4⟩ := cellsY5 XS.out
 by_cases h1 : wd = 1
 ·have HE1 : Hid (LO = 0) := by show _ = _; rw [HL.out, if_neg (by omega)]
  have HE2 : Hid (HI = 7) := by show _ = _; rw [HH.out, if_pos h1]
  have k1 : (wd == 1) = true := by simp [h1]
  clear h1 HL HH
  go_wp2
  go_ret2
  exact ⟨by rw [HE1.out, HE2.out]; rfl, NB.out⟩
 have k1 : (wd == 1) = false := by simp [h1]
 by_cases h2 : wd = 2
 ·have HE1 : Hid (LO = -9223372036854775808) := by show _ = _; rw [HL.out, if_pos h2]
  have HE2 : Hid (HI = 9223372036854775807) := by show _ = _; rw [HH.out, if_neg h1, if_pos h2]
  have k2 : (wd == 2) = true := by simp [h2]
  clear h1 h2 HL HH
  go_wp2
  go_ret2
  exact ⟨by rw [HE1.out, HE2.out]; rfl, NB.out⟩
 have k2 : (wd == 2) = false := by simp [h2]
 by_cases h3 : wd = 3
 ·have HE1 : Hid (LO = 0) := by show _ = _; rw [HL.out, if_neg (by omega)]
  have HE2 : Hid (HI = (pl : Int)) := by show _ = _; rw [HH.out, if_neg h1, if_neg h2, if_pos h3]
  have k3 : (wd == 3) = true := by simp [h3]
  clear h1 h2 h3 HL HH
  go_wp2
  go_ret2
  exact ⟨by rw [HE1.out, HE2.out]; rfl, NB.out⟩
 have k3 : (wd == 3) = false := by simp [h3]
 by_cases h4 : wd = 4
 ·have HE1 : Hid (LO = 0) := by show _ = _; rw [HL.out, if_neg (by omega)]
  have HE2 : Hid (HI = (r : Int) - 1) := by show _ = _; rw [HH.out, if_neg h1, if_neg h2, if_neg h3, if_pos h4]
  have k4 : (wd == 4) = true := by simp [h4]
  clear h1 h2 h3 h4 HL HH
  go_wp2
  go_quiet (fail)
  go_wp2
  go_ret2
  exact ⟨by rw [HE1.out, HE2.out]; rfl, below_drewN NB.out _⟩
 have k4 : (wd == 4) = false := by simp [h4]
 by_cases h5 : wd = 5
 ·have HE1 : Hid (LO = 0) := by show _ = _; rw [HL.out, if_neg (by omega)]
  have HE2 : Hid (HI = s.locks - 1) := by show _ = _; rw [HH.out, if_neg h1, if_neg h2, if_neg h3, if_neg h4, if_pos h5]
  have k5 : (wd == 5) = true := by simp [h5]
  clear h1 h2 h3 h4 h5 HL HH
  go_wp2
  go_quiet (fail)
  go_wp2
  go_ret2
  exact ⟨by rw [HE1.out, HE2.out]; rfl, below_drewN NB.out _⟩
 have k5 : (wd == 5) = false := by simp [h5]
 by_cases h6 : wd = 6
 ·have HE1 : Hid (LO = 0) := by show _ = _; rw [HL.out, if_neg (by omega)]
  have HE2 : Hid (HI = s.groups - 1) := by show _ = _; rw [HH.out, if_neg h1, if_neg h2, if_neg h3, if_neg h4, if_neg h5, if_pos h6]
  have k6 : (wd == 6) = true := by simp [h6]
  clear h1 h2 h3 h4 h5 h6 HL HH
  go_wp2
  go_quiet (fail)
  go_wp2
  go_ret2
  exact ⟨by rw [HE1.out, HE2.out]; rfl, below_drewN NB.out _⟩
 have k6 : (wd == 6) = false := by simp [h6]
 by_cases h7 : wd = 7
 ·have HE1 : Hid (LO = 0) := by show _ = _; rw [HL.out, if_neg (by omega)]
  have HE2 : Hid (HI = (n : Int) - 1) := by show _ = _; rw [HH.out, if_neg h1, if_neg h2, if_neg h3, if_neg h4, if_neg h5, if_neg h6, if_pos h7]
  have k7 : (wd == 7) = true := by simp [h7]
  clear h1 h2 h3 h4 h5 h6 h7 HL HH
  go_wp2
  go_quiet (fail)
  go_wp2
  go_ret2
  exact ⟨by rw [HE1.out, HE2.out]; rfl, below_drewN NB.out _⟩
 have k7 : (wd == 7) = false := by simp [h7]
 have HE1 : Hid (LO = 0) := by show _ = _; rw [HL.out, if_neg h2]
 have HE2 : Hid (HI = 0) := by show _ = _; rw [HH.out, if_neg h1, if_neg h2, if_neg h3, if_neg h4, if_neg h5, if_neg h6, if_neg h7]
 clear h1 h2 h3 h4 h5 h6 h7 HL HH
 go_wp2
 go_ret2
 exact ⟨by rw [HE1.out, HE2.out]; rfl, NB.out⟩
set_option maxRecDepth 100000 in
set_option maxHeartbeats 4000000 in
theorem pfield (s : Syst) (pa : Option Addr) (pc : Nat) (ra : Option Addr) (rc n r pl p : Nat) (wd v : Int) (w : World) (hn : s.progs.length = n) (hr : s.rooms.length = r) (hn6 : n ≤ 64) (hr6 : r ≤ 64) (hl : 0 ≤ s.locks ∧ s.locks ≤ 64) (hg : 0 ≤ s.groups ∧ s.groups ≤ 64) (hpl : (s.progs.getD p []).length = pl) (hw : 0 ≤ wd ∧ wd ≤ 7) (hv : i64 v) :
  Calls Tryz.prog 52 #[.agg #[.slice pa n pc, .slice ra r rc, .int .i64 s.groups, .int .i64 s.locks, .int .i64 s.cells], .int .i64 pl, .int .i64 wd, .int .i64 v] w (RiP (fitM s p (ltr wd) v) w) := by
 have n0 := heap_alloc_new w (.cells #[.slice pa n pc, .slice ra r rc, .int .i64 s.groups, .int .i64 s.locks, .int .i64 s.cells] 25)
 have hb0 := (Below.refl w.heap.size w).alloc (Nat.le_refl _) (.cells #[.slice pa n pc, .slice ra r rc, .int .i64 s.groups, .int .i64 s.locks, .int .i64 s.cells] 25)
 have XS := TW.hide n0
 have NB := TW.hide hb0
 have HBo : Hid (∀ W, Calls Tryz.prog 70 #[.agg #[.slice pa n pc, .slice ra r rc, .int .i64 s.groups, .int .i64 s.locks, .int .i64 s.cells], .int .i64 pl, .int .i64 wd] W fun e w' => e = .returned (.tuple #[.int .i64 (loM wd), .int .i64 (hiM s pl wd)]) ∧ Below W.heap.size W w') := fun W => pbounds s pa pc ra rc n r pl wd W hn hr hn6 hr6 hl hg
 have HF := TW.hide (fit_iff s p pl wd v hpl hw hv)
 generalize loM wd = LO at *
 generalize hiM s pl wd = HI at *
 generalize fitM s p (ltr wd) v = FT at *
 have HW : Hid (∀ W, Calls Tryz.prog 50 #[.int .i64 v, .int .i64 LO, .int .i64 HI] W fun e w' => e = .returned (.bool (decide (LO ≤ v ∧ v ≤ HI))) ∧ W = w') := fun W => pwithin v LO HI W
 clear n0 hb0 hn hr hn6 hr6 hl hg hpl hw hv
 obtain ⟨bo, hbo⟩ : ∃ bo, decide (LO ≤ v ∧ v ≤ HI) = bo := ⟨_, rfl⟩
 rw [hbo] at HW
 have HBB : Hid (bo = true ↔ FT) := by show _ ↔ _; rw [← HF.out, ← hbo]; simp
 clear hbo HF
 go_enter Tryz.func52, Tryz.ntmps52
 refine wp_seq_k fun K hK => ?_
 have HK := TW.hide hK
 clear hK
 go_wp2_with fail
 refine HK.out _ _ ?_
 clear HK K
 generalize w.alloc _ = X at *
 obtain ⟨y0, y1, y2, y3, y4⟩ := cellsY5 XS.out
 refine wp_seq_k fun K hK => ?_
 have HK := TW.hide hK
 clear hK
 go_wp2_with fail
 refine (HBo.out _).mono ?_
 rintro e1 w1 ⟨rfl, hb⟩
 have NB1 : Hid (Below w.heap.size w w1) := NB.out.trans (hb.mono NB.out.size)
 clear hb y0 y1 y2 y3 y4 HBo
 go_wp2
 refine HK.out _ _ ?_
 clear HK K
 go_wp2_with fail
 refine (HW.out _).mono ?_
 rintro e2 w2 ⟨rfl, rfl⟩
 clear HW
 go_wp2
 go_ret
 exact ⟨bo, rfl, HBB.out, NB1.out⟩
set_option maxRecDepth 100000 in
set_option maxHeartbeats 4000000 in
theorem pinst (s : Syst) (pa : Option Addr) (pc : Nat) (ra : Option Addr) (rc n r pl p : Nat) (op a0 a1 a2 : Int) (w : World) (hn : s.progs.length = n) (hr : s.rooms.length = r) (hn6 : n ≤ 64) (hr6 : r ≤ 64) (hl : 0 ≤ s.locks ∧ s.locks ≤ 64) (hg : 0 ≤ s.groups ∧ s.groups ≤ 64) (hpl : (s.progs.getD p []).length = pl) (hi0 : i64 a0) (hi1 : i64 a1) (hi2 : i64 a2) (hc0 : 0 ≤ s.cells) :
  Calls Tryz.prog 34 #[.agg #[.slice pa n pc, .slice ra r rc, .int .i64 s.groups, .int .i64 s.locks, .int .i64 s.cells], .int .i64 pl, .agg #[.int .i64 op, .int .i64 a0, .int .i64 a1, .int .i64 a2]] w (RiP (rightM s p ⟨op, a0, a1, a2⟩) w) := by
 have HN1 : Hid (((w.alloc (.cells #[.slice pa n pc, .slice ra r rc, .int .i64 s.groups, .int .i64 s.locks, .int .i64 s.cells] 25)).alloc (.cells #[.int .i64 op, .int .i64 a0, .int .i64 a1, .int .i64 a2] 75)).heap[w.heap.size]? = some (.cells #[.slice pa n pc, .slice ra r rc, .int .i64 s.groups, .int .i64 s.locks, .int .i64 s.cells] 25 (0, 0))) := blk_alloc (heap_alloc_new w _)
 have HN2 : Hid (((w.alloc (.cells #[.slice pa n pc, .slice ra r rc, .int .i64 s.groups, .int .i64 s.locks, .int .i64 s.cells] 25)).alloc (.cells #[.int .i64 op, .int .i64 a0, .int .i64 a1, .int .i64 a2] 75)).heap[w.heap.size + 1]? = some (.cells #[.int .i64 op, .int .i64 a0, .int .i64 a1, .int .i64 a2] 75 (0, 0))) := by
  have h1 := heap_alloc_new (w.alloc (.cells #[.slice pa n pc, .slice ra r rc, .int .i64 s.groups, .int .i64 s.locks, .int .i64 s.cells] 25)) (.cells #[.int .i64 op, .int .i64 a0, .int .i64 a1, .int .i64 a2] 75)
  have h2 : (w.alloc (.cells #[.slice pa n pc, .slice ra r rc, .int .i64 s.groups, .int .i64 s.locks, .int .i64 s.cells] 25)).heap.size = w.heap.size + 1 := by simp
  rw [h2] at h1
  exact h1
 have NB : Hid (Below w.heap.size w ((w.alloc (.cells #[.slice pa n pc, .slice ra r rc, .int .i64 s.groups, .int .i64 s.locks, .int .i64 s.cells] 25)).alloc (.cells #[.int .i64 op, .int .i64 a0, .int .i64 a1, .int .i64 a2] 75))) := ((Below.refl _ _).alloc (Nat.le_refl _) _).alloc (by simp) _
 have HFF : Hid (∀ wd v W, 0 ≤ wd ∧ wd ≤ 7 → i64 v → Calls Tryz.prog 52 #[.agg #[.slice pa n pc, .slice ra r rc, .int .i64 s.groups, .int .i64 s.locks, .int .i64 s.cells], .int .i64 pl, .int .i64 wd, .int .i64 v] W (RiP (fitM s p (ltr wd) v) W)) := fun wd v W h1 h2 => pfield s pa pc ra rc n r pl p wd v W hn hr hn6 hr6 hl hg hpl h1 h2
 have HRO : Hid (∀ W, Calls Tryz.prog 51 #[.int .i64 op, .int .i64 s.cells] W (RoQ op s.cells W)) := fun W => prowOf op s.cells W
 obtain ⟨Z, hZ⟩ : ∃ Z, Z = rightM s p ⟨op, a0, a1, a2⟩ := ⟨_, rfl⟩
 have HZ : Hid (Z ↔ (1 ≤ op ∧ op ≤ 16 ∧ fitM s p ((fdM op).getD 0 0) a0 ∧ fitM s p ((fdM op).getD 1 0) a1 ∧ fitM s p ((fdM op).getD 2 0) a2 ∧ ((op = 12 ∨ op = 13) → 0 < s.cells))) := by show _ ↔ _; rw [hZ]; exact Iff.rfl
 rw [← hZ]
 have HC := TW.hide hc0
 clear hZ hn hr hn6 hr6 hl hg hpl hc0
 go_enter Tryz.func34, Tryz.ntmps34
 refine wp_seq_k fun K hK => ?_
 have HK := TW.hide hK
 clear hK
 go_wp2
 refine HK.out _ _ ?_
 clear HK K
 generalize World.alloc _ _ = X at *
 generalize hg2 : w.heap.size + 1 = g2 at *
 obtain ⟨y0, y1, y2, y3, y4⟩ := cellsY5 HN1.out
 obtain ⟨z0, z1, z2, z3⟩ := cellsY4 HN2.out
 refine wp_seq_k fun K hK => ?_
 have HK := TW.hide hK
 clear hK
 go_wp2_with fail
 refine (HRO.out _).mono ?_
 rintro e1 w1 ⟨b0, b1, b2, ok, rfl, hok, hrow, hb⟩
 have HOK := TW.hide hok
 have HROW := TW.hide hrow
 have NB1 : Hid (Below w.heap.size w w1) := NB.out.trans (hb.mono NB.out.size)
 have S1 := TW.hide (blk_keep HN1.out hb)
 have I1 := TW.hide (blk_keep HN2.out hb)
 clear hok hrow hb y0 y1 y2 y3 y4 z0 z1 z2 z3 HRO HN1 HN2 NB
 have NBx : Hid (Below w.heap.size w ((w1.alloc (.cells #[.int .i64 0, .int .i64 0, .int .i64 0] 103)).setRow w1.heap.size #[.int .i64 b0, .int .i64 b1, .int .i64 b2])) := below_setRow (NB1.out.alloc NB1.out.size _) NB1.out.size
 have NR_ : Hid (((w1.alloc (.cells #[.int .i64 0, .int .i64 0, .int .i64 0] 103)).setRow w1.heap.size #[.int .i64 b0, .int .i64 b1, .int .i64 b2]).heap[w1.heap.size]? = some (.cells #[.int .i64 b0, .int .i64 b1, .int .i64 b2] 103 (0, 0))) := setRow_heap _ _ _ _ _ _ (heap_alloc_new w1 _)
 have hbx : Below w1.heap.size w1 ((w1.alloc (.cells #[.int .i64 0, .int .i64 0, .int .i64 0] 103)).setRow w1.heap.size #[.int .i64 b0, .int .i64 b1, .int .i64 b2]) := below_setRow ((Below.refl _ _).alloc (Nat.le_refl _) _) (Nat.le_refl _)
 have NS := TW.hide (blk_keep S1.out hbx)
 have NI := TW.hide (blk_keep I1.out hbx)
 clear hbx S1 I1 NB1
 go_wp2_with (refine wpList_store_row (by rfl) 103 _ _ (by rfl) w1.heap.size #[.int .i64 b0, .int .i64 b1, .int .i64 b2] (by rfl) (by rfl) 103 _ (heap_alloc_new w1 _) (by kernel_rfl) (by rfl) (by simp [Value.oneCell']) ?_)
 refine HK.out _ _ ?_
 clear HK K
 generalize World.setRow _ _ _ = X1 at *
 generalize w1.heap.size = g3 at *
 cases ok with
 | false =>
  have HNo : Hid (¬ Z) := fun hz => by
   have h1 := HZ.out.1 hz
   have h2 := HOK.out.2 ⟨h1.1, h1.2.1, fun h => by have := h1.2.2.2.2.2 h; omega⟩
   cases h2
  go_wp2
  go_ret
  exact ⟨false, rfl, ⟨fun h => (by cases h), fun h => absurd h HNo.out⟩, NBx.out⟩
 | true =>
  obtain ⟨hp1, hp2, hp3⟩ := HOK.out.1 rfl
  obtain ⟨l0, l1, l2, r0, r1, r2⟩ := wT_ltr hp1 hp2 (HROW.out rfl)
  have HP := TW.hide (And.intro hp1 (And.intro hp2 hp3))
  have HF0 := TW.hide (fun W => HFF.out b0 a0 W r0 hi0)
  have HF1 := TW.hide (fun W => HFF.out b1 a1 W r1 hi1)
  have HF2 := TW.hide (fun W => HFF.out b2 a2 W r2 hi2)
  rw [l0] at HF0
  rw [l1] at HF1
  rw [l2] at HF2
  clear hp1 hp2 hp3 l0 l1 l2 r0 r1 r2 HFF HROW HOK hi0 hi1 hi2
  generalize fitM s p ((fdM op).getD 0 0) a0 = F0 at *
  generalize fitM s p ((fdM op).getD 1 0) a1 = F1 at *
  generalize fitM s p ((fdM op).getD 2 0) a2 = F2 at *
  obtain ⟨y0, y1, y2, y3, y4⟩ := cellsY5 NS.out
  obtain ⟨z0, z1, z2, z3⟩ := cellsY4 NI.out
  obtain ⟨v0, v1, v2⟩ := cells3R NR_.out
  go_wp2_with fail
  refine (HF0.out _).mono ?_
  rintro e0_ W1 ⟨x0, rfl, hx0, hb0⟩
  have HX0 := TW.hide hx0
  have NBy : Hid (Below w.heap.size w W1) := NBx.out.trans (hb0.mono NBx.out.size)
  have S_ := TW.hide (blk_keep NS.out hb0)
  have I_ := TW.hide (blk_keep NI.out hb0)
  have R_ := TW.hide (blk_keep NR_.out hb0)
  clear y0 y1 y2 y3 y4 z0 z1 z2 z3 v0 v1 v2 NBx NS NI NR_ hb0 hx0
  have NBx := NBy
  have NS := S_
  have NI := I_
  have NR_ := R_
  clear NBy S_ I_ R_
  obtain ⟨y0, y1, y2, y3, y4⟩ := cellsY5 NS.out
  obtain ⟨z0, z1, z2, z3⟩ := cellsY4 NI.out
  obtain ⟨v0, v1, v2⟩ := cells3R NR_.out
  cases x0 with
  | false =>
   have HNo : Hid (¬ Z) := fun hz => by
    have h2 := HX0.out.2 (HZ.out.1 hz).2.2.1
    cases h2
   go_wp2
   go_ret
   exact ⟨false, rfl, ⟨fun h => (by cases h), fun h => absurd h HNo.out⟩, NBx.out⟩
  | true =>
   go_wp2_with fail
   refine (HF1.out _).mono ?_
   rintro e1_ W2 ⟨x1, rfl, hx1, hb1⟩
   have HX1 := TW.hide hx1
   have NBy : Hid (Below w.heap.size w W2) := NBx.out.trans (hb1.mono NBx.out.size)
   have S_ := TW.hide (blk_keep NS.out hb1)
   have I_ := TW.hide (blk_keep NI.out hb1)
   have R_ := TW.hide (blk_keep NR_.out hb1)
   clear y0 y1 y2 y3 y4 z0 z1 z2 z3 v0 v1 v2 NBx NS NI NR_ hb1 hx1
   have NBx := NBy
   have NS := S_
   have NI := I_
   have NR_ := R_
   clear NBy S_ I_ R_
   obtain ⟨y0, y1, y2, y3, y4⟩ := cellsY5 NS.out
   obtain ⟨z0, z1, z2, z3⟩ := cellsY4 NI.out
   obtain ⟨v0, v1, v2⟩ := cells3R NR_.out
   cases x1 with
   | false =>
    have HNo : Hid (¬ Z) := fun hz => by
     have h2 := HX1.out.2 (HZ.out.1 hz).2.2.2.1
     cases h2
    go_wp2
    go_ret
    exact ⟨false, rfl, ⟨fun h => (by cases h), fun h => absurd h HNo.out⟩, NBx.out⟩
   | true =>
    go_wp2_with fail
    refine (HF2.out _).mono ?_
    rintro e2_ W3 ⟨x2, rfl, hx2, hb2⟩
    have HX2 := TW.hide hx2
    have NBy : Hid (Below w.heap.size w W3) := NBx.out.trans (hb2.mono NBx.out.size)
    have S_ := TW.hide (blk_keep NS.out hb2)
    have I_ := TW.hide (blk_keep NI.out hb2)
    have R_ := TW.hide (blk_keep NR_.out hb2)
    clear y0 y1 y2 y3 y4 z0 z1 z2 z3 v0 v1 v2 NBx NS NI NR_ hb2 hx2
    have NBx := NBy
    have NS := S_
    have NI := I_
    have NR_ := R_
    clear NBy S_ I_ R_
    obtain ⟨y0, y1, y2, y3, y4⟩ := cellsY5 NS.out
    obtain ⟨z0, z1, z2, z3⟩ := cellsY4 NI.out
    obtain ⟨v0, v1, v2⟩ := cells3R NR_.out
    cases x2 with
    | false =>
     have HNo : Hid (¬ Z) := fun hz => by
      have h2 := HX2.out.2 (HZ.out.1 hz).2.2.2.2.1
      cases h2
     go_wp2
     go_ret
     exact ⟨false, rfl, ⟨fun h => (by cases h), fun h => absurd h HNo.out⟩, NBx.out⟩
    | true =>
     have HYes : Hid Z := HZ.out.2 ⟨HP.out.1, HP.out.2.1, HX0.out.1 (by trivial), HX1.out.1 (by trivial), HX2.out.1 (by trivial), fun h => by have := HP.out.2.2 h; have := HC.out; omega⟩
     go_wp2
     go_ret
     exact ⟨true, rfl, ⟨fun _ => HYes.out, fun _ => rfl⟩, NBx.out⟩
end LW
end Go.Proofs.YtdjanbojhblijaaGreat
namespace Go.Proofs.YtdjanbojhblijaaGreat
open Go.RowKit
set_option linter.unusedVariables false
set_option linter.unusedSimpArgs false
namespace LW
open Mc
/-- A system of sizes that may be. -/
structure SzOk (s : Syst) : Prop where
 p1 : 1 ≤ s.progs.length
 p2 : s.progs.length ≤ 64
 r1 : s.rooms.length ≤ 64
 g1 : 0 ≤ s.groups ∧ s.groups ≤ 64
 l1 : 0 ≤ s.locks ∧ s.locks ≤ 64
 c1 : 0 ≤ s.cells ∧ s.cells ≤ 64
 rm : ∀ i, i < s.rooms.length → 1 ≤ s.rooms.getD i 0 ∧ s.rooms.getD i 0 ≤ 1024
 pl : ∀ p, p < s.progs.length → (s.progs.getD p []).length ≤ 256
set_option maxRecDepth 100000 in
set_option maxHeartbeats 4000000 in
theorem psizes (s : Syst) (pa : Option Addr) (pc : Nat) (ra : Option Addr) (rc n r : Nat) (w : World) (hS : SM w s pa ra) (hn : s.progs.length = n) (hr : s.rooms.length = r) (hn1 : n ≤ 9223372036854775807) (hr1 : r ≤ 9223372036854775807) :
  Calls Tryz.prog 33 #[.agg #[.slice pa n pc, .slice ra r rc, .int .i64 s.groups, .int .i64 s.locks, .int .i64 s.cells]] w (RiP (SzOk s) w) := by
 have n0 := heap_alloc_new w (.cells #[.slice pa n pc, .slice ra r rc, .int .i64 s.groups, .int .i64 s.locks, .int .i64 s.cells] 25)
 have hb0 := (Below.refl w.heap.size w).alloc (Nat.le_refl _) (.cells #[.slice pa n pc, .slice ra r rc, .int .i64 s.groups, .int .i64 s.locks, .int .i64 s.cells] 25)
 have XS := TW.hide n0
 have NB := TW.hide hb0
 have HM := TW.hide (hS.below hb0)
 obtain ⟨Z, hZ⟩ : ∃ Z, Z = SzOk s := ⟨_, rfl⟩
 have HZ := TW.hide hZ
 rw [← hZ]
 have HN := TW.hide hn
 have HRn := TW.hide hr
 clear n0 hb0 hS hZ hn hr
 go_enter Tryz.func33, Tryz.ntmps33
 refine wp_seq_k fun K hK => ?_
 have HK := TW.hide hK
 clear hK
 go_wp2_with fail
 refine HK.out _ _ ?_
 clear HK K
 generalize w.alloc _ = X at *
 obtain ⟨y0, y1, y2, y3, y4⟩ := cellsY5 XS.out
 obtain ⟨b1, hb1⟩ : ∃ b, decide ((1 : Int) ≤ (n : Int) ∧ (n : Int) ≤ (64 : Int)) = b := ⟨_, rfl⟩
 have HW1 : Hid (∀ W, Calls Tryz.prog 50 #[.int .i64 (n : Int), .int .i64 1, .int .i64 64] W fun e w' => e = .returned (.bool b1) ∧ W = w') := fun W => by rw [← hb1]; exact pwithin (n : Int) 1 64 W
 have HD1 : Hid (b1 = true ↔ ((1 : Int) ≤ (n : Int) ∧ (n : Int) ≤ (64 : Int))) := by show _ ↔ _; rw [← hb1]; simp
 clear hb1
 refine wp_seq_k fun K hK => ?_
 have HK := TW.hide hK
 clear hK
 go_wp2_with fail
 refine (HW1.out _).mono ?_
 rintro e_1 w_1 ⟨rfl, rfl⟩
 cases b1 with
 | false =>
  have HNo : Hid (¬ Z) := fun hz => by
   rw [HZ.out] at hz
   have h2 := HD1.out.2 (by have := hz.p1; have := hz.p2; have := HN.out; omega); cases h2
  go_wp2
  go_ret
  exact ⟨false, rfl, ⟨fun h => (by cases h), fun h => absurd h HNo.out⟩, NB.out⟩
 | true =>
  by_cases q3 : 64 < r
  ·have k3 : (64 : Int) < (r : Int) := by omega
   have HNo : Hid (¬ Z) := fun hz => by
    rw [HZ.out] at hz
    have := hz.r1; have := HRn.out; omega
   go_wp2
   go_ret
   exact ⟨false, rfl, ⟨fun h => (by cases h), fun h => absurd h HNo.out⟩, NB.out⟩
  have k3 : ¬ (64 : Int) < (r : Int) := by omega
  go_wp2
  refine HK.out _ _ ?_
  clear HK K k3
  refine wp_seq_k fun K hK => ?_
  have HK := TW.hide hK
  clear hK
  go_wp2
  go_loopw [21] (fun i wr => ∃ k : Nat, k ≤ n ∧ i = .int .i64 (k : Int) ∧ Hid (∀ q, q < k → (s.progs.getD q []).length ≤ 256) ∧ wr = X) (fun i wr => n - (intOf i).toNat)
  case atStart => exact ⟨0, Nat.zero_le _, rfl, TW.hide (fun q hq => by omega), rfl⟩
  case round =>
   obtain ⟨k, hk, rfl, HQ, hwX⟩ := hrel
   by_cases hlt : k < n
   ·have hk1 : (k : Int) < (n : Int) := by omega
    have hk0 : (0 : Int) ≤ (k : Int) := by omega
    obtain ⟨b, off, rfl, A, KA, hpc⟩ : ∃ b off, pa = some ⟨b, off, none⟩ ∧ ∃ A KA, X.cell? ⟨b, off + k, none⟩ = some (.slice A (s.progs.getD k []).length KA) := by
     rcases HM.out.pr with h | ⟨b, off, e, hc⟩
     ·exfalso; have := HN.out; rw [h] at this; simp at this; omega
     ·obtain ⟨A, K, h1, h2⟩ := hc k (by rw [HN.out]; exact hlt)
      exact ⟨b, off, e, A, K, h1⟩
    have HPm : Hid (Z → (s.progs.getD k []).length ≤ 256) := fun hz => by
     rw [HZ.out] at hz
     exact hz.pl k (by rw [HN.out]; exact hlt)
    have HKK := TW.hide hlt
    subst hwX
    generalize hrv : (s.progs.getD k []).length = v at *
    have HRV := TW.hide hrv
    clear hlt hrv
    by_cases v2 : 256 < v
    ·have HNo : Hid (¬ Z) := fun hz => by have := HPm.out hz; omega
     have v3 : (256 : Int) < (v : Int) := by omega
     go_wp2
     go_ret
     exact ⟨false, rfl, ⟨fun h => (by cases h), fun h => absurd h HNo.out⟩, NB.out⟩
    ·have v3 : ¬ (256 : Int) < (v : Int) := by omega
     have HV2 := TW.hide v2
     clear v2
     go_wp2
     go_roundw
     case rel =>
      refine ⟨k + 1, HKK.out, by go_num, TW.hide (fun q hq => ?_), by trivial⟩
      rcases Nat.lt_or_ge q k with h | h
      ·exact HQ.out q h
      ·obtain rfl : q = k := by omega
       rw [HRV.out]; have := HV2.out; omega
     case measure => simp [intOf]; have := HKK.out; omega
   ·have hkr : n = k := by omega
    subst hkr
    have hXw : X = wr := hwX.symm
    clear hwX
    subst hXw
    have HQP := TW.hide HQ.out
    clear HQ
    go_wp2
    refine HK.out _ _ ?_
    clear HK
    refine wp_seq_k fun K hK => ?_
    have HK := TW.hide hK
    clear hK
    go_wp2
    go_loopw [32] (fun i wr => ∃ k : Nat, k ≤ r ∧ i = .int .i64 (k : Int) ∧ Hid (∀ q, q < k → 1 ≤ s.rooms.getD q 0 ∧ s.rooms.getD q 0 ≤ 1024) ∧ wr = X) (fun i wr => r - (intOf i).toNat)
    case atStart => exact ⟨0, Nat.zero_le _, rfl, TW.hide (fun q hq => by omega), rfl⟩
    case round =>
     obtain ⟨k, hk, rfl, HQ, hwX⟩ := hrel
     by_cases hlt : k < r
     ·have hk1 : (k : Int) < (r : Int) := by omega
      have hk0 : (0 : Int) ≤ (k : Int) := by omega
      obtain ⟨b, off, rfl, hrc⟩ : ∃ b off, ra = some ⟨b, off, none⟩ ∧ X.cell? ⟨b, off + k, none⟩ = some (.int .i64 (s.rooms.getD k 0)) := by
       rcases HM.out.rm with h | ⟨b, off, e, hc⟩
       ·exfalso; have := HRn.out; rw [h] at this; simp at this; omega
       ·exact ⟨b, off, e, hc k (by rw [HRn.out]; exact hlt)⟩
      have HRm : Hid (Z → 1 ≤ s.rooms.getD k 0 ∧ s.rooms.getD k 0 ≤ 1024) := fun hz => by
       rw [HZ.out] at hz
       exact hz.rm k (by rw [HRn.out]; exact hlt)
      have HKK := TW.hide hlt
      subst hwX
      generalize hrv : s.rooms.getD k 0 = v at *
      have HRV := TW.hide hrv
      clear hlt hrv
      obtain ⟨br, hbr⟩ : ∃ b, decide ((1 : Int) ≤ v ∧ v ≤ (1024 : Int)) = b := ⟨_, rfl⟩
      have HWr : Hid (∀ W, Calls Tryz.prog 50 #[.int .i64 v, .int .i64 1, .int .i64 1024] W fun e w' => e = .returned (.bool br) ∧ W = w') := fun W => by rw [← hbr]; exact pwithin v 1 1024 W
      have HDr : Hid (br = true ↔ ((1 : Int) ≤ v ∧ v ≤ (1024 : Int))) := by show _ ↔ _; rw [← hbr]; simp
      clear hbr
      go_wp2_with fail
      refine (HWr.out _).mono ?_
      rintro e_r w_r ⟨rfl, rfl⟩
      cases br with
      | false =>
       have HNo : Hid (¬ Z) := fun hz => by
        have h2 := HDr.out.2 (HRm.out hz)
        cases h2
       go_wp2
       go_ret
       exact ⟨false, rfl, ⟨fun h => (by cases h), fun h => absurd h HNo.out⟩, NB.out⟩
      | true =>
       go_wp2
       go_roundw
       case rel =>
        refine ⟨k + 1, HKK.out, by go_num, TW.hide (fun q hq => ?_), by trivial⟩
        rcases Nat.lt_or_ge q k with h | h
        ·exact HQ.out q h
        ·obtain rfl : q = k := by omega
         rw [HRV.out]; exact HDr.out.1 (by trivial)
       case measure => simp [intOf]; have := HKK.out; omega
     ·have hkr : r = k := by omega
      subst hkr
      have hXw : X = wr := hwX.symm
      clear hwX
      subst hXw
      have HQR := TW.hide HQ.out
      clear HQ
      go_wp2
      refine HK.out _ _ ?_
      clear HK
      obtain ⟨bg, hbg⟩ : ∃ b, decide ((0 : Int) ≤ s.groups ∧ s.groups ≤ (64 : Int)) = b := ⟨_, rfl⟩
      have HWg : Hid (∀ W, Calls Tryz.prog 50 #[.int .i64 s.groups, .int .i64 0, .int .i64 64] W fun e w' => e = .returned (.bool bg) ∧ W = w') := fun W => by rw [← hbg]; exact pwithin s.groups 0 64 W
      have HDg : Hid (bg = true ↔ ((0 : Int) ≤ s.groups ∧ s.groups ≤ (64 : Int))) := by show _ ↔ _; rw [← hbg]; simp
      clear hbg
      obtain ⟨bl, hbl⟩ : ∃ b, decide ((0 : Int) ≤ s.locks ∧ s.locks ≤ (64 : Int)) = b := ⟨_, rfl⟩
      have HWl : Hid (∀ W, Calls Tryz.prog 50 #[.int .i64 s.locks, .int .i64 0, .int .i64 64] W fun e w' => e = .returned (.bool bl) ∧ W = w') := fun W => by rw [← hbl]; exact pwithin s.locks 0 64 W
      have HDl : Hid (bl = true ↔ ((0 : Int) ≤ s.locks ∧ s.locks ≤ (64 : Int))) := by show _ ↔ _; rw [← hbl]; simp
      clear hbl
      obtain ⟨bc, hbc⟩ : ∃ b, decide ((0 : Int) ≤ s.cells ∧ s.cells ≤ (64 : Int)) = b := ⟨_, rfl⟩
      have HWc : Hid (∀ W, Calls Tryz.prog 50 #[.int .i64 s.cells, .int .i64 0, .int .i64 64] W fun e w' => e = .returned (.bool bc) ∧ W = w') := fun W => by rw [← hbc]; exact pwithin s.cells 0 64 W
      have HDc : Hid (bc = true ↔ ((0 : Int) ≤ s.cells ∧ s.cells ≤ (64 : Int))) := by show _ ↔ _; rw [← hbc]; simp
      clear hbc
      go_wp2_with fail
      refine (HWg.out _).mono ?_
      rintro e_g w_g ⟨rfl, rfl⟩
      cases bg with
      | false =>
       have HNo : Hid (¬ Z) := fun hz => by
        rw [HZ.out] at hz
        have h2 := HDg.out.2 hz.g1; cases h2
       go_wp2
       go_ret
       exact ⟨false, rfl, ⟨fun h => (by cases h), fun h => absurd h HNo.out⟩, NB.out⟩
      | true =>
       go_wp2_with fail
       refine (HWl.out _).mono ?_
       rintro e_l w_l ⟨rfl, rfl⟩
       cases bl with
       | false =>
        have HNo : Hid (¬ Z) := fun hz => by
         rw [HZ.out] at hz
         have h2 := HDl.out.2 hz.l1; cases h2
        go_wp2
        go_ret
        exact ⟨false, rfl, ⟨fun h => (by cases h), fun h => absurd h HNo.out⟩, NB.out⟩
       | true =>
        go_wp2_with fail
        refine (HWc.out _).mono ?_
        rintro e_c w_c ⟨rfl, rfl⟩
        cases bc with
        | false =>
         have HNo : Hid (¬ Z) := fun hz => by
          rw [HZ.out] at hz
          have h2 := HDc.out.2 hz.c1; cases h2
         go_wp2
         go_ret
         exact ⟨false, rfl, ⟨fun h => (by cases h), fun h => absurd h HNo.out⟩, NB.out⟩
        | true =>
         have HYes : Hid Z := by
          show Z
          rw [HZ.out]
          have e1 := HN.out
          have e2 := HRn.out
          have e3 := HD1.out.1 (by trivial)
          exact ⟨by omega, by omega, by omega, HDg.out.1 (by trivial), HDl.out.1 (by trivial), HDc.out.1 (by trivial), fun i hi => HQR.out i (by omega), fun q hq => HQP.out q (by omega)⟩
         go_wp2
         go_ret
         exact ⟨true, rfl, ⟨fun _ => HYes.out, fun _ => rfl⟩, NB.out⟩
set_option maxRecDepth 100000 in
set_option maxHeartbeats 4000000 in
theorem pvalid1 (s : Syst) (pa : Option Addr) (pc : Nat) (ra : Option Addr) (rc n r : Nat) (w : World) (hS : SyI w s pa ra) (hn : s.progs.length = n) (hr : s.rooms.length = r) :
  Calls Tryz.prog 14 #[.agg #[.slice pa n pc, .slice ra r rc, .int .i64 s.groups, .int .i64 s.locks, .int .i64 s.cells]] w fun e w' => ∃ x : Int, e = .returned (.int .i64 x) ∧ (Ok s → x = 0) ∧ (¬ Ok s → x = 130) ∧ Below w.heap.size w w' := by
 have n0 := heap_alloc_new w (.cells #[.slice pa n pc, .slice ra r rc, .int .i64 s.groups, .int .i64 s.locks, .int .i64 s.cells] 25)
 have hb0 := (Below.refl w.heap.size w).alloc (Nat.le_refl _) (.cells #[.slice pa n pc, .slice ra r rc, .int .i64 s.groups, .int .i64 s.locks, .int .i64 s.cells] 25)
 have XS0 := TW.hide n0
 have NB0 := TW.hide hb0
 have hn1 : n ≤ 9223372036854775807 := by have := hS.pn; omega
 have hr1 : r ≤ 9223372036854775807 := by have := hS.rn; omega
 have HM0 := TW.hide (hS.sm.below hb0)
 have HPs : Hid (∀ W, SM W s pa ra → Calls Tryz.prog 33 #[.agg #[.slice pa n pc, .slice ra r rc, .int .i64 s.groups, .int .i64 s.locks, .int .i64 s.cells]] W (RiP (SzOk s) W)) := fun W hW => psizes s pa pc ra rc n r W hW hn hr hn1 hr1
 obtain ⟨Z, hZ⟩ : ∃ Z, Z = Ok s := ⟨_, rfl⟩
 have HZ := TW.hide hZ
 rw [← hZ]
 have HNi := TW.hide hS.ni
 have HN := TW.hide hn
 have HRn := TW.hide hr
 clear n0 hb0 hS hZ hn hr
 go_enter Tryz.func14, Tryz.ntmps14
 refine wp_seq_k fun K hK => ?_
 have HK := TW.hide hK
 clear hK
 go_wp2_with fail
 refine HK.out _ _ ?_
 clear HK K
 generalize w.alloc _ = X0 at *
 obtain ⟨y0, y1, y2, y3, y4⟩ := cellsY5 XS0.out
 refine wp_seq_k fun K hK => ?_
 have HK := TW.hide hK
 clear hK
 go_wp2_with fail
 refine (HPs.out _ HM0.out).mono ?_
 rintro e1 X ⟨x, rfl, hx, hb⟩
 have HM := TW.hide (HM0.out.below hb)
 have XS := TW.hide (blk_keep XS0.out hb)
 have NB : Hid (Below w.heap.size w X) := NB0.out.trans (hb.mono NB0.out.size)
 have HXx := TW.hide hx
 clear hb hx HM0 XS0 NB0 HPs y0 y1 y2 y3 y4
 cases x with
 | false =>
  have HNo : Hid (¬ Z) := fun hz => by
   rw [HZ.out] at hz
   have h2 := HXx.out.2 ⟨hz.p1, hz.p2, hz.r1, hz.g1, hz.l1, hz.c1, hz.rm, hz.pl⟩
   cases h2
  go_wp2
  go_ret
  exact ⟨130, rfl, fun h => absurd h HNo.out, fun _ => rfl, NB.out⟩
 | true =>
  have HSz : Hid (SzOk s) := HXx.out.1 rfl
  clear HXx
  obtain ⟨y0, y1, y2, y3, y4⟩ := cellsY5 XS.out
  go_wp2
  refine HK.out _ _ ?_
  clear HK K
  refine wp_seq_k fun K hK => ?_
  have HK := TW.hide hK
  clear hK
  go_wp2
  clear y0 y1 y2 y3 y4
  go_loopw [13] (fun p w2 => ∃ p' : Nat, p' ≤ n ∧ p = .int .i64 (p' : Int) ∧ Hid (Below X.heap.size X w2) ∧ Hid (∀ q, q < p' → ∀ j, j < (s.progs.getD q []).length → rightM s q ((s.progs.getD q []).getD j i0))) (fun p w2 => n - (intOf p).toNat)
  case atStart => exact ⟨0, Nat.zero_le _, rfl, TW.hide (Below.refl _ _), TW.hide (fun q hq => by omega)⟩
  case round =>
   obtain ⟨p, hp, rfl, HX1, HQ0⟩ := hrel
   have NBp : Hid (Below w.heap.size w wr) := NB.out.trans (HX1.out.mono NB.out.size)
   by_cases hlp : p < n
   ·have hp1 : (p : Int) < (n : Int) := by omega
    have hp0 : (0 : Int) ≤ (p : Int) := by omega
    obtain ⟨b, off, rfl, A, KA, hpc, hir⟩ : ∃ b off, pa = some ⟨b, off, none⟩ ∧ ∃ A KA, X.cell? ⟨b, off + p, none⟩ = some (.slice A (s.progs.getD p []).length KA) ∧ IR X A (s.progs.getD p []) := by
     rcases HM.out.pr with h | ⟨b, off, e, hc⟩
     ·exfalso; have := HN.out; rw [h] at this; simp at this; omega
     ·obtain ⟨A, K, h1, h2⟩ := hc p (by rw [HN.out]; exact hlp)
      exact ⟨b, off, e, A, K, h1, h2⟩
    have HRt0 : Hid (∀ (j : Nat) (W : World), Calls Tryz.prog 34 #[.agg #[.slice (some ⟨b, off, none⟩) n pc, .slice ra r rc, .int .i64 s.groups, .int .i64 s.locks, .int .i64 s.cells], .int .i64 ((s.progs.getD p []).length : Nat), .agg #[.int .i64 ((s.progs.getD p []).getD j i0).op, .int .i64 ((s.progs.getD p []).getD j i0).a, .int .i64 ((s.progs.getD p []).getD j i0).b, .int .i64 ((s.progs.getD p []).getD j i0).c]] W (RiP (rightM s p ⟨((s.progs.getD p []).getD j i0).op, ((s.progs.getD p []).getD j i0).a, ((s.progs.getD p []).getD j i0).b, ((s.progs.getD p []).getD j i0).c⟩) W)) := fun j W => pinst s (some ⟨b, off, none⟩) pc ra rc n r _ p _ _ _ _ W HN.out HRn.out (by have := HSz.out.p2; have := HN.out; omega) (by have := HSz.out.r1; have := HRn.out; omega) HSz.out.l1 HSz.out.g1 rfl (HNi.out p j).2.1 (HNi.out p j).2.2.1 (HNi.out p j).2.2.2 HSz.out.c1.1
    have HIn : Hid (∀ j, j < (s.progs.getD p []).length → ∃ b2 off2, A = some ⟨b2, off2, none⟩ ∧ X.cell? ⟨b2, off2 + j * 4, none⟩ = some (.int .i64 ((s.progs.getD p []).getD j i0).op) ∧ X.cell? ⟨b2, off2 + j * 4 + 1, none⟩ = some (.int .i64 ((s.progs.getD p []).getD j i0).a) ∧ X.cell? ⟨b2, off2 + j * 4 + 2, none⟩ = some (.int .i64 ((s.progs.getD p []).getD j i0).b) ∧ X.cell? ⟨b2, off2 + j * 4 + 3, none⟩ = some (.int .i64 ((s.progs.getD p []).getD j i0).c)) := by
     intro j hj
     rcases hir with h | ⟨b2, off2, e, hc⟩
     ·rw [h] at hj; simp at hj
     ·exact ⟨b2, off2, e, hc j hj⟩
    have HPb : Hid ((s.progs.getD p []).length ≤ 256) := HSz.out.pl p (by rw [HN.out]; exact hlp)
    obtain ⟨pl, hpl⟩ : ∃ pl, (s.progs.getD p []).length = pl := ⟨_, rfl⟩
    have HPL := TW.hide hpl
    rw [hpl] at hpc HIn HRt0 HPb
    have HRt := HRt0
    have HLP := TW.hide hlp
    have hpl256 := HPb.out
    clear hir hpl hlp hp HRt0 HPb
    have z0 := keepC HX1.out hpc
    go_wp2
    clear z0
    go_loopw [19] (fun i wr => ∃ j : Nat, j ≤ pl ∧ i = .int .i64 (j : Int) ∧ Hid (Below X.heap.size X wr) ∧ Hid (∀ q, q < j → rightM s p ((s.progs.getD p []).getD q i0))) (fun i wr => pl - (intOf i).toNat)
    case atStart => exact ⟨0, Nat.zero_le _, rfl, HX1, TW.hide (fun q hq => by omega)⟩
    case round =>
     obtain ⟨j, hj, rfl, HX0, HQ⟩ := hrel
     have NBr : Hid (Below w.heap.size w wr) := NB.out.trans (HX0.out.mono NB.out.size)
     by_cases hlt : j < pl
     ·have hj1 : (j : Int) < (pl : Int) := by omega
      have hj0 : (0 : Int) ≤ (j : Int) := by omega
      obtain ⟨b2, off2, rfl, x0_, x1_, x2_, x3_⟩ := HIn.out j hlt
      have x0 := keepC HX0.out x0_
      have x1 := keepC HX0.out x1_
      have x2 := keepC HX0.out x2_
      have x3 := keepC HX0.out x3_
      have HRi := TW.hide (fun W => HRt.out j W)
      have HZr : Hid (Z → rightM s p ⟨((s.progs.getD p []).getD j i0).op, ((s.progs.getD p []).getD j i0).a, ((s.progs.getD p []).getD j i0).b, ((s.progs.getD p []).getD j i0).c⟩) := fun hz => by
       rw [HZ.out] at hz
       exact hz.rt p (by rw [HN.out]; exact HLP.out) j (by rw [HPL.out]; exact hlt)
      have HRq : Hid (rightM s p ⟨((s.progs.getD p []).getD j i0).op, ((s.progs.getD p []).getD j i0).a, ((s.progs.getD p []).getD j i0).b, ((s.progs.getD p []).getD j i0).c⟩ → rightM s p ((s.progs.getD p []).getD j i0)) := fun h => h
      have HLJ := TW.hide hlt
      have y0 := keepC HX0.out (cellsY5 XS.out).1
      clear hlt x0_ x1_ x2_ x3_
      generalize ((s.progs.getD p []).getD j i0).op = op at *
      generalize ((s.progs.getD p []).getD j i0).a = a0 at *
      generalize ((s.progs.getD p []).getD j i0).b = a1 at *
      generalize ((s.progs.getD p []).getD j i0).c = a2 at *
      have hAl : Below wr.heap.size wr ((wr.alloc (.cells #[.int .i64 0, .int .i64 0, .int .i64 0, .int .i64 0] 75)).setRow wr.heap.size #[.int .i64 op, .int .i64 a0, .int .i64 a1, .int .i64 a2]) := below_setRow ((Below.refl _ _).alloc (Nat.le_refl _) _) (Nat.le_refl _)
      have NI : Hid (((wr.alloc (.cells #[.int .i64 0, .int .i64 0, .int .i64 0, .int .i64 0] 75)).setRow wr.heap.size #[.int .i64 op, .int .i64 a0, .int .i64 a1, .int .i64 a2]).heap[wr.heap.size]? = some (.cells #[.int .i64 op, .int .i64 a0, .int .i64 a1, .int .i64 a2] 75 (0, 0))) := setRow_heap _ _ _ _ _ _ (heap_alloc_new wr _)
      have HX1 : Hid (Below X.heap.size X ((wr.alloc (.cells #[.int .i64 0, .int .i64 0, .int .i64 0, .int .i64 0] 75)).setRow wr.heap.size #[.int .i64 op, .int .i64 a0, .int .i64 a1, .int .i64 a2])) := HX0.out.trans (hAl.mono HX0.out.size)
      clear hAl
      refine wp_seq_k fun Kq hKq => ?_
      have HKq := TW.hide hKq
      clear hKq
      go_wp2
      refine HKq.out _ _ ?_
      clear HKq Kq
      refine wp_seq_k fun Kc hKc => ?_
      have HKc := TW.hide hKc
      clear hKc
      go_wp2
      refine HKc.out _ _ ?_
      clear HKc Kc
      refine wp_seq_k fun Kd hKd => ?_
      have HKd := TW.hide hKd
      clear hKd
      refine wp_block ?_
      refine wp_seq_k fun Ke hKe => ?_
      have HKe := TW.hide hKe
      clear hKe
      go_wp2_with (refine wpList_store_row (by rfl) 75 _ _ (by rfl) wr.heap.size #[.int .i64 op, .int .i64 a0, .int .i64 a1, .int .i64 a2] (by rfl) (by rfl) 75 _ (heap_alloc_new wr _) (by kernel_rfl) (by rfl) (by simp [Value.oneCell']) ?_)
      refine HKe.out _ _ ?_
      clear HKe Ke x0 x1 x2 x3 y0
      generalize World.setRow _ _ _ = X1 at *
      generalize wr.heap.size = g3 at *
      obtain ⟨y0, y1, y2, y3, y4⟩ := cellsY5 (blk_keep XS.out HX1.out)
      obtain ⟨z0, z1, z2, z3⟩ := cellsY4 NI.out
      go_wp2_with fail
      refine (HRi.out _).mono ?_
      rintro ex1 W1 ⟨xb, rfl, hxb, hb⟩
      have HT1 : Hid (Below X.heap.size X W1) := HX1.out.trans (hb.mono HX1.out.size)
      have NB1 : Hid (Below w.heap.size w W1) := NB.out.trans (HT1.out.mono NB.out.size)
      have HXB := TW.hide hxb
      clear hb hxb y0 y1 y2 y3 y4 z0 z1 z2 z3 HRi
      cases xb with
      | true =>
       go_wp2
       refine HKd.out _ _ ?_
       go_wp2
       go_roundw
       case rel =>
        refine ⟨j + 1, HLJ.out, by go_num, HT1, TW.hide (fun q hq => ?_)⟩
        rcases Nat.lt_or_ge q j with h | h
        ·exact HQ.out q h
        ·obtain rfl : q = j := by omega
         exact HRq.out (HXB.out.1 (by trivial))
       case measure => simp [intOf]; have := HLJ.out; omega
      | false =>
       have HNo : Hid (¬ Z) := fun hz => by
        have := HXB.out.2 (HZr.out hz)
        simp at this
       go_wp2
       go_ret
       exact ⟨130, rfl, fun h => absurd h HNo.out, fun _ => rfl, NB1.out⟩
     ·have hjp : pl = j := by omega
      subst hjp
      go_wp2
      refine ⟨⟨p + 1, HLP.out, by go_num, HX0, TW.hide (fun q hq => ?_)⟩, by simp [intOf]; have := HLP.out; omega⟩
      rcases Nat.lt_or_ge q p with h | h
      ·exact HQ0.out q h
      ·obtain rfl : q = p := by omega
       exact fun x hx => HQ.out x (by rw [HPL.out] at hx; exact hx)
   ·have hpn : n = p := by omega
    subst hpn
    have HYes : Hid Z := by
     show Z
     rw [HZ.out]
     have e1 := HN.out
     have e2 := HRn.out
     have e3 := HSz.out
     exact ⟨e3.p1, e3.p2, e3.r1, e3.g1, e3.l1, e3.c1, e3.rm, e3.pl, fun q hq => HQ0.out q (by omega)⟩
    go_wp2
    refine HK.out _ _ ?_
    go_wp2
    go_ret
    exact ⟨0, rfl, fun _ => rfl, fun h => absurd HYes.out h, NBp.out⟩
theorem pvalid : ∀ (s : Syst) (pa : Option Addr) (pc : Nat) (ra : Option Addr) (rc : Nat) (w : World), SyI w s pa ra → Calls Tryz.prog 14 #[.agg (syC s pa pc ra rc)] w fun e w' => ∃ x : Int, e = .returned (.int .i64 x) ∧ (Ok s → x = 0) ∧ (¬ Ok s → x = 130) ∧ Below w.heap.size w w' := fun s pa pc ra rc w h => pvalid1 s pa pc ra rc _ _ w h rfl rfl
end LW
end Go.Proofs.YtdjanbojhblijaaGreat
