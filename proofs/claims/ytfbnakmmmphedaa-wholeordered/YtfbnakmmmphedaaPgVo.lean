/-
 What the program's Valid is built of.
-/
import Derived.Test.YtfbnakmmmphedaaSwo
set_option linter.unusedVariables false
set_option linter.unusedSimpArgs false
set_option maxRecDepth 100000
set_option maxHeartbeats 4000000
namespace Go.Proofs.Ytfbnakmmmphedaa
open Go.RowKit
namespace LW
open Mc
theorem pwithin (n l m : Int) (w : World) : Calls Try.prog 36 #[.int .i64 n,.int .i64 l,.int .i64 m] w fun e w' => e = .returned (.bool (decide (l ≤ n ∧ n ≤ m))) ∧ w = w':=by
 go_enter Try.func36,Try.ntmps36
 by_cases h1 : l ≤ n
 ·by_cases h2 : n ≤ m
  ·go_wp2
   go_ret;exact ⟨by simp [h1,h2],rfl⟩
  ·go_wp2
   go_ret;exact ⟨by simp [h1,h2],rfl⟩
 ·go_wp2
  go_ret;exact ⟨by simp;omega,rfl⟩
def wT : List (Int × Int × Int):=[(0,0,0),(1,2,0),(1,1,0),(1,1,3),(0,0,3),(4,1,0),(4,1,3),(4,0,0),(5,0,0),(5,0,0),(6,2,0),(6,0,0),(1,1,0),(1,1,0),(7,0,0),(2,1,0),(0,0,0)]
def RoQ (op cells : Int) (w : World) : Ending → World → Prop:=fun e w' => ∃ (a b c : Int) (ok : Bool),e = .returned (.tuple #[.agg #[.int .i64 a,.int .i64 b,.int .i64 c],.bool ok]) ∧ (ok = true ↔ (1 ≤ op ∧ op ≤ 16 ∧ ((op = 12 ∨ op = 13) → cells ≠ 0))) ∧ (ok = true → (a,b,c) = wT.getD op.toNat (0,0,0)) ∧ Below w.heap.size w w'
theorem prowOf (op cells : Int) (w : World) : Calls Try.prog 37 #[.int .i64 op,.int .i64 cells] w (RoQ op cells w):=by
 have HB : Hid (Below w.heap.size w (w.alloc (.cells #[.int .i64 0,.int .i64 0,.int .i64 0] 97))):=(Below.refl _ _).alloc (Nat.le_refl _) _
 have HN : Hid ((w.alloc (.cells #[.int .i64 0,.int .i64 0,.int .i64 0] 97)).heap[w.heap.size]? = some (.cells #[.int .i64 0,.int .i64 0,.int .i64 0] 97 (0,0))):=heap_alloc_new w _
 obtain ⟨POST,hP⟩ : ∃ P,P = RoQ op cells w:=⟨_,rfl⟩
 have HP:=ζ hP
 rw [← hP]
 clear hP
 go_enter Try.func37,Try.ntmps37
 refine wp_seq_k fun K hK => ?_
 have HK:=ζ hK
 clear hK
 go_wp2
 refine HK.out _ _ ?_
 clear HK K
 generalize World.alloc _ _ = X at *
 refine wp_seq_q fun KT QT hKT hNT hOT => ?_
 have HKT:=ζ hKT
 have HNT:=ζ hNT
 have HOT:=ζ hOT
 clear hKT hNT hOT
 refine wp_seq_k fun K1 hK1 => ?_
 have HK1:=ζ hK1
 clear hK1
 go_wp2
 refine HK1.out _ _ ?_
 clear HK1 K1
 refine wp_block_q fun Q0 hN0 hE0 hO0 => ?_
 have HN0:=ζ hN0
 have HE0:=ζ hE0
 have HO0:=ζ hO0
 clear hN0 hE0 hO0
 refine wp_seq_block_q fun Kb14 Q14 hKb14 hN14 hE14 hO14 => ?_
 have HKb14:=ζ hKb14
 have HN14:=ζ hN14
 have HE14:=ζ hE14
 have HO14:=ζ hO14
 clear hKb14 hN14 hE14 hO14
 refine wp_seq_block_q fun Kb13 Q13 hKb13 hN13 hE13 hO13 => ?_
 have HKb13:=ζ hKb13
 have HN13:=ζ hN13
 have HE13:=ζ hE13
 have HO13:=ζ hO13
 clear hKb13 hN13 hE13 hO13
 refine wp_seq_block_q fun Kb12 Q12 hKb12 hN12 hE12 hO12 => ?_
 have HKb12:=ζ hKb12
 have HN12:=ζ hN12
 have HE12:=ζ hE12
 have HO12:=ζ hO12
 clear hKb12 hN12 hE12 hO12
 refine wp_seq_block_q fun Kb11 Q11 hKb11 hN11 hE11 hO11 => ?_
 have HKb11:=ζ hKb11
 have HN11:=ζ hN11
 have HE11:=ζ hE11
 have HO11:=ζ hO11
 clear hKb11 hN11 hE11 hO11
 refine wp_seq_block_q fun Kb10 Q10 hKb10 hN10 hE10 hO10 => ?_
 have HKb10:=ζ hKb10
 have HN10:=ζ hN10
 have HE10:=ζ hE10
 have HO10:=ζ hO10
 clear hKb10 hN10 hE10 hO10
 refine wp_seq_block_q fun Kb9 Q9 hKb9 hN9 hE9 hO9 => ?_
 have HKb9:=ζ hKb9
 have HN9:=ζ hN9
 have HE9:=ζ hE9
 have HO9:=ζ hO9
 clear hKb9 hN9 hE9 hO9
 refine wp_seq_block_q fun Kb8 Q8 hKb8 hN8 hE8 hO8 => ?_
 have HKb8:=ζ hKb8
 have HN8:=ζ hN8
 have HE8:=ζ hE8
 have HO8:=ζ hO8
 clear hKb8 hN8 hE8 hO8
 refine wp_seq_block_q fun Kb7 Q7 hKb7 hN7 hE7 hO7 => ?_
 have HKb7:=ζ hKb7
 have HN7:=ζ hN7
 have HE7:=ζ hE7
 have HO7:=ζ hO7
 clear hKb7 hN7 hE7 hO7
 refine wp_seq_block_q fun Kb6 Q6 hKb6 hN6 hE6 hO6 => ?_
 have HKb6:=ζ hKb6
 have HN6:=ζ hN6
 have HE6:=ζ hE6
 have HO6:=ζ hO6
 clear hKb6 hN6 hE6 hO6
 refine wp_seq_block_q fun Kb5 Q5 hKb5 hN5 hE5 hO5 => ?_
 have HKb5:=ζ hKb5
 have HN5:=ζ hN5
 have HE5:=ζ hE5
 have HO5:=ζ hO5
 clear hKb5 hN5 hE5 hO5
 refine wp_seq_block_q fun Kb4 Q4 hKb4 hN4 hE4 hO4 => ?_
 have HKb4:=ζ hKb4
 have HN4:=ζ hN4
 have HE4:=ζ hE4
 have HO4:=ζ hO4
 clear hKb4 hN4 hE4 hO4
 refine wp_seq_block_q fun Kb3 Q3 hKb3 hN3 hE3 hO3 => ?_
 have HKb3:=ζ hKb3
 have HN3:=ζ hN3
 have HE3:=ζ hE3
 have HO3:=ζ hO3
 clear hKb3 hN3 hE3 hO3
 refine wp_seq_block_q fun Kb2 Q2 hKb2 hN2 hE2 hO2 => ?_
 have HKb2:=ζ hKb2
 have HN2:=ζ hN2
 have HE2:=ζ hE2
 have HO2:=ζ hO2
 clear hKb2 hN2 hE2 hO2
 refine wp_seq_block_q fun Kb1 Q1 hKb1 hN1 hE1 hO1 => ?_
 have HKb1:=ζ hKb1
 have HN1:=ζ hN1
 have HE1:=ζ hE1
 have HO1:=ζ hO1
 clear hKb1 hN1 hE1 hO1
 have HX14 : Hid (∀ a w,Kb14 a w → Q1 (.exit 14) a w):=fun a w hk => xZ HO1 14 (xZ HO2 14 (xZ HO3 14 (xZ HO4 14 (xZ HO5 14 (xZ HO6 14 (xZ HO7 14 (xZ HO8 14 (xZ HO9 14 (xZ HO10 14 (xZ HO11 14 (xZ HO12 14 (xZ HO13 14 (HE14.out a w hk)))))))))))))
 have HR14 : Hid (∀ a w,_ → Q0 .ret a w):=fun a w hq => xR HO0 (xR HOT hq)
 have HP14 : Hid (∀ c a w,_ → Q0 (.panic c) a w):=fun c a w hq => xP HO0 (xP HOT hq)
 have HZ14 : Hid (∀ a w,KT a w → Q0 (.exit 0) a w):=fun a w hk => HE0.out a w (HNT.out a w hk)
 have HX13 : Hid (∀ a w,Kb13 a w → Q1 (.exit 13) a w):=fun a w hk => xZ HO1 13 (xZ HO2 13 (xZ HO3 13 (xZ HO4 13 (xZ HO5 13 (xZ HO6 13 (xZ HO7 13 (xZ HO8 13 (xZ HO9 13 (xZ HO10 13 (xZ HO11 13 (xZ HO12 13 (HE13.out a w hk))))))))))))
 have HR13 : Hid (∀ a w,_ → Q14 .ret a w):=fun a w hq => xR HO14 (xR HO0 (xR HOT hq))
 have HP13 : Hid (∀ c a w,_ → Q14 (.panic c) a w):=fun c a w hq => xP HO14 (xP HO0 (xP HOT hq))
 have HZ13 : Hid (∀ a w,KT a w → Q14 (.exit 0) a w):=fun a w hk => xZ HO14 0 (HE0.out a w (HNT.out a w hk))
 have HX12 : Hid (∀ a w,Kb12 a w → Q1 (.exit 12) a w):=fun a w hk => xZ HO1 12 (xZ HO2 12 (xZ HO3 12 (xZ HO4 12 (xZ HO5 12 (xZ HO6 12 (xZ HO7 12 (xZ HO8 12 (xZ HO9 12 (xZ HO10 12 (xZ HO11 12 (HE12.out a w hk)))))))))))
 have HR12 : Hid (∀ a w,_ → Q13 .ret a w):=fun a w hq => xR HO13 (xR HO14 (xR HO0 (xR HOT hq)))
 have HP12 : Hid (∀ c a w,_ → Q13 (.panic c) a w):=fun c a w hq => xP HO13 (xP HO14 (xP HO0 (xP HOT hq)))
 have HZ12 : Hid (∀ a w,KT a w → Q13 (.exit 0) a w):=fun a w hk => xZ HO13 0 (xZ HO14 0 (HE0.out a w (HNT.out a w hk)))
 have HX11 : Hid (∀ a w,Kb11 a w → Q1 (.exit 11) a w):=fun a w hk => xZ HO1 11 (xZ HO2 11 (xZ HO3 11 (xZ HO4 11 (xZ HO5 11 (xZ HO6 11 (xZ HO7 11 (xZ HO8 11 (xZ HO9 11 (xZ HO10 11 (HE11.out a w hk))))))))))
 have HR11 : Hid (∀ a w,_ → Q12 .ret a w):=fun a w hq => xR HO12 (xR HO13 (xR HO14 (xR HO0 (xR HOT hq))))
 have HP11 : Hid (∀ c a w,_ → Q12 (.panic c) a w):=fun c a w hq => xP HO12 (xP HO13 (xP HO14 (xP HO0 (xP HOT hq))))
 have HZ11 : Hid (∀ a w,KT a w → Q12 (.exit 0) a w):=fun a w hk => xZ HO12 0 (xZ HO13 0 (xZ HO14 0 (HE0.out a w (HNT.out a w hk))))
 have HX10 : Hid (∀ a w,Kb10 a w → Q1 (.exit 10) a w):=fun a w hk => xZ HO1 10 (xZ HO2 10 (xZ HO3 10 (xZ HO4 10 (xZ HO5 10 (xZ HO6 10 (xZ HO7 10 (xZ HO8 10 (xZ HO9 10 (HE10.out a w hk)))))))))
 have HR10 : Hid (∀ a w,_ → Q11 .ret a w):=fun a w hq => xR HO11 (xR HO12 (xR HO13 (xR HO14 (xR HO0 (xR HOT hq)))))
 have HP10 : Hid (∀ c a w,_ → Q11 (.panic c) a w):=fun c a w hq => xP HO11 (xP HO12 (xP HO13 (xP HO14 (xP HO0 (xP HOT hq)))))
 have HZ10 : Hid (∀ a w,KT a w → Q11 (.exit 0) a w):=fun a w hk => xZ HO11 0 (xZ HO12 0 (xZ HO13 0 (xZ HO14 0 (HE0.out a w (HNT.out a w hk)))))
 have HX9 : Hid (∀ a w,Kb9 a w → Q1 (.exit 9) a w):=fun a w hk => xZ HO1 9 (xZ HO2 9 (xZ HO3 9 (xZ HO4 9 (xZ HO5 9 (xZ HO6 9 (xZ HO7 9 (xZ HO8 9 (HE9.out a w hk))))))))
 have HR9 : Hid (∀ a w,_ → Q10 .ret a w):=fun a w hq => xR HO10 (xR HO11 (xR HO12 (xR HO13 (xR HO14 (xR HO0 (xR HOT hq))))))
 have HP9 : Hid (∀ c a w,_ → Q10 (.panic c) a w):=fun c a w hq => xP HO10 (xP HO11 (xP HO12 (xP HO13 (xP HO14 (xP HO0 (xP HOT hq))))))
 have HZ9 : Hid (∀ a w,KT a w → Q10 (.exit 0) a w):=fun a w hk => xZ HO10 0 (xZ HO11 0 (xZ HO12 0 (xZ HO13 0 (xZ HO14 0 (HE0.out a w (HNT.out a w hk))))))
 have HX8 : Hid (∀ a w,Kb8 a w → Q1 (.exit 8) a w):=fun a w hk => xZ HO1 8 (xZ HO2 8 (xZ HO3 8 (xZ HO4 8 (xZ HO5 8 (xZ HO6 8 (xZ HO7 8 (HE8.out a w hk)))))))
 have HR8 : Hid (∀ a w,_ → Q9 .ret a w):=fun a w hq => xR HO9 (xR HO10 (xR HO11 (xR HO12 (xR HO13 (xR HO14 (xR HO0 (xR HOT hq)))))))
 have HP8 : Hid (∀ c a w,_ → Q9 (.panic c) a w):=fun c a w hq => xP HO9 (xP HO10 (xP HO11 (xP HO12 (xP HO13 (xP HO14 (xP HO0 (xP HOT hq)))))))
 have HZ8 : Hid (∀ a w,KT a w → Q9 (.exit 0) a w):=fun a w hk => xZ HO9 0 (xZ HO10 0 (xZ HO11 0 (xZ HO12 0 (xZ HO13 0 (xZ HO14 0 (HE0.out a w (HNT.out a w hk)))))))
 have HX7 : Hid (∀ a w,Kb7 a w → Q1 (.exit 7) a w):=fun a w hk => xZ HO1 7 (xZ HO2 7 (xZ HO3 7 (xZ HO4 7 (xZ HO5 7 (xZ HO6 7 (HE7.out a w hk))))))
 have HR7 : Hid (∀ a w,_ → Q8 .ret a w):=fun a w hq => xR HO8 (xR HO9 (xR HO10 (xR HO11 (xR HO12 (xR HO13 (xR HO14 (xR HO0 (xR HOT hq))))))))
 have HP7 : Hid (∀ c a w,_ → Q8 (.panic c) a w):=fun c a w hq => xP HO8 (xP HO9 (xP HO10 (xP HO11 (xP HO12 (xP HO13 (xP HO14 (xP HO0 (xP HOT hq))))))))
 have HZ7 : Hid (∀ a w,KT a w → Q8 (.exit 0) a w):=fun a w hk => xZ HO8 0 (xZ HO9 0 (xZ HO10 0 (xZ HO11 0 (xZ HO12 0 (xZ HO13 0 (xZ HO14 0 (HE0.out a w (HNT.out a w hk))))))))
 have HX6 : Hid (∀ a w,Kb6 a w → Q1 (.exit 6) a w):=fun a w hk => xZ HO1 6 (xZ HO2 6 (xZ HO3 6 (xZ HO4 6 (xZ HO5 6 (HE6.out a w hk)))))
 have HR6 : Hid (∀ a w,_ → Q7 .ret a w):=fun a w hq => xR HO7 (xR HO8 (xR HO9 (xR HO10 (xR HO11 (xR HO12 (xR HO13 (xR HO14 (xR HO0 (xR HOT hq)))))))))
 have HP6 : Hid (∀ c a w,_ → Q7 (.panic c) a w):=fun c a w hq => xP HO7 (xP HO8 (xP HO9 (xP HO10 (xP HO11 (xP HO12 (xP HO13 (xP HO14 (xP HO0 (xP HOT hq)))))))))
 have HZ6 : Hid (∀ a w,KT a w → Q7 (.exit 0) a w):=fun a w hk => xZ HO7 0 (xZ HO8 0 (xZ HO9 0 (xZ HO10 0 (xZ HO11 0 (xZ HO12 0 (xZ HO13 0 (xZ HO14 0 (HE0.out a w (HNT.out a w hk)))))))))
 have HX5 : Hid (∀ a w,Kb5 a w → Q1 (.exit 5) a w):=fun a w hk => xZ HO1 5 (xZ HO2 5 (xZ HO3 5 (xZ HO4 5 (HE5.out a w hk))))
 have HR5 : Hid (∀ a w,_ → Q6 .ret a w):=fun a w hq => xR HO6 (xR HO7 (xR HO8 (xR HO9 (xR HO10 (xR HO11 (xR HO12 (xR HO13 (xR HO14 (xR HO0 (xR HOT hq))))))))))
 have HP5 : Hid (∀ c a w,_ → Q6 (.panic c) a w):=fun c a w hq => xP HO6 (xP HO7 (xP HO8 (xP HO9 (xP HO10 (xP HO11 (xP HO12 (xP HO13 (xP HO14 (xP HO0 (xP HOT hq))))))))))
 have HZ5 : Hid (∀ a w,KT a w → Q6 (.exit 0) a w):=fun a w hk => xZ HO6 0 (xZ HO7 0 (xZ HO8 0 (xZ HO9 0 (xZ HO10 0 (xZ HO11 0 (xZ HO12 0 (xZ HO13 0 (xZ HO14 0 (HE0.out a w (HNT.out a w hk))))))))))
 have HX4 : Hid (∀ a w,Kb4 a w → Q1 (.exit 4) a w):=fun a w hk => xZ HO1 4 (xZ HO2 4 (xZ HO3 4 (HE4.out a w hk)))
 have HR4 : Hid (∀ a w,_ → Q5 .ret a w):=fun a w hq => xR HO5 (xR HO6 (xR HO7 (xR HO8 (xR HO9 (xR HO10 (xR HO11 (xR HO12 (xR HO13 (xR HO14 (xR HO0 (xR HOT hq)))))))))))
 have HP4 : Hid (∀ c a w,_ → Q5 (.panic c) a w):=fun c a w hq => xP HO5 (xP HO6 (xP HO7 (xP HO8 (xP HO9 (xP HO10 (xP HO11 (xP HO12 (xP HO13 (xP HO14 (xP HO0 (xP HOT hq)))))))))))
 have HZ4 : Hid (∀ a w,KT a w → Q5 (.exit 0) a w):=fun a w hk => xZ HO5 0 (xZ HO6 0 (xZ HO7 0 (xZ HO8 0 (xZ HO9 0 (xZ HO10 0 (xZ HO11 0 (xZ HO12 0 (xZ HO13 0 (xZ HO14 0 (HE0.out a w (HNT.out a w hk)))))))))))
 have HX3 : Hid (∀ a w,Kb3 a w → Q1 (.exit 3) a w):=fun a w hk => xZ HO1 3 (xZ HO2 3 (HE3.out a w hk))
 have HR3 : Hid (∀ a w,_ → Q4 .ret a w):=fun a w hq => xR HO4 (xR HO5 (xR HO6 (xR HO7 (xR HO8 (xR HO9 (xR HO10 (xR HO11 (xR HO12 (xR HO13 (xR HO14 (xR HO0 (xR HOT hq))))))))))))
 have HP3 : Hid (∀ c a w,_ → Q4 (.panic c) a w):=fun c a w hq => xP HO4 (xP HO5 (xP HO6 (xP HO7 (xP HO8 (xP HO9 (xP HO10 (xP HO11 (xP HO12 (xP HO13 (xP HO14 (xP HO0 (xP HOT hq))))))))))))
 have HZ3 : Hid (∀ a w,KT a w → Q4 (.exit 0) a w):=fun a w hk => xZ HO4 0 (xZ HO5 0 (xZ HO6 0 (xZ HO7 0 (xZ HO8 0 (xZ HO9 0 (xZ HO10 0 (xZ HO11 0 (xZ HO12 0 (xZ HO13 0 (xZ HO14 0 (HE0.out a w (HNT.out a w hk))))))))))))
 have HX2 : Hid (∀ a w,Kb2 a w → Q1 (.exit 2) a w):=fun a w hk => xZ HO1 2 (HE2.out a w hk)
 have HR2 : Hid (∀ a w,_ → Q3 .ret a w):=fun a w hq => xR HO3 (xR HO4 (xR HO5 (xR HO6 (xR HO7 (xR HO8 (xR HO9 (xR HO10 (xR HO11 (xR HO12 (xR HO13 (xR HO14 (xR HO0 (xR HOT hq)))))))))))))
 have HP2 : Hid (∀ c a w,_ → Q3 (.panic c) a w):=fun c a w hq => xP HO3 (xP HO4 (xP HO5 (xP HO6 (xP HO7 (xP HO8 (xP HO9 (xP HO10 (xP HO11 (xP HO12 (xP HO13 (xP HO14 (xP HO0 (xP HOT hq)))))))))))))
 have HZ2 : Hid (∀ a w,KT a w → Q3 (.exit 0) a w):=fun a w hk => xZ HO3 0 (xZ HO4 0 (xZ HO5 0 (xZ HO6 0 (xZ HO7 0 (xZ HO8 0 (xZ HO9 0 (xZ HO10 0 (xZ HO11 0 (xZ HO12 0 (xZ HO13 0 (xZ HO14 0 (HE0.out a w (HNT.out a w hk)))))))))))))
 have HX1 : Hid (∀ a w,Kb1 a w → Q1 (.exit 1) a w):=fun a w hk => HE1.out a w hk
 have HR1 : Hid (∀ a w,_ → Q2 .ret a w):=fun a w hq => xR HO2 (xR HO3 (xR HO4 (xR HO5 (xR HO6 (xR HO7 (xR HO8 (xR HO9 (xR HO10 (xR HO11 (xR HO12 (xR HO13 (xR HO14 (xR HO0 (xR HOT hq))))))))))))))
 have HP1 : Hid (∀ c a w,_ → Q2 (.panic c) a w):=fun c a w hq => xP HO2 (xP HO3 (xP HO4 (xP HO5 (xP HO6 (xP HO7 (xP HO8 (xP HO9 (xP HO10 (xP HO11 (xP HO12 (xP HO13 (xP HO14 (xP HO0 (xP HOT hq))))))))))))))
 have HZ1 : Hid (∀ a w,KT a w → Q2 (.exit 0) a w):=fun a w hk => xZ HO2 0 (xZ HO3 0 (xZ HO4 0 (xZ HO5 0 (xZ HO6 0 (xZ HO7 0 (xZ HO8 0 (xZ HO9 0 (xZ HO10 0 (xZ HO11 0 (xZ HO12 0 (xZ HO13 0 (xZ HO14 0 (HE0.out a w (HNT.out a w hk))))))))))))))
 have HZx : Hid (∀ a w,KT a w → Q1 (.exit 0) a w):=fun a w hk => xZ HO1 0 (xZ HO2 0 (xZ HO3 0 (xZ HO4 0 (xZ HO5 0 (xZ HO6 0 (xZ HO7 0 (xZ HO8 0 (xZ HO9 0 (xZ HO10 0 (xZ HO11 0 (xZ HO12 0 (xZ HO13 0 (xZ HO14 0 (HE0.out a w (HNT.out a w hk)))))))))))))))
 clear HE0 HO0 HE14 HO14 HE13 HO13 HE12 HO12 HE11 HO11 HE10 HO10 HE9 HO9 HE8 HO8 HE7 HO7 HE6 HO6 HE5 HO5 HE4 HO4 HE3 HO3 HE2 HO2 HE1 HO1 HN0 HNT
 refine wp_seq_k fun Kx hKx => ?_
 have HKx:=ζ hKx
 clear hKx
 refine wp_seq_k fun Kr hKr => ?_
 have HKr:=ζ hKr
 clear hKr
 by_cases h_1 : op = 1
 ·have k_1 : (op == 1) = true:=by simp [h_1]
  have HV:=ζ h_1
  clear h_1;go_wp2;refine HX1.out _ _ ?_;refine HKb1.out _ _ ?_;have hz : op = 1:=HV.out
  clear HV;have HQ : Hid True:=trivial
  have HZ : Hid (op = 1):=hz
  clear hz;go_wp2_with (refine wpList_store_row (by rfl) 97 _ _ (by rfl) w.heap.size #[.int .i64 1,.int .i64 2,.int .i64 0] (by rfl) (by rfl) 97 _ HN.out (by kernel_rfl) (by rfl) (by simp [Value.oneCell']) ?_)
  refine HR1.out _ _ ?_;refine bodyPost_ret (v:=.tuple #[.agg #[.int .i64 1,.int .i64 2,.int .i64 0],.bool true]) (results_row_tmp (P:=Try.prog) Try.results37 _ _ w.heap.size 97 _ (0,0) _ _ (by rfl) (by rfl) (setRow_heap _ _ _ #[.int .i64 1,.int .i64 2,.int .i64 0] _ _ HN.out) Try.underlying97 rfl (by kernel_rfl)) rfl ?_
  rw [HP.out];exact ⟨1,2,0,true,rfl,by rw [HZ.out];simp [HQ.out],by rw [HZ.out];simp [wT],below_setRow HB.out (Nat.le_refl _)⟩
 have k_1 : (op == 1) = false:=by simp [h_1]
 go_wp2
 refine HKr.out _ _ ?_
 clear HKr Kr
 clear k_1
 refine wp_seq_k fun Kr hKr => ?_
 have HKr:=ζ hKr
 clear hKr
 by_cases h_12 : op = 12
 ·have k_12 : (op == 12) = true:=by simp [h_12]
  have HV:=ζ h_12
  clear h_12;go_wp2;refine HX2.out _ _ ?_;refine HKb2.out _ _ ?_;have hz : op = 12:=HV.out
  clear HV;by_cases hc : cells = 0
  ·have HQ : Hid (cells = 0):=hc
   have kc : (cells == 0) = true:=by simp [hc]
   have HZ : Hid (op = 12):=hz
   clear hc hz;go_wp2_with (refine wpList_store_row (by rfl) 97 _ _ (by rfl) w.heap.size #[.int .i64 0,.int .i64 0,.int .i64 0] (by rfl) (by rfl) 97 _ HN.out (by kernel_rfl) (by rfl) (by simp [Value.oneCell']) ?_)
   refine HR2.out _ _ ?_;refine bodyPost_ret (v:=.tuple #[.agg #[.int .i64 0,.int .i64 0,.int .i64 0],.bool false]) (results_row_tmp (P:=Try.prog) Try.results37 _ _ w.heap.size 97 _ (0,0) _ _ (by rfl) (by rfl) (setRow_heap _ _ _ #[.int .i64 0,.int .i64 0,.int .i64 0] _ _ HN.out) Try.underlying97 rfl (by kernel_rfl)) rfl ?_
   rw [HP.out];exact ⟨0,0,0,false,rfl,by rw [HZ.out];simp [HQ.out],by rw [HZ.out];simp [wT],below_setRow HB.out (Nat.le_refl _)⟩
  ·have HQ : Hid (cells ≠ 0):=hc
   have kc : (cells == 0) = false:=by simp [hc]
   have HZ : Hid (op = 12):=hz
   clear hc hz;go_wp2;refine HN3.out _ _ ?_;refine HKb3.out _ _ ?_;go_wp2_with (refine wpList_store_row (by rfl) 97 _ _ (by rfl) w.heap.size #[.int .i64 1,.int .i64 1,.int .i64 0] (by rfl) (by rfl) 97 _ HN.out (by kernel_rfl) (by rfl) (by simp [Value.oneCell']) ?_)
   refine HR3.out _ _ ?_;refine bodyPost_ret (v:=.tuple #[.agg #[.int .i64 1,.int .i64 1,.int .i64 0],.bool true]) (results_row_tmp (P:=Try.prog) Try.results37 _ _ w.heap.size 97 _ (0,0) _ _ (by rfl) (by rfl) (setRow_heap _ _ _ #[.int .i64 1,.int .i64 1,.int .i64 0] _ _ HN.out) Try.underlying97 rfl (by kernel_rfl)) rfl ?_
   rw [HP.out];exact ⟨1,1,0,true,rfl,by rw [HZ.out];simp [HQ.out],by rw [HZ.out];simp [wT],below_setRow HB.out (Nat.le_refl _)⟩
 have k_12 : (op == 12) = false:=by simp [h_12]
 by_cases h_13 : op = 13
 ·have k_13 : (op == 13) = true:=by simp [h_13]
  have HV:=ζ h_13
  clear h_13;go_wp2;refine HX2.out _ _ ?_;refine HKb2.out _ _ ?_;have hz : op = 13:=HV.out
  clear HV;by_cases hc : cells = 0
  ·have HQ : Hid (cells = 0):=hc
   have kc : (cells == 0) = true:=by simp [hc]
   have HZ : Hid (op = 13):=hz
   clear hc hz;go_wp2_with (refine wpList_store_row (by rfl) 97 _ _ (by rfl) w.heap.size #[.int .i64 0,.int .i64 0,.int .i64 0] (by rfl) (by rfl) 97 _ HN.out (by kernel_rfl) (by rfl) (by simp [Value.oneCell']) ?_)
   refine HR2.out _ _ ?_;refine bodyPost_ret (v:=.tuple #[.agg #[.int .i64 0,.int .i64 0,.int .i64 0],.bool false]) (results_row_tmp (P:=Try.prog) Try.results37 _ _ w.heap.size 97 _ (0,0) _ _ (by rfl) (by rfl) (setRow_heap _ _ _ #[.int .i64 0,.int .i64 0,.int .i64 0] _ _ HN.out) Try.underlying97 rfl (by kernel_rfl)) rfl ?_
   rw [HP.out];exact ⟨0,0,0,false,rfl,by rw [HZ.out];simp [HQ.out],by rw [HZ.out];simp [wT],below_setRow HB.out (Nat.le_refl _)⟩
  ·have HQ : Hid (cells ≠ 0):=hc
   have kc : (cells == 0) = false:=by simp [hc]
   have HZ : Hid (op = 13):=hz
   clear hc hz;go_wp2;refine HN3.out _ _ ?_;refine HKb3.out _ _ ?_;go_wp2_with (refine wpList_store_row (by rfl) 97 _ _ (by rfl) w.heap.size #[.int .i64 1,.int .i64 1,.int .i64 0] (by rfl) (by rfl) 97 _ HN.out (by kernel_rfl) (by rfl) (by simp [Value.oneCell']) ?_)
   refine HR3.out _ _ ?_;refine bodyPost_ret (v:=.tuple #[.agg #[.int .i64 1,.int .i64 1,.int .i64 0],.bool true]) (results_row_tmp (P:=Try.prog) Try.results37 _ _ w.heap.size 97 _ (0,0) _ _ (by rfl) (by rfl) (setRow_heap _ _ _ #[.int .i64 1,.int .i64 1,.int .i64 0] _ _ HN.out) Try.underlying97 rfl (by kernel_rfl)) rfl ?_
   rw [HP.out];exact ⟨1,1,0,true,rfl,by rw [HZ.out];simp [HQ.out],by rw [HZ.out];simp [wT],below_setRow HB.out (Nat.le_refl _)⟩
 have k_13 : (op == 13) = false:=by simp [h_13]
 go_wp2
 refine HKr.out _ _ ?_
 clear HKr Kr
 clear k_12 k_13
 refine wp_seq_k fun Kr hKr => ?_
 have HKr:=ζ hKr
 clear hKr
 by_cases h_2 : op = 2
 ·have k_2 : (op == 2) = true:=by simp [h_2]
  have HV:=ζ h_2
  clear h_2;go_wp2;refine HX3.out _ _ ?_;refine HKb3.out _ _ ?_;have hz : op = 2:=HV.out
  clear HV;have HQ : Hid True:=trivial
  have HZ : Hid (op = 2):=hz
  clear hz;go_wp2_with (refine wpList_store_row (by rfl) 97 _ _ (by rfl) w.heap.size #[.int .i64 1,.int .i64 1,.int .i64 0] (by rfl) (by rfl) 97 _ HN.out (by kernel_rfl) (by rfl) (by simp [Value.oneCell']) ?_)
  refine HR3.out _ _ ?_;refine bodyPost_ret (v:=.tuple #[.agg #[.int .i64 1,.int .i64 1,.int .i64 0],.bool true]) (results_row_tmp (P:=Try.prog) Try.results37 _ _ w.heap.size 97 _ (0,0) _ _ (by rfl) (by rfl) (setRow_heap _ _ _ #[.int .i64 1,.int .i64 1,.int .i64 0] _ _ HN.out) Try.underlying97 rfl (by kernel_rfl)) rfl ?_
  rw [HP.out];exact ⟨1,1,0,true,rfl,by rw [HZ.out];simp [HQ.out],by rw [HZ.out];simp [wT],below_setRow HB.out (Nat.le_refl _)⟩
 have k_2 : (op == 2) = false:=by simp [h_2]
 go_wp2
 refine HKr.out _ _ ?_
 clear HKr Kr
 clear k_2
 refine wp_seq_k fun Kr hKr => ?_
 have HKr:=ζ hKr
 clear hKr
 by_cases h_3 : op = 3
 ·have k_3 : (op == 3) = true:=by simp [h_3]
  have HV:=ζ h_3
  clear h_3;go_wp2;refine HX4.out _ _ ?_;refine HKb4.out _ _ ?_;have hz : op = 3:=HV.out
  clear HV;have HQ : Hid True:=trivial
  have HZ : Hid (op = 3):=hz
  clear hz;go_wp2_with (refine wpList_store_row (by rfl) 97 _ _ (by rfl) w.heap.size #[.int .i64 1,.int .i64 1,.int .i64 3] (by rfl) (by rfl) 97 _ HN.out (by kernel_rfl) (by rfl) (by simp [Value.oneCell']) ?_)
  refine HR4.out _ _ ?_;refine bodyPost_ret (v:=.tuple #[.agg #[.int .i64 1,.int .i64 1,.int .i64 3],.bool true]) (results_row_tmp (P:=Try.prog) Try.results37 _ _ w.heap.size 97 _ (0,0) _ _ (by rfl) (by rfl) (setRow_heap _ _ _ #[.int .i64 1,.int .i64 1,.int .i64 3] _ _ HN.out) Try.underlying97 rfl (by kernel_rfl)) rfl ?_
  rw [HP.out];exact ⟨1,1,3,true,rfl,by rw [HZ.out];simp [HQ.out],by rw [HZ.out];simp [wT],below_setRow HB.out (Nat.le_refl _)⟩
 have k_3 : (op == 3) = false:=by simp [h_3]
 go_wp2
 refine HKr.out _ _ ?_
 clear HKr Kr
 clear k_3
 refine wp_seq_k fun Kr hKr => ?_
 have HKr:=ζ hKr
 clear hKr
 by_cases h_4 : op = 4
 ·have k_4 : (op == 4) = true:=by simp [h_4]
  have HV:=ζ h_4
  clear h_4;go_wp2;refine HX5.out _ _ ?_;refine HKb5.out _ _ ?_;have hz : op = 4:=HV.out
  clear HV;have HQ : Hid True:=trivial
  have HZ : Hid (op = 4):=hz
  clear hz;go_wp2_with (refine wpList_store_row (by rfl) 97 _ _ (by rfl) w.heap.size #[.int .i64 0,.int .i64 0,.int .i64 3] (by rfl) (by rfl) 97 _ HN.out (by kernel_rfl) (by rfl) (by simp [Value.oneCell']) ?_)
  refine HR5.out _ _ ?_;refine bodyPost_ret (v:=.tuple #[.agg #[.int .i64 0,.int .i64 0,.int .i64 3],.bool true]) (results_row_tmp (P:=Try.prog) Try.results37 _ _ w.heap.size 97 _ (0,0) _ _ (by rfl) (by rfl) (setRow_heap _ _ _ #[.int .i64 0,.int .i64 0,.int .i64 3] _ _ HN.out) Try.underlying97 rfl (by kernel_rfl)) rfl ?_
  rw [HP.out];exact ⟨0,0,3,true,rfl,by rw [HZ.out];simp [HQ.out],by rw [HZ.out];simp [wT],below_setRow HB.out (Nat.le_refl _)⟩
 have k_4 : (op == 4) = false:=by simp [h_4]
 go_wp2
 refine HKr.out _ _ ?_
 clear HKr Kr
 clear k_4
 refine wp_seq_k fun Kr hKr => ?_
 have HKr:=ζ hKr
 clear hKr
 by_cases h_5 : op = 5
 ·have k_5 : (op == 5) = true:=by simp [h_5]
  have HV:=ζ h_5
  clear h_5;go_wp2;refine HX6.out _ _ ?_;refine HKb6.out _ _ ?_;have hz : op = 5:=HV.out
  clear HV;have HQ : Hid True:=trivial
  have HZ : Hid (op = 5):=hz
  clear hz;go_wp2_with (refine wpList_store_row (by rfl) 97 _ _ (by rfl) w.heap.size #[.int .i64 4,.int .i64 1,.int .i64 0] (by rfl) (by rfl) 97 _ HN.out (by kernel_rfl) (by rfl) (by simp [Value.oneCell']) ?_)
  refine HR6.out _ _ ?_;refine bodyPost_ret (v:=.tuple #[.agg #[.int .i64 4,.int .i64 1,.int .i64 0],.bool true]) (results_row_tmp (P:=Try.prog) Try.results37 _ _ w.heap.size 97 _ (0,0) _ _ (by rfl) (by rfl) (setRow_heap _ _ _ #[.int .i64 4,.int .i64 1,.int .i64 0] _ _ HN.out) Try.underlying97 rfl (by kernel_rfl)) rfl ?_
  rw [HP.out];exact ⟨4,1,0,true,rfl,by rw [HZ.out];simp [HQ.out],by rw [HZ.out];simp [wT],below_setRow HB.out (Nat.le_refl _)⟩
 have k_5 : (op == 5) = false:=by simp [h_5]
 go_wp2
 refine HKr.out _ _ ?_
 clear HKr Kr
 clear k_5
 refine wp_seq_k fun Kr hKr => ?_
 have HKr:=ζ hKr
 clear hKr
 by_cases h_6 : op = 6
 ·have k_6 : (op == 6) = true:=by simp [h_6]
  have HV:=ζ h_6
  clear h_6;go_wp2;refine HX7.out _ _ ?_;refine HKb7.out _ _ ?_;have hz : op = 6:=HV.out
  clear HV;have HQ : Hid True:=trivial
  have HZ : Hid (op = 6):=hz
  clear hz;go_wp2_with (refine wpList_store_row (by rfl) 97 _ _ (by rfl) w.heap.size #[.int .i64 4,.int .i64 1,.int .i64 3] (by rfl) (by rfl) 97 _ HN.out (by kernel_rfl) (by rfl) (by simp [Value.oneCell']) ?_)
  refine HR7.out _ _ ?_;refine bodyPost_ret (v:=.tuple #[.agg #[.int .i64 4,.int .i64 1,.int .i64 3],.bool true]) (results_row_tmp (P:=Try.prog) Try.results37 _ _ w.heap.size 97 _ (0,0) _ _ (by rfl) (by rfl) (setRow_heap _ _ _ #[.int .i64 4,.int .i64 1,.int .i64 3] _ _ HN.out) Try.underlying97 rfl (by kernel_rfl)) rfl ?_
  rw [HP.out];exact ⟨4,1,3,true,rfl,by rw [HZ.out];simp [HQ.out],by rw [HZ.out];simp [wT],below_setRow HB.out (Nat.le_refl _)⟩
 have k_6 : (op == 6) = false:=by simp [h_6]
 go_wp2
 refine HKr.out _ _ ?_
 clear HKr Kr
 clear k_6
 refine wp_seq_k fun Kr hKr => ?_
 have HKr:=ζ hKr
 clear hKr
 by_cases h_7 : op = 7
 ·have k_7 : (op == 7) = true:=by simp [h_7]
  have HV:=ζ h_7
  clear h_7;go_wp2;refine HX8.out _ _ ?_;refine HKb8.out _ _ ?_;have hz : op = 7:=HV.out
  clear HV;have HQ : Hid True:=trivial
  have HZ : Hid (op = 7):=hz
  clear hz;go_wp2_with (refine wpList_store_row (by rfl) 97 _ _ (by rfl) w.heap.size #[.int .i64 4,.int .i64 0,.int .i64 0] (by rfl) (by rfl) 97 _ HN.out (by kernel_rfl) (by rfl) (by simp [Value.oneCell']) ?_)
  refine HR8.out _ _ ?_;refine bodyPost_ret (v:=.tuple #[.agg #[.int .i64 4,.int .i64 0,.int .i64 0],.bool true]) (results_row_tmp (P:=Try.prog) Try.results37 _ _ w.heap.size 97 _ (0,0) _ _ (by rfl) (by rfl) (setRow_heap _ _ _ #[.int .i64 4,.int .i64 0,.int .i64 0] _ _ HN.out) Try.underlying97 rfl (by kernel_rfl)) rfl ?_
  rw [HP.out];exact ⟨4,0,0,true,rfl,by rw [HZ.out];simp [HQ.out],by rw [HZ.out];simp [wT],below_setRow HB.out (Nat.le_refl _)⟩
 have k_7 : (op == 7) = false:=by simp [h_7]
 go_wp2
 refine HKr.out _ _ ?_
 clear HKr Kr
 clear k_7
 refine wp_seq_k fun Kr hKr => ?_
 have HKr:=ζ hKr
 clear hKr
 by_cases h_8 : op = 8
 ·have k_8 : (op == 8) = true:=by simp [h_8]
  have HV:=ζ h_8
  clear h_8;go_wp2;refine HX9.out _ _ ?_;refine HKb9.out _ _ ?_;have hz : op = 8:=HV.out
  clear HV;have HQ : Hid True:=trivial
  have HZ : Hid (op = 8):=hz
  clear hz;go_wp2_with (refine wpList_store_row (by rfl) 97 _ _ (by rfl) w.heap.size #[.int .i64 5,.int .i64 0,.int .i64 0] (by rfl) (by rfl) 97 _ HN.out (by kernel_rfl) (by rfl) (by simp [Value.oneCell']) ?_)
  refine HR9.out _ _ ?_;refine bodyPost_ret (v:=.tuple #[.agg #[.int .i64 5,.int .i64 0,.int .i64 0],.bool true]) (results_row_tmp (P:=Try.prog) Try.results37 _ _ w.heap.size 97 _ (0,0) _ _ (by rfl) (by rfl) (setRow_heap _ _ _ #[.int .i64 5,.int .i64 0,.int .i64 0] _ _ HN.out) Try.underlying97 rfl (by kernel_rfl)) rfl ?_
  rw [HP.out];exact ⟨5,0,0,true,rfl,by rw [HZ.out];simp [HQ.out],by rw [HZ.out];simp [wT],below_setRow HB.out (Nat.le_refl _)⟩
 have k_8 : (op == 8) = false:=by simp [h_8]
 by_cases h_9 : op = 9
 ·have k_9 : (op == 9) = true:=by simp [h_9]
  have HV:=ζ h_9
  clear h_9;go_wp2;refine HX9.out _ _ ?_;refine HKb9.out _ _ ?_;have hz : op = 9:=HV.out
  clear HV;have HQ : Hid True:=trivial
  have HZ : Hid (op = 9):=hz
  clear hz;go_wp2_with (refine wpList_store_row (by rfl) 97 _ _ (by rfl) w.heap.size #[.int .i64 5,.int .i64 0,.int .i64 0] (by rfl) (by rfl) 97 _ HN.out (by kernel_rfl) (by rfl) (by simp [Value.oneCell']) ?_)
  refine HR9.out _ _ ?_;refine bodyPost_ret (v:=.tuple #[.agg #[.int .i64 5,.int .i64 0,.int .i64 0],.bool true]) (results_row_tmp (P:=Try.prog) Try.results37 _ _ w.heap.size 97 _ (0,0) _ _ (by rfl) (by rfl) (setRow_heap _ _ _ #[.int .i64 5,.int .i64 0,.int .i64 0] _ _ HN.out) Try.underlying97 rfl (by kernel_rfl)) rfl ?_
  rw [HP.out];exact ⟨5,0,0,true,rfl,by rw [HZ.out];simp [HQ.out],by rw [HZ.out];simp [wT],below_setRow HB.out (Nat.le_refl _)⟩
 have k_9 : (op == 9) = false:=by simp [h_9]
 go_wp2
 refine HKr.out _ _ ?_
 clear HKr Kr
 clear k_8 k_9
 refine wp_seq_k fun Kr hKr => ?_
 have HKr:=ζ hKr
 clear hKr
 by_cases h_10 : op = 10
 ·have k_10 : (op == 10) = true:=by simp [h_10]
  have HV:=ζ h_10
  clear h_10;go_wp2;refine HX10.out _ _ ?_;refine HKb10.out _ _ ?_;have hz : op = 10:=HV.out
  clear HV;have HQ : Hid True:=trivial
  have HZ : Hid (op = 10):=hz
  clear hz;go_wp2_with (refine wpList_store_row (by rfl) 97 _ _ (by rfl) w.heap.size #[.int .i64 6,.int .i64 2,.int .i64 0] (by rfl) (by rfl) 97 _ HN.out (by kernel_rfl) (by rfl) (by simp [Value.oneCell']) ?_)
  refine HR10.out _ _ ?_;refine bodyPost_ret (v:=.tuple #[.agg #[.int .i64 6,.int .i64 2,.int .i64 0],.bool true]) (results_row_tmp (P:=Try.prog) Try.results37 _ _ w.heap.size 97 _ (0,0) _ _ (by rfl) (by rfl) (setRow_heap _ _ _ #[.int .i64 6,.int .i64 2,.int .i64 0] _ _ HN.out) Try.underlying97 rfl (by kernel_rfl)) rfl ?_
  rw [HP.out];exact ⟨6,2,0,true,rfl,by rw [HZ.out];simp [HQ.out],by rw [HZ.out];simp [wT],below_setRow HB.out (Nat.le_refl _)⟩
 have k_10 : (op == 10) = false:=by simp [h_10]
 go_wp2
 refine HKr.out _ _ ?_
 clear HKr Kr
 clear k_10
 refine wp_seq_k fun Kr hKr => ?_
 have HKr:=ζ hKr
 clear hKr
 by_cases h_11 : op = 11
 ·have k_11 : (op == 11) = true:=by simp [h_11]
  have HV:=ζ h_11
  clear h_11;go_wp2;refine HX11.out _ _ ?_;refine HKb11.out _ _ ?_;have hz : op = 11:=HV.out
  clear HV;have HQ : Hid True:=trivial
  have HZ : Hid (op = 11):=hz
  clear hz;go_wp2_with (refine wpList_store_row (by rfl) 97 _ _ (by rfl) w.heap.size #[.int .i64 6,.int .i64 0,.int .i64 0] (by rfl) (by rfl) 97 _ HN.out (by kernel_rfl) (by rfl) (by simp [Value.oneCell']) ?_)
  refine HR11.out _ _ ?_;refine bodyPost_ret (v:=.tuple #[.agg #[.int .i64 6,.int .i64 0,.int .i64 0],.bool true]) (results_row_tmp (P:=Try.prog) Try.results37 _ _ w.heap.size 97 _ (0,0) _ _ (by rfl) (by rfl) (setRow_heap _ _ _ #[.int .i64 6,.int .i64 0,.int .i64 0] _ _ HN.out) Try.underlying97 rfl (by kernel_rfl)) rfl ?_
  rw [HP.out];exact ⟨6,0,0,true,rfl,by rw [HZ.out];simp [HQ.out],by rw [HZ.out];simp [wT],below_setRow HB.out (Nat.le_refl _)⟩
 have k_11 : (op == 11) = false:=by simp [h_11]
 go_wp2
 refine HKr.out _ _ ?_
 clear HKr Kr
 clear k_11
 refine wp_seq_k fun Kr hKr => ?_
 have HKr:=ζ hKr
 clear hKr
 by_cases h_14 : op = 14
 ·have k_14 : (op == 14) = true:=by simp [h_14]
  have HV:=ζ h_14
  clear h_14;go_wp2;refine HX12.out _ _ ?_;refine HKb12.out _ _ ?_;have hz : op = 14:=HV.out
  clear HV;have HQ : Hid True:=trivial
  have HZ : Hid (op = 14):=hz
  clear hz;go_wp2_with (refine wpList_store_row (by rfl) 97 _ _ (by rfl) w.heap.size #[.int .i64 7,.int .i64 0,.int .i64 0] (by rfl) (by rfl) 97 _ HN.out (by kernel_rfl) (by rfl) (by simp [Value.oneCell']) ?_)
  refine HR12.out _ _ ?_;refine bodyPost_ret (v:=.tuple #[.agg #[.int .i64 7,.int .i64 0,.int .i64 0],.bool true]) (results_row_tmp (P:=Try.prog) Try.results37 _ _ w.heap.size 97 _ (0,0) _ _ (by rfl) (by rfl) (setRow_heap _ _ _ #[.int .i64 7,.int .i64 0,.int .i64 0] _ _ HN.out) Try.underlying97 rfl (by kernel_rfl)) rfl ?_
  rw [HP.out];exact ⟨7,0,0,true,rfl,by rw [HZ.out];simp [HQ.out],by rw [HZ.out];simp [wT],below_setRow HB.out (Nat.le_refl _)⟩
 have k_14 : (op == 14) = false:=by simp [h_14]
 go_wp2
 refine HKr.out _ _ ?_
 clear HKr Kr
 clear k_14
 refine wp_seq_k fun Kr hKr => ?_
 have HKr:=ζ hKr
 clear hKr
 by_cases h_15 : op = 15
 ·have k_15 : (op == 15) = true:=by simp [h_15]
  have HV:=ζ h_15
  clear h_15;go_wp2;refine HX13.out _ _ ?_;refine HKb13.out _ _ ?_;have hz : op = 15:=HV.out
  clear HV;have HQ : Hid True:=trivial
  have HZ : Hid (op = 15):=hz
  clear hz;go_wp2_with (refine wpList_store_row (by rfl) 97 _ _ (by rfl) w.heap.size #[.int .i64 2,.int .i64 1,.int .i64 0] (by rfl) (by rfl) 97 _ HN.out (by kernel_rfl) (by rfl) (by simp [Value.oneCell']) ?_)
  refine HR13.out _ _ ?_;refine bodyPost_ret (v:=.tuple #[.agg #[.int .i64 2,.int .i64 1,.int .i64 0],.bool true]) (results_row_tmp (P:=Try.prog) Try.results37 _ _ w.heap.size 97 _ (0,0) _ _ (by rfl) (by rfl) (setRow_heap _ _ _ #[.int .i64 2,.int .i64 1,.int .i64 0] _ _ HN.out) Try.underlying97 rfl (by kernel_rfl)) rfl ?_
  rw [HP.out];exact ⟨2,1,0,true,rfl,by rw [HZ.out];simp [HQ.out],by rw [HZ.out];simp [wT],below_setRow HB.out (Nat.le_refl _)⟩
 have k_15 : (op == 15) = false:=by simp [h_15]
 go_wp2
 refine HKr.out _ _ ?_
 clear HKr Kr
 clear k_15
 by_cases h_16 : op = 16
 ·have k_16 : (op == 16) = true:=by simp [h_16]
  have HV:=ζ h_16
  clear h_16;go_wp2;refine HX14.out _ _ ?_;refine HKb14.out _ _ ?_;have hz : op = 16:=HV.out
  clear HV;have HQ : Hid True:=trivial
  have HZ : Hid (op = 16):=hz
  clear hz;go_wp2_with (refine wpList_store_row (by rfl) 97 _ _ (by rfl) w.heap.size #[.int .i64 0,.int .i64 0,.int .i64 0] (by rfl) (by rfl) 97 _ HN.out (by kernel_rfl) (by rfl) (by simp [Value.oneCell']) ?_)
  refine HR14.out _ _ ?_;refine bodyPost_ret (v:=.tuple #[.agg #[.int .i64 0,.int .i64 0,.int .i64 0],.bool true]) (results_row_tmp (P:=Try.prog) Try.results37 _ _ w.heap.size 97 _ (0,0) _ _ (by rfl) (by rfl) (setRow_heap _ _ _ #[.int .i64 0,.int .i64 0,.int .i64 0] _ _ HN.out) Try.underlying97 rfl (by kernel_rfl)) rfl ?_
  rw [HP.out];exact ⟨0,0,0,true,rfl,by rw [HZ.out];simp [HQ.out],by rw [HZ.out];simp [wT],below_setRow HB.out (Nat.le_refl _)⟩
 have k_16 : (op == 16) = false:=by simp [h_16]
 go_wp2
 clear k_16
 refine HKx.out _ _ ?_
 go_wp2
 refine HZx.out _ _ ?_
 refine HKT.out _ _ ?_
 have HQ : Hid (¬ (1 ≤ op ∧ op ≤ 16)):=by
  intro h
  omega
 go_wp2_with (refine wpList_store_row (by rfl) 97 _ _ (by rfl) w.heap.size #[.int .i64 0,.int .i64 0,.int .i64 0] (by rfl) (by rfl) 97 _ HN.out (by kernel_rfl) (by rfl) (by simp [Value.oneCell']) ?_)
 refine bodyPost_ret (v:=.tuple #[.agg #[.int .i64 0,.int .i64 0,.int .i64 0],.bool false]) (results_row_tmp (P:=Try.prog) Try.results37 _ _ w.heap.size 97 _ (0,0) _ _ (by rfl) (by rfl) (setRow_heap _ _ _ #[.int .i64 0,.int .i64 0,.int .i64 0] _ _ HN.out) Try.underlying97 rfl (by kernel_rfl)) rfl ?_
 rw [HP.out]
 exact ⟨0,0,0,false,rfl,⟨fun h => (by cases h),fun h => absurd ⟨h.1,h.2.1⟩ HQ.out⟩,fun h => (by cases h),below_setRow HB.out (Nat.le_refl _)⟩
end LW
end Go.Proofs.Ytfbnakmmmphedaa
