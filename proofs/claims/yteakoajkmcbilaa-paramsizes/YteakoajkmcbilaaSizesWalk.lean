/-
  The walk of ParamSizes: it returns true for every input.
-/
import Derived.Test.YteakoajkmcbilaaPlain
import Derived.Test.YteakoajkmcbilaaRCheck
import Derived.Test.YteakoajkmcbilaaAlike
namespace Go.Proofs.Yteakoajkmcbilaa
open Go.RowKit Go.ChangeShapes
set_option linter.unusedVariables false
namespace LW
open Words
set_option maxHeartbeats 4000000 in
theorem sizesW (kd a1 a2 : Int) (w : World) (m ee E x1 x2 x3 : Int) (he : (m = 0 ∧ ee = 1) ∨ ((m == 0) = false ∧ ee = 0))
    (H9 : Hid (∀ W : World, Calls Try.prog 9 #[.int .i64 kd] W fun e w' => e = .returned (.tuple #[.int .i64 m, .int .i64 ee]) ∧ Below W.heap.size W w'))
    (H10 : Hid (∀ W : World, Calls Try.prog 10 #[.int .i64 kd] W fun e w' => e = .returned (.tuple #[.int .i64 m, .int .i64 ee]) ∧ Below W.heap.size W w'))
    (H11 : Hid (∀ W : World, Calls Try.prog 11 #[.int .i64 kd] W fun e w' => e = .returned (.int .i64 m) ∧ W = w'))
    (H12 : Hid (∀ W : World, Calls Try.prog 12 #[.int .i64 kd] W fun e w' => e = .returned (.int .i64 m) ∧ W = w'))
    (H13 : Hid (∀ W : World, Calls Try.prog 13 #[.int .i64 kd, .int .i64 a1, .int .i64 a2] W fun e w' => e = .returned (.tuple #[.agg (pc x1 x2 x3 x3 0 0 0 0 0 (.slice none 0 0) (.slice none 0 0)), .int .i64 E]) ∧ Below W.heap.size W w'))
    (H14 : Hid (∀ W : World, Calls Try.prog 14 #[.int .i64 kd, .int .i64 a1, .int .i64 a2] W fun e w' => e = .returned (.tuple #[.agg (pc x1 x2 x3 x3 0 0 0 0 0 (.slice none 0 0) (.slice none 0 0)), .int .i64 E]) ∧ Below W.heap.size W w'))
    (H15 : Hid (∀ W : World, Calls Try.prog 15 #[.agg (pc x1 x2 x3 x3 0 0 0 0 0 (.slice none 0 0) (.slice none 0 0)), .agg (pc x1 x2 x3 x3 0 0 0 0 0 (.slice none 0 0) (.slice none 0 0))] W fun e w' => e = .returned (.bool true) ∧ Below W.heap.size W w')) :
    Calls Try.prog 3 #[.int .i64 kd, .int .i64 a1, .int .i64 a2] w fun e w' => e = .returned (.bool true) ∧ Below w.heap.size w w' := by
  unfold pc at *
  rcases he with ⟨rfl, rfl⟩ | ⟨hm, rfl⟩
  all_goals
    go_enter Try.func3, Try.ntmps3
    go_wp2_with fail
    refine (H9.out _).mono ?_
    rintro e w1 ⟨rfl, hb1⟩
    have B1 := TW.hide hb1
    clear hb1
    go_wp2_with fail
    refine (H10.out _).mono ?_
    rintro e w2 ⟨rfl, hb2⟩
    have B2 : Hid (Below w.heap.size w w2) := B1.out.trans (hb2.mono B1.out.size)
    clear hb2 B1
    go_wp2_with fail
    refine (H11.out _).mono ?_
    rintro e w3 ⟨rfl, rfl⟩
    go_wp2_with fail
    refine (H12.out _).mono ?_
    rintro e w3 ⟨rfl, rfl⟩
    go_wp2_with fail
    refine (H11.out _).mono ?_
    rintro e w3 ⟨rfl, rfl⟩
    go_wp2_with fail
    refine (H13.out _).mono ?_
    rintro e w3 ⟨rfl, hb3⟩
    have B3 : Hid (Below w.heap.size w w3) := B2.out.trans (hb3.mono B2.out.size)
    clear hb3 B2
    go_wp2_with fail
    refine (H14.out _).mono ?_
    rintro e w4 ⟨rfl, hb4⟩
    have n0 := blk_keep (heap_alloc_new w3 _) hb4
    have hs := hb4.size
    simp at hs
    have hs3 : w3.heap.size < w4.heap.size := by omega
    have hs4 := B3.out.size
    have B4 : Hid (Below w.heap.size w w4) := (B3.out.alloc B3.out.size _).trans (hb4.mono (by simp; omega))
    have g0 := blk_cell n0 (i := 0) (v := .int .i64 x1) rfl
    have g1 := blk_cell n0 (i := 1) (v := .int .i64 x2) rfl
    have g2 := blk_cell n0 (i := 2) (v := .int .i64 x3) rfl
    have g3 := blk_cell n0 (i := 3) (v := .int .i64 x3) rfl
    have g4 := blk_cell n0 (i := 4) (v := .int .u32 0) rfl
    have g5 := blk_cell n0 (i := 5) (v := .int .u64 0) rfl
    have g6 := blk_cell n0 (i := 6) (v := .int .u32 0) rfl
    have g7 := blk_cell n0 (i := 7) (v := .int .i64 0) rfl
    have g8 := blk_cell n0 (i := 8) (v := .int .i64 0) rfl
    have g9 := blk_cell n0 (i := 9) (v := .slice none 0 0) rfl
    have g10 := blk_cell n0 (i := 10) (v := .slice none 0 0) rfl
    clear hb4 B3 n0 hs
    go_wp2_with fail
    refine (H15.out _).mono ?_
    rintro e w5 ⟨rfl, hb5⟩
    have B5 : Hid (Below w.heap.size w w5) := (B4.out.alloc (by omega) _).trans (hb5.mono (by simp; omega))
    clear hb5
    go_wp2_with fail
    go_ret
    exact ⟨rfl, B5.out⟩
theorem sizes (kd a1 a2 : Int) (w : World) (w0 : (Lit.int .i64 kd).wf = true) (w1 : (Lit.int .i64 a1).wf = true) (w2 : (Lit.int .i64 a2).wf = true) :
    Calls Try.prog 3 #[.int .i64 kd, .int .i64 a1, .int .i64 a2] w fun e w' => e = .returned (.bool true) ∧ Below w.heap.size w w' := by
  have h13 := fun W => plain kd a1 a2 W _ (fun W => check kd a1 a2 1 1 0 0 0 0 0 none none 0 0 0 0 W (by omega) (by omega) (by omega) (by omega))
  have h14 := fun W => rplain kd a1 a2 W _ (fun W => rcheck kd a1 a2 1 1 0 0 0 0 0 none none 0 0 0 0 W (by omega) (by omega) (by omega))
  generalize ck kd a1 a2 1 1 0 0 0 0 0 0 = E at *
  have he : (mo kd = 0 ∧ ke kd = 1) ∨ ((mo kd == 0) = false ∧ ke kd = 0) := by
    rcases kinds kd with rfl | rfl | ⟨h1, h2⟩
    · exact .inr ⟨rfl, rfl⟩
    · exact .inr ⟨rfl, rfl⟩
    · exact .inl ⟨by simp [mo, h1, h2], by simp [ke, h1, h2]⟩
  by_cases hE : E = 0
  · simp only [hE, if_true] at h13 h14
    exact sizesW kd a1 a2 w (mo kd) (ke kd) 0 a1 a2 1 he (fun W => size kd W) (fun W => most kd W) (fun W => rmost kd W) (fun W => rsize kd W) h13 h14
      (fun W => alikeE a1 a2 1 1 0 0 0 0 0 none none none none 0 0 0 0 [] [] W (.inl rfl) (.inl rfl) (.inl rfl) (.inl rfl) (by simp) (by simp))
  · simp only [hE, if_false] at h13 h14
    exact sizesW kd a1 a2 w (mo kd) (ke kd) E 0 0 0 he (fun W => size kd W) (fun W => most kd W) (fun W => rmost kd W) (fun W => rsize kd W) h13 h14
      (fun W => alikeE 0 0 0 0 0 0 0 0 0 none none none none 0 0 0 0 [] [] W (.inl rfl) (.inl rfl) (.inl rfl) (.inl rfl) (by simp) (by simp))
end LW
end Go.Proofs.Yteakoajkmcbilaa
