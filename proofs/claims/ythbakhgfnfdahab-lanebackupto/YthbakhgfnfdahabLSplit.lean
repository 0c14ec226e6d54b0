/-
  What the program's Split gives.
-/
import Derived.Test.YthbakhgfnfdahabRSplit
namespace Go.Proofs.Ythbakhgfnfdahab
open Go.RowKit Go.ChangeShapes
set_option linter.unusedVariables false
set_option linter.unusedSimpArgs false
namespace LW
open Words
theorem lsplitNo (k : Int) (a : Option Addr) (len cap : Nat) (w : World) (hk : k ≠ 1 ∧ k ≠ 2) :
    Calls Try.prog 5 #[.int .i64 k, .slice a len cap] w fun e w' => e = .returned (.tuple #[.slice none 0 0, .int .i64 1]) ∧ Below w.heap.size w w' := by
  have h0 : ke k = 1 := by simp [ke, hk.1, hk.2]
  have HC := TW.hide (fun W => count k W)
  rw [h0] at HC
  generalize nl k = n at *
  clear h0 hk
  go_enter Try.func5, Try.ntmps5
  go_wp2_with fail
  refine (HC.out _).mono ?_
  rintro e w1 ⟨rfl, hb⟩
  have HB := TW.hide hb
  clear hb
  go_wp2
  go_ret2
  exact ⟨rfl, HB.out⟩
theorem lsplit (k : Int) (a : Option Addr) (cap : Nat) (zs : List Int) (w : World) (hk : k = 1 ∨ k = 2) (hr : Row w a zs) (hcap : zs.length ≤ cap) (hm : zs.length ≤ 140737488351232) :
    Calls Try.prog 5 #[.int .i64 k, .slice a zs.length cap] w fun e w' => RSp w (nl k) (laL (bb k) zs) e w' := by
  have h0 : ke k = 0 := by rcases hk with rfl | rfl <;> rfl
  have HC := TW.hide (fun W => count k W)
  rw [h0] at HC
  have HS := TW.hide (fun W (h : Below w.heap.size w W) => split k 0 0 (.slice none 0 0) (.slice none 0 0) a cap zs W hk (hr.below h) hcap hm)
  unfold shC at HS
  generalize nl k = n at *
  generalize laL (bb k) zs = L at *
  generalize zs.length = len at *
  clear h0 hk hr
  go_enter Try.func5, Try.ntmps5
  go_wp2_with fail
  refine (HC.out _).mono ?_
  rintro e w1 ⟨rfl, hb⟩
  have HB := TW.hide hb
  clear hb
  go_wp2_with fail
  refine (HS.out _ HB.out).mono ?_
  rintro e w2 ⟨g, qs, rfl, hl, hg, hb2⟩
  have HL := TW.hide (hl.mono HB.out.size)
  have HB2 : Hid (Below w.heap.size w w2) := below_row HB.out hb2 HB.out.size
  have hg2 : w.heap.size ≤ g := Nat.le_trans HB.out.size hg
  clear hl hb2
  go_wp2
  go_ret2
  exact ⟨g, qs, rfl, HL.out, hg2, HB2.out⟩
end LW
end Go.Proofs.Ythbakhgfnfdahab
