/-
  What the laws own call awake gives: true, whatever the world.
-/
import Derived.Test.YtbjelenmnlmodabHex
namespace Go.Proofs.Ytbjelenmnlmodab
open Go.RowKit
set_option linter.unusedVariables false
namespace LW
open Words Turn
theorem ld1234 : ld [1, 2, 3, 4] 0 4 = (67305985, 0) := by decide
theorem hx0255 : strOfNums (hx [0, 255]) = ⟨#[48, 48, 102, 102]⟩ := by decide
theorem byt1234 : Byt [1, 2, 3, 4] := by intro z hz; simp at hz; omega
theorem byt0255 : Byt [0, 255] := by intro z hz; simp at hz; omega
theorem row_new (w : World) (zs : List Int) (cs : Array Value) (h : cs.toList = vs zs) : Row (w.alloc (.cells cs 5)) (some ⟨w.heap.size, 0, none⟩) zs := by
  refine .inr ⟨w.heap.size, 0, rfl, fun i hi => ?_⟩
  have hg : (w.alloc (.cells cs 5)).heap[w.heap.size]? = some (.cells cs 5 (0, 0)) := by
    show (w.heap.push _)[w.heap.size]? = _
    simp
  rw [cell_of_row _ _ _ cs 5 (0, 0) hg, Nat.zero_add, ← Array.getElem?_toList, h, vs_get zs i hi]
theorem awake (w : World) : Calls Try.prog 12 #[] w fun e w' => e = .returned (.bool true) ∧ Below w.heap.size w w' := by
  have h1 := fun W (h : Row W _ _) => load32 (some ⟨w.heap.size, 0, none⟩) 4 [1, 2, 3, 4] 0 W byt1234 h (by simp [maxLen]) (by omega) (by omega)
  have h2 := fun (W : World) (h : Row W _ _) => hex (some ⟨w.heap.size + 1, 0, none⟩) 2 [0, 255] W byt0255 h (by simp)
  have h3 := fun W => TW.turn64 1 1 W (by omega) (by omega)
  rw [ld1234] at h1
  rw [hx0255] at h2
  rw [T64_one] at h3
  have R1 := TW.hide (row_new w [1, 2, 3, 4] #[.int .u8 1, .int .u8 2, .int .u8 3, .int .u8 4] rfl)
  have R2 := TW.hide (fun W : World => row_new W [0, 255] #[.int .u8 0, .int .u8 255] rfl)
  have H1 := TW.hide h1
  have H2 := TW.hide h2
  have H3 := TW.hide h3
  clear h1 h2 h3
  go_enter Try.func12, Try.ntmps12
  go_wp2_with fail
  refine (H1.out _ R1.out).mono ?_
  rintro e w1 ⟨rfl, rfl⟩
  go_wp2_with fail
  refine (H2.out _ (by simpa using R2.out (w.alloc _))).mono ?_
  rintro e w1 ⟨rfl, hb⟩
  have HB : Hid (Below w.heap.size w w1) := (((Below.refl _ _).alloc (Nat.le_refl _) _).alloc (by simp) _).trans (hb.mono (by simp; omega))
  clear hb
  go_wp2_with fail
  refine (H3.out _).mono ?_
  rintro e w2 ⟨rfl, rfl⟩
  go_wp2_with fail
  go_ret
  exact ⟨rfl, HB.out⟩
end LW
end Go.Proofs.Ytbjelenmnlmodab
