/-
  The walk of WordHex: it returns true for every input of bulk at most 1048576.
-/
import Derived.Test.YtbjelenmnlmodabRHex
import Derived.Test.YtbjelenmnlmodabRUnHex
import Derived.Test.YtbjelenmnlmodabArgs
namespace Go.Proofs.Ytbjelenmnlmodab
open Go.RowKit Go.ChangeShapes
set_option linter.unusedVariables false
namespace LW
open Words Txt
set_option maxHeartbeats 1000000 in
theorem hexes (a : Option Addr) (cap : Nat) (zs : List Int) (s : ByteArray) (w : World) (hz : Byt zs) (hr : Row w a zs) (hn : a = none → cap = 0) (hm : zs.length ≤ 1048576) (hs : s.size ≤ 1048576) :
    Calls Try.prog 5 #[.slice a zs.length cap, .string s] w fun e w' => e = .returned (.bool true) ∧ Below w.heap.size w w' := by
  have t1 := fun W h => hex a cap zs W hz h (by omega)
  have t2 := fun W h => rhex a cap zs W hz h (by omega)
  have t3 := fun W => unhex s W (by omega)
  have t4 := fun W => runhex s W (by omega)
  have hbl : (hexB (sb s)).length ≤ maxLen := by
    unfold hexB maxLen
    split
    · rw [uh_length, sb_length]; omega
    · simp
  have t5 := fun a1 a2 c1 c2 W h1 h2 => same a1 a2 c1 c2 (hexB (sb s)) (hexB (sb s)) W h1 h2 hbl hbl
  have ho := fun (w' : World) (B : Nat) (x : Value) (h : w'.ownsRow B 5 1 x (hexB (sb s)).length (vs (hexB (sb s)))) => row_of_own h
  rw [show decide (hexB (sb s) = hexB (sb s)) = true by simp] at t5
  generalize strOfNums (hx zs) = txt at *
  generalize hexB (sb s) = B at *
  generalize hexAt (sb s) = A at *
  generalize hexE (sb s) = E at *
  have H1 := TW.hide t1
  have H2 := TW.hide t2
  have H3 := TW.hide t3
  have H4 := TW.hide t4
  have H5 := TW.hide t5
  have HO := TW.hide ho
  have HR := TW.hide hr
  generalize zs.length = len at *
  clear t1 t2 t3 t4 t5 ho hr hz hn hbl
  go_enter Try.func5, Try.ntmps5
  go_wp2_with fail
  refine (H1.out _ HR.out).mono ?_
  rintro e w1 ⟨rfl, hb1⟩
  have B1 := TW.hide hb1
  clear hb1
  go_wp2_with fail
  refine (H3.out _).mono ?_
  rintro e w2 ⟨x2, rfl, hown2, hb2⟩
  obtain ⟨a2, cap2, rfl, hr2, _⟩ := HO.out _ _ _ hown2
  have R2 := TW.hide hr2
  have B2 : Hid (Below w.heap.size w w2) := B1.out.trans (hb2.mono B1.out.size)
  clear hown2 hr2 hb2
  go_wp2_with fail
  refine (H4.out _).mono ?_
  rintro e w3 ⟨x3, rfl, hown3, hb3⟩
  obtain ⟨a3, cap3, rfl, hr3, _⟩ := HO.out _ _ _ hown3
  have R3 := TW.hide hr3
  have R2' := TW.hide (R2.out.below hb3)
  have B3 : Hid (Below w.heap.size w w3) := B2.out.trans (hb3.mono B2.out.size)
  clear hown3 hr3 hb3
  go_wp2_with fail
  refine (H2.out _ (HR.out.below B3.out)).mono ?_
  rintro e w4 ⟨rfl, hb4⟩
  have R3' := TW.hide (R3.out.below hb4)
  have R2'' := TW.hide (R2'.out.below hb4)
  have B4 : Hid (Below w.heap.size w w4) := B3.out.trans (hb4.mono B3.out.size)
  clear hb4
  go_wp2_with fail
  refine (H5.out _ _ _ _ _ R2''.out R3'.out).mono ?_
  rintro e w5 ⟨rfl, q5, rfl⟩
  go_wp2_with fail
  go_ret
  exact ⟨rfl, (B4.out.trans ⟨rfl, rfl, rfl, Nat.le_refl _, fun _ _ => rfl⟩)⟩
end LW
end Go.Proofs.Ytbjelenmnlmodab
